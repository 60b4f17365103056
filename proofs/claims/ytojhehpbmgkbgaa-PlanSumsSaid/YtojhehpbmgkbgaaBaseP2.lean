/- Texts merged: PlanB, PlanD, PlanR, ChkB, ChkC, RefB, RChk, PlanS, PlanT, Long, LitW, Live14, OpenD, Arg14. -/
import Derived.Test.YtojhehpbmgkbgaaBaseP1
import Derived.RangeFuncNested
import Derived.RangeFuncBound
import Derived.RangeFuncCalls
import Derived.RangeFuncLeaves
import Derived.Shelf.Abstract
import Derived.Shelf.RegionOpen
import Derived.WalkKit
import Derived.OwnWalkIn
import Derived.TacticsInMore
import Derived.LoopNIn
import Derived.LoopIn
import Derived.Lib.MinMax
import Derived.Test.YtojhehpbmgkbgaaProg
import Derived.Deep.Slices
import Derived.ChangeArms
import Derived.SizedLaws
import Derived.ShutString
import Derived.ProofKit
import Derived.OpenShut
/- How often a step may be tried, and whether there is no way back: the code's and the document's. -/
namespace Go.Proofs.Ytojhehpbmgkbgaa
open Go.RowKit

theorem triesN_no {l : List StepD} {k : Int} (h : k < 1 ∨ (l.length : Int) < k) : triesN l k = 0 := by unfold triesN; rw [if_pos h]
theorem triesN_at {l : List StepD} {q : Nat} {s : StepD} (h : l[q]? = some s) : triesN l ((q : Int) + 1) = triesF s := by
  have hq := (List.getElem?_eq_some_iff.1 h).1
  unfold triesN
  rw [if_neg (by omega), show ((q : Int) + 1 - 1).toNat = q from by omega, h]
  rfl
section
variable {w : World}
set_option maxHeartbeats 4000000 in
theorem Tries_any {F : Nat → Prop} {name : ByteArray} {v : Value} {l : List StepD} {k : Int} (h : StepsAt F w v l) (hk : I64 k) (hw : ∀ s ∈ l, s.wf) :
    Calls Try.prog 10 #[.agg #[.string name, v], .int .i64 k] w fun e w' => e = .returned (.int .i64 (triesN l k)) ∧ Later w w' := by
  obtain ⟨A, cap, rfl, hc1, hc2, _⟩ := FlatAt.shape h
  obtain ⟨n, hn⟩ : ∃ n, l.length = n := ⟨_, rfl⟩
  rw [hn] at h hc1 ⊢
  obtain ⟨W1, hW1⟩ : ∃ W1, W1 = w.alloc (.cells #[.string name, .slice A n cap] 24 (0, 0)) := ⟨_, rfl⟩
  obtain ⟨y, hy⟩ : ∃ y, y = w.heap.size := ⟨_, rfl⟩
  have B1 : Hid (DefBox y name (.slice A n cap) W1) := by rw [hW1, hy]; exact heap_alloc_new w _
  have L1 : Hid (Later w W1) := by rw [hW1]; exact (Below.refl _ _).alloc (Nat.le_refl _) _
  have HW1 := hide hW1.symm
  have HY := hide hy.symm
  have H := hide (StepsAt.kept h (Kept.of_below L1.out _))
  have c1 : W1.cell? ⟨y, 1, none⟩ = some (.slice A n cap) := B1.out.steps
  obtain ⟨T, hT⟩ : ∃ T, triesN l k = T := ⟨_, rfl⟩
  rw [hT]
  have HT := hide hT
  unfold I64 at hk
  have HN := hide hn
  clear h hW1 hy hT hc2 hn
  by_cases hk1 : k < 1
  · obtain rfl : T = 0 := by rw [← HT.out]; exact triesN_no (.inl hk1)
    go_enter Try.func10, Try.ntmps10
    go_wp2_with (fail)
    have hw := HW1.out
    have hyy := HY.out
    simp only [hw, hyy]
    clear hw hyy
    go_wp2
    go_ret
    exact ⟨rfl, L1.out⟩
  · by_cases hk3 : (n : Int) < k
    · obtain rfl : T = 0 := by rw [← HT.out]; exact triesN_no (.inr (by rw [HN.out]; exact hk3))
      go_enter Try.func10, Try.ntmps10
      go_wp2_with (fail)
      have hw := HW1.out
      have hyy := HY.out
      simp only [hw, hyy]
      clear hw hyy
      go_wp2
      go_ret
      exact ⟨rfl, L1.out⟩
    · obtain ⟨q, rfl⟩ : ∃ q : Nat, k = (q : Int) + 1 := ⟨(k - 1).toNat, by omega⟩
      have hqn : q < n := by omega
      obtain ⟨s, b, off, c', hx, hvv, _, _, _, hr⟩ := StepsAt.at_ H.out (i := q) (by rw [HN.out]; exact hqn)
      rw [HN.out] at hvv
      obtain ⟨rfl, rfl⟩ : A = some ⟨b, off, none⟩ ∧ cap = c' := by injection hvv with e1 _ e3; exact ⟨e1, e3⟩
      obtain rfl : T = triesF s := by rw [← HT.out]; exact triesN_at hx
      have C := hide (tries_any (w := W1) s (hw s (List.mem_of_getElem? hx)).2.2.1)
      obtain ⟨r0, r1, r2, r3, r4, r5⟩ := range_step hr
      have hk5 : (q : Int) + 1 - 1 = (q : Int) := by omega
      have hk6 : ¬ ((n : Int) < (q : Int) + 1) := hk3
      have hk7 : ¬ ((q : Int) + 1 < 1) := hk1
      clear hvv hx hk1 hk3 hw hr
      unfold StepD.cells at C
      rw [← HW1.out] at r0 r1 r2 r3 r4 r5
      go_enter Try.func10, Try.ntmps10
      go_wp2_with (fail)
      have hw := HW1.out
      simp only [hw]
      clear hw r0 r1 r2 r3 r4 r5
      refine C.out.mono ?_
      rintro e w2 ⟨rfl, hl2⟩
      have HL := hide (L1.out.trans hl2)
      clear hl2 C
      go_wp2
      go_ret
      exact ⟨rfl, HL.out⟩

set_option maxHeartbeats 4000000 in
theorem rTries_any {F : Nat → Prop} {name : ByteArray} {v : Value} {l : List StepD} {k : Int} (h : StepsAt F w v l) (hk : I64 k) (hw : ∀ s ∈ l, s.wf) :
    Calls Try.prog 11 #[.agg #[.string name, v], .int .i64 k] w fun e w' => e = .returned (.int .i64 (triesN l k)) ∧ Later w w' := by
  obtain ⟨A, cap, rfl, hc1, hc2, _⟩ := FlatAt.shape h
  obtain ⟨n, hn⟩ : ∃ n, l.length = n := ⟨_, rfl⟩
  rw [hn] at h hc1 ⊢
  obtain ⟨W1, hW1⟩ : ∃ W1, W1 = w.alloc (.cells #[.string name, .slice A n cap] 24 (0, 0)) := ⟨_, rfl⟩
  obtain ⟨y, hy⟩ : ∃ y, y = w.heap.size := ⟨_, rfl⟩
  have B1 : Hid (DefBox y name (.slice A n cap) W1) := by rw [hW1, hy]; exact heap_alloc_new w _
  have L1 : Hid (Later w W1) := by rw [hW1]; exact (Below.refl _ _).alloc (Nat.le_refl _) _
  have HW1 := hide hW1.symm
  have HY := hide hy.symm
  have H := hide (StepsAt.kept h (Kept.of_below L1.out _))
  have c1 : W1.cell? ⟨y, 1, none⟩ = some (.slice A n cap) := B1.out.steps
  obtain ⟨T, hT⟩ : ∃ T, triesN l k = T := ⟨_, rfl⟩
  rw [hT]
  have HT := hide hT
  unfold I64 at hk
  have HN := hide hn
  clear h hW1 hy hT hc2 hn
  by_cases hk1 : k < 1
  · obtain rfl : T = 0 := by rw [← HT.out]; exact triesN_no (.inl hk1)
    go_enter Try.func11, Try.ntmps11
    go_wp2_with (fail)
    have hw := HW1.out
    have hyy := HY.out
    simp only [hw, hyy]
    clear hw hyy
    go_wp2
    go_ret
    exact ⟨rfl, L1.out⟩
  · by_cases hk3 : (n : Int) < k
    · obtain rfl : T = 0 := by rw [← HT.out]; exact triesN_no (.inr (by rw [HN.out]; exact hk3))
      go_enter Try.func11, Try.ntmps11
      go_wp2_with (fail)
      have hw := HW1.out
      have hyy := HY.out
      simp only [hw, hyy]
      clear hw hyy
      go_wp2
      go_ret
      exact ⟨rfl, L1.out⟩
    · obtain ⟨q, rfl⟩ : ∃ q : Nat, k = (q : Int) + 1 := ⟨(k - 1).toNat, by omega⟩
      have hqn : q < n := by omega
      obtain ⟨s, b, off, c', hx, hvv, _, _, _, hr⟩ := StepsAt.at_ H.out (i := q) (by rw [HN.out]; exact hqn)
      rw [HN.out] at hvv
      obtain ⟨rfl, rfl⟩ : A = some ⟨b, off, none⟩ ∧ cap = c' := by injection hvv with e1 _ e3; exact ⟨e1, e3⟩
      have hTs : T = triesF s := by rw [← HT.out]; exact triesN_at hx
      have hwf := (hw s (List.mem_of_getElem? hx)).2.2.1
      unfold triesF outB at hTs
      unfold I64 at hwf
      obtain ⟨r0, r1, r2, r3, r4, r5⟩ := range_step hr
      have hk5 : (q : Int) + 1 - 1 = (q : Int) := by omega
      have hk6 : ¬ ((n : Int) < (q : Int) + 1) := hk3
      have hk7 : ¬ ((q : Int) + 1 < 1) := hk1
      obtain ⟨r, hrr⟩ : ∃ r, s.retry = r := ⟨_, rfl⟩
      rw [hrr] at r2 hTs hwf
      clear hvv hx hk1 hk3 hw hr r0 r1 r3 r4 r5 hrr
      by_cases h1 : r < 0
      · obtain rfl : T = 0 := by rw [hTs]; simp [h1]
        clear hTs
        rw [← HW1.out] at r2
        go_enter Try.func11, Try.ntmps11
        go_wp2
        rw [HW1.out]
        go_ret
        exact ⟨rfl, L1.out⟩
      · by_cases h2 : 9 < r
        · obtain rfl : T = 0 := by rw [hTs]; simp [h2]
          clear hTs
          rw [← HW1.out] at r2
          go_enter Try.func11, Try.ntmps11
          go_wp2
          rw [HW1.out]
          go_ret
          exact ⟨rfl, L1.out⟩
        · obtain rfl : T = r + 1 := by rw [hTs]; simp [h1, h2]
          clear hTs HT
          rw [← HW1.out] at r2
          go_enter Try.func11, Try.ntmps11
          go_wp2
          rw [HW1.out]
          go_ret
          exact ⟨rfl, L1.out⟩

set_option maxHeartbeats 2000000 in
theorem sealed_any {F G : Nat → Prop} {name : ByteArray} {v v2 : Value} {l : List StepD} {hs : List Bool} (h : StepsAt F w v l) (hl : l.length ≤ 1000) (hh : BoolsAt G w v2 hs) :
    Calls Try.prog 14 #[.agg #[.string name, v], v2] w fun e w' => e = .returned (.bool (sealedF l hs)) ∧ Later w w' := by
  obtain ⟨A, cap, rfl, hc1, hc2, _⟩ := FlatAt.shape h
  obtain ⟨A2, cap2, rfl, _, _, _⟩ := FlatAt.shape hh
  obtain ⟨n, hn⟩ : ∃ n, l.length = n := ⟨_, rfl⟩
  obtain ⟨n2, hn2⟩ : ∃ n, hs.length = n := ⟨_, rfl⟩
  rw [hn] at h hc1
  rw [hn2] at hh
  rw [hn, hn2]
  obtain ⟨W1, hW1⟩ : ∃ W1, W1 = w.alloc (.cells #[.string name, .slice A n cap] 24 (0, 0)) := ⟨_, rfl⟩
  obtain ⟨y, hy⟩ : ∃ y, y = w.heap.size := ⟨_, rfl⟩
  have B1 : Hid (DefBox y name (.slice A n cap) W1) := by rw [hW1, hy]; exact heap_alloc_new w _
  have L1 : Hid (Later w W1) := by rw [hW1]; exact (Below.refl _ _).alloc (Nat.le_refl _) _
  have HW1 := hide hW1.symm
  have HY := hide hy.symm
  have C1 := hide (pivot_any (name := name) (StepsAt.kept h (Kept.of_below L1.out _)) hl)
  have C2 : Hid (∀ W, Later w W → Calls Try.prog 25 #[.slice A2 n2 cap2, .int .i64 ((pivotN l : Nat) : Int)] W fun e w' => e = .returned (.bool (sealedF l hs)) ∧ w' = W) := fun W hlW => isHit_any (BoolsAt.kept hh (Kept.of_below hlW _))
  have c0 : W1.cell? ⟨y, 0, none⟩ = some (.string name) := B1.out.name_
  have c1 : W1.cell? ⟨y, 1, none⟩ = some (.slice A n cap) := B1.out.steps
  obtain ⟨S, hS⟩ : ∃ S, sealedF l hs = S := ⟨_, rfl⟩
  obtain ⟨P, hP⟩ : ∃ P : Nat, pivotN l = P := ⟨_, rfl⟩
  rw [hS] at C2 ⊢
  rw [hP] at C1 C2
  clear h hh hn hn2 hW1 hy hc1 hc2 hS hP
  go_enter Try.func14, Try.ntmps14
  go_wp2_with (fail)
  have hw := HW1.out
  have hyy := HY.out
  simp only [hw, hyy]
  clear hw hyy
  go_wp2_with (fail)
  refine C1.out.mono ?_
  rintro e w2 ⟨rfl, hl2⟩
  have HL := hide (L1.out.trans hl2)
  clear hl2 C1 c0 c1
  go_wp2_with (fail)
  refine (C2.out _ HL.out).mono ?_
  rintro e w3 ⟨rfl, hq⟩
  obtain rfl := hq.symm
  go_wp2
  go_ret
  exact ⟨rfl, HL.out⟩

set_option maxHeartbeats 2000000 in
theorem rsealed_any {F G : Nat → Prop} {name : ByteArray} {v v2 : Value} {l : List StepD} {hs : List Bool} (h : StepsAt F w v l) (hl : l.length ≤ 1000) (hh : BoolsAt G w v2 hs) :
    Calls Try.prog 15 #[.agg #[.string name, v], v2] w fun e w' => e = .returned (.bool (sealedF l hs)) ∧ Later w w' := by
  obtain ⟨A, cap, rfl, hc1, hc2, _⟩ := FlatAt.shape h
  obtain ⟨A2, cap2, rfl, _, _, _⟩ := FlatAt.shape hh
  obtain ⟨n, hn⟩ : ∃ n, l.length = n := ⟨_, rfl⟩
  obtain ⟨n2, hn2⟩ : ∃ n, hs.length = n := ⟨_, rfl⟩
  have hle := pivotN_le l
  rw [hn] at h hc1
  rw [hn2] at hh
  rw [hn, hn2]
  obtain ⟨W1, hW1⟩ : ∃ W1, W1 = w.alloc (.cells #[.string name, .slice A n cap] 24 (0, 0)) := ⟨_, rfl⟩
  obtain ⟨y, hy⟩ : ∃ y, y = w.heap.size := ⟨_, rfl⟩
  have B1 : Hid (DefBox y name (.slice A n cap) W1) := by rw [hW1, hy]; exact heap_alloc_new w _
  have L1 : Hid (Later w W1) := by rw [hW1]; exact (Below.refl _ _).alloc (Nat.le_refl _) _
  have HW1 := hide hW1.symm
  have HY := hide hy.symm
  have C1 : Hid (∀ W, Later w W → Calls Try.prog 9 #[.agg #[.string name, .slice A n cap]] W fun e w' => e = .returned (.int .i64 ((pivotN l : Nat) : Int)) ∧ Later W w') := by
    have h2 := fun W (hlW : Later w W) => rpivot_any (name := name) (StepsAt.kept h (Kept.of_below hlW _)) hl
    exact h2
  have C2 : Hid (∀ W, Later w W → Calls Try.prog 26 #[.slice A2 n2 cap2, .int .i64 ((pivotN l : Nat) : Int)] W fun e w' => e = .returned (.bool (sealedF l hs)) ∧ w' = W) := fun W hlW => ris_any (BoolsAt.kept hh (Kept.of_below hlW _)) (by unfold I64; omega)
  have c0 : W1.cell? ⟨y, 0, none⟩ = some (.string name) := B1.out.name_
  have c1 : W1.cell? ⟨y, 1, none⟩ = some (.slice A n cap) := B1.out.steps
  obtain ⟨S, hS⟩ : ∃ S, sealedF l hs = S := ⟨_, rfl⟩
  have HS0 : Hid (pivotN l = 0 → S = false) := fun h0 => by rw [← hS]; unfold sealedF; exact hit_no (.inl (by rw [h0]; decide))
  obtain ⟨P, hP⟩ : ∃ P : Nat, pivotN l = P := ⟨_, rfl⟩
  rw [hS] at C2 ⊢
  rw [hP] at C1 C2 HS0 hle
  clear h hh hn hn2 hW1 hy hc1 hc2 hS hP
  go_enter Try.func15, Try.ntmps15
  go_wp2_with (fail)
  have hw := HW1.out
  have hyy := HY.out
  simp only [hw, hyy]
  clear hw hyy
  go_wp2_with (fail)
  refine (C1.out _ L1.out).mono ?_
  rintro e w2 ⟨rfl, hl2⟩
  have B2 := hide (B1.out.below hl2)
  have HL := hide (L1.out.trans hl2)
  have d0 : w2.cell? ⟨y, 0, none⟩ = some (.string name) := B2.out.name_
  have d1 : w2.cell? ⟨y, 1, none⟩ = some (.slice A n cap) := B2.out.steps
  clear hl2 c0 c1
  by_cases hp : P = 0
  · subst hp
    obtain rfl : S = false := HS0.out rfl
    go_wp2
    go_ret
    exact ⟨rfl, HL.out⟩
  · have hp2 : (0 : Int) < (P : Int) := by omega
    go_wp2_with (fail)
    refine (C1.out _ HL.out).mono ?_
    rintro e w3 ⟨rfl, hl3⟩
    have HL3 := hide (HL.out.trans hl3)
    clear hl3 d0 d1 C1
    go_wp2_with (fail)
    refine (C2.out _ HL3.out).mono ?_
    rintro e w4 ⟨rfl, hq⟩
    obtain rfl := hq.symm
    go_wp2
    go_ret
    exact ⟨rfl, HL3.out⟩
end
end Go.Proofs.Ytojhehpbmgkbgaa
/- The way down: steps are gone down by a range over a function. -/
namespace Go.Proofs.Ytojhehpbmgkbgaa
open Go.RowKit Go.Shelf

attribute [local go_sem] Oper.semAt_some

def noStep : StepD := ⟨⟨#[]⟩, 0, 0, 0, false, false⟩
/-- What has come when k rounds are over: steps N, N - 1, .. with their numbers. -/
def cameN (l : List StepD) (N k : Nat) : List (Nat × StepD) := (List.range k).map fun j => (N - j, (l[N - j - 1]?).getD noStep)
theorem came_succ (l : List StepD) (N k : Nat) : cameN l N (k + 1) = cameN l N k ++ [(N - k, (l[N - k - 1]?).getD noStep)] := by simp [cameN, List.range_succ]
theorem came_len (l : List StepD) (N k : Nat) : (cameN l N k).length = k := by simp [cameN]
theorem came_mem {l : List StepD} {N k j : Nat} (h : j < k) : (N - j, (l[N - j - 1]?).getD noStep) ∈ cameN l N k := by
  simp only [cameN, List.mem_map, List.mem_range]; exact ⟨j, h, rfl⟩
def offB (hs : List Bool) (p : Nat × StepD) : Bool := p.2.undo && hitB hs (p.1 : Int)
theorem off_at {l : List StepD} {hs : List Bool} {N j : Nat} (h : j < N) (hN : N ≤ l.length) : offB hs (N - j, (l[N - j - 1]?).getD noStep) = okAt l hs (N - j - 1) := by
  have hl : l[N - j - 1]? = some l[N - j - 1] := List.getElem?_eq_getElem (by omega)
  rw [okAt_hit hl]
  unfold offB
  rw [hl]
  simp only [Option.getD_some]
  rw [show ((N - j : Nat) : Int) = ((N - j - 1 : Nat) : Int) + 1 from by omega]
theorem down_skip {l : List StepD} {hs : List Bool} {N : Nat} : ∀ (k : Nat), k ≤ N → (∀ j, j < k → okAt l hs (N - j - 1) = false) → downN l hs N = downN l hs (N - k)
  | 0, _, _ => rfl
  | k + 1, hk, h => by
    rw [down_skip k (by omega) fun j hj => h j (by omega)]
    have h1 := h k (by omega)
    obtain ⟨m, hm⟩ : ∃ m, N - k = m + 1 := ⟨N - k - 1, by omega⟩
    rw [show N - k - 1 = m from by omega] at h1
    rw [hm, show N - (k + 1) = m from by omega, downN, if_neg (by rw [h1]; simp)]
theorem down_all {l : List StepD} {hs : List Bool} {N : Nat} (hN : N ≤ l.length) (h : ∀ p ∈ cameN l N N, offB hs p = false) : downN l hs N = 0 := by
  rw [down_skip N (Nat.le_refl _) fun j hj => by rw [← off_at hj hN]; exact h _ (came_mem hj), Nat.sub_self]
  rfl
theorem down_found {l : List StepD} {hs : List Bool} {N k : Nat} (hN : N ≤ l.length) (hk : k ≤ N) {ini : List (Nat × StepD)} {p : Nat × StepD} (he : cameN l N k = ini ++ [p]) (hi : ∀ q ∈ ini, offB hs q = false) (hp : offB hs p = true) : downN l hs N = p.1 := by
  obtain ⟨k', rfl⟩ : ∃ k', k = k' + 1 := by
    cases k with
    | zero => simp [cameN] at he
    | succ k' => exact ⟨k', rfl⟩
  rw [came_succ] at he
  obtain ⟨rfl, e5⟩ := List.append_inj' he rfl
  obtain rfl : (N - k', (l[N - k' - 1]?).getD noStep) = p := by simpa using e5
  rw [down_skip k' (by omega) fun j hj => by rw [← off_at (by omega) hN]; exact hi _ (came_mem hj)]
  rw [off_at (by omega) hN] at hp
  obtain ⟨m, hm⟩ : ∃ m, N - k' = m + 1 := ⟨N - k' - 1, by omega⟩
  rw [hm, Nat.add_sub_cancel] at hp
  rw [hm, downN, if_pos hp]

/-- All have come, or the body has said no. -/
def Gave (l : List StepD) (N : Nat) (J Jx : List (Nat × StepD) → World → Prop) (W : World) : Prop := (∃ ys, ys = cameN l N N ∧ J ys W) ∨ (∃ pre, (∃ k, k ≤ N ∧ pre = cameN l N k) ∧ Jx pre W)
/-- What a round is handed. -/
abbrev encS (x : Nat × StepD) : Array Value := #[.int .i64 (x.1 : Int), .agg #[.string x.2.name, .int .i64 x.2.stub, .int .i64 x.2.retry, .int .i64 x.2.wait, .bool x.2.undo, .bool x.2.pivot]]

set_option maxRecDepth 100000 in
set_option maxHeartbeats 2000000 in
/-- The steps, down from a number: for every body of a loop that keeps what lay. -/
theorem down1_in {G : Nat → Prop} (F : Fence) (n : Nat) (hF : F.fn 31) (hro : F.round = none) (hn : 1 ≤ n) (lr bf bl len cap N : Nat) {A : Option Addr} {l : List StepD} {w : World} (H : Hid (StepsAt G w (.slice A len cap) l)) (hlen : Hid (l.length = len)) (M : Int) (hM : M ≤ (len : Int)) (hM2 : -9223372036854775808 ≤ M) (hlen2 : len ≤ 1000) (hN : N = M.toNat) (fr : Int) (hfr : min fr (len : Int) = M) (J Jx : List (Nat × StepD) → World → Prop)
    (hY : ∀ pre x W, J pre W → pre.length < N → YieldAt F (n - 1) Try.prog lr (encS x) W fun e W' =>
      (e = .returned (.bool true) ∧ J (pre ++ [x]) W' ∧ Below w.heap.size W W') ∨ (e = .returned (.bool false) ∧ Jx (pre ++ [x]) W'))
    (W : World) (hW : Below w.heap.size w W) (bF : bf < w.heap.size) (bL : bl < w.heap.size) (hf : w.cell? ⟨bf, 0, none⟩ = some (.int .i64 fr)) (hl : w.cell? ⟨bl, 0, none⟩ = some (.slice A len cap)) (h0 : J [] W) :
    CallsIn F n Try.prog 31 #[.func (.yield lr) #[] #[], .pointer (some ⟨bf, 0, none⟩), .pointer (some ⟨bl, 0, none⟩)] W fun e W' => (∃ v, e = .returned v) ∧ Gave l N J Jx W' := by
  have cf : W.cell? ⟨bf, 0, none⟩ = some (.int .i64 fr) := (hW.cell (p := ⟨bf, 0, none⟩) bF).trans hf
  have cl : W.cell? ⟨bl, 0, none⟩ = some (.slice A len cap) := (hW.cell (p := ⟨bl, 0, none⟩) bL).trans hl
  have HM := hide hfr
  have HL := hide hl
  clear hfr hf hl
  refine callsIn_of_wp Try.func31 rfl hF ?_ hro
  simp only [Try.ntmps31, List.size_toArray, List.length_cons, List.length_nil, Nat.reduceAdd, Nat.reduceSub, Array.replicate_succ, Array.replicate_zero, List.push_toArray, List.append_toArray, List.nil_append, List.cons_append]
  gi_wp2
  have hm := HM.out
  simp only [hm]
  clear hm cf cl
  gi_loopw [4] (fun i wr => ∃ k : Nat, k ≤ N ∧ i = .int .i64 (M - (k : Int)) ∧ J (cameN l N k) wr ∧ Below w.heap.size w wr)
    (fun i _ => (intOf i).toNat)
  case atStart => exact ⟨0, Nat.zero_le _, by simp, h0, hW⟩
  case round =>
    obtain ⟨k, hk, rfl, hJs, hnx⟩ := hrel
    have cl : wr.cell? ⟨bl, 0, none⟩ = some (.slice A len cap) := (hnx.cell (p := ⟨bl, 0, none⟩) bL).trans HL.out
    by_cases hlt : k < N
    · have hq : N - k - 1 < len := by omega
      obtain ⟨s, b, off, c', hx, hvv, _, _, _, hr⟩ := StepsAt.at_ (StepsAt.kept H.out (Kept.of_below hnx _)) (i := N - k - 1) (by rw [hlen.out]; exact hq)
      rw [hlen.out] at hvv
      obtain ⟨rfl, rfl⟩ : A = some ⟨b, off, none⟩ ∧ cap = c' := by injection hvv with e1 _ e3; exact ⟨e1, e3⟩
      obtain ⟨fn, tmps, assign, body, hy, hR⟩ := hY _ (N - k, s) wr hJs (by rw [came_len]; exact hlt)
      obtain ⟨q, hqq⟩ : ∃ q : Nat, N - k - 1 = q := ⟨_, rfl⟩
      rw [hqq] at hr hq hx
      obtain ⟨r0, r1, r2, r3, r4, r5⟩ := range_step hr
      have e1 : M - (k : Int) = (q : Int) + 1 := by omega
      have e2 : N - k = q + 1 := by omega
      have e3 : (q : Int) + 1 - 1 = (q : Int) := by omega
      have HX := hide hx
      have HQ := hide hqq
      dsimp only [encS] at hy
      rw [e2] at hy hR
      simp only [Int.natCast_add, Int.cast_ofNat_Int] at hy
      have HK := hide hk
      have HLT := hide hlt
      have HN := hide hN
      have HMM := hide hM
      have hq0 : 0 < (q : Int) + 1 := by omega
      have HE1 := hide e1
      have HE2 := hide e2
      simp only [e1]
      clear hx hqq hvv hr e1 e2 hk hlt hN hM
      gi_wp2
      refine hR.mono ?_
      have hcame : cameN l N k ++ [(q + 1, s)] = cameN l N (k + 1) := by
        rw [came_succ, HE2.out, Nat.add_sub_cancel, HX.out]
        rfl
      rw [hcame]
      rintro e W3 (⟨rfl, hJ3, hk3⟩ | ⟨rfl, hJx3⟩)
      · gi_wp2
        go_roundw
        case rel => exact ⟨k + 1, HLT.out, by have := HE1.out; rw [show (q : Int) = M - ((k + 1 : Nat) : Int) from by omega], hJ3, hnx.trans hk3⟩
        case measure => simp [intOf]
      · gi_wp2
        refine bodyPost_ret (results_none rfl _ _ _) rfl ?_
        exact ⟨⟨_, rfl⟩, .inr ⟨_, ⟨k + 1, HLT.out, rfl⟩, hJx3⟩⟩
    · have hno : ¬ 0 < M - (k : Int) := by omega
      have hkN : k = N := by omega
      rw [hkN] at hJs
      have HJ := hide hJs
      clear hN hkN hJs hlt hk hM hM2 hY
      gi_wp2
      go_end0
      exact ⟨⟨_, rfl⟩, .inl ⟨_, rfl, HJ.out⟩⟩

theorem down_stops {G : Nat → Prop} (F : Fence) (n : Nat) (hF : F.fn 31) (hro : F.round = none) (hn : 1 ≤ n) (bf bl len cap N : Nat) {A : Option Addr} {l : List StepD} {w : World} (H : StepsAt G w (.slice A len cap) l) (hlen : l.length = len) (hlen2 : len ≤ 1000) (fr : Int) (hfr : I64 fr) (hN : N = (min fr (len : Int)).toNat)
    (bF : bf < w.heap.size) (bL : bl < w.heap.size) (hf : w.cell? ⟨bf, 0, none⟩ = some (.int .i64 fr)) (hl : w.cell? ⟨bl, 0, none⟩ = some (.slice A len cap)) :
    SeqStopsK F n Try.prog 31 #[.pointer (some ⟨bf, 0, none⟩), .pointer (some ⟨bl, 0, none⟩)] encS (Below w.heap.size) (fun ys => ys = cameN l N N) (fun pre => ∃ k, k ≤ N ∧ pre = cameN l N k) N w :=
  fun lr J Jx W hW _ _ hY h0 => down1_in F n hF hro hn lr bf bl len cap N (hide H) (hide hlen) (min fr (len : Int)) (by omega) (by unfold I64 at hfr; omega) hlen2 hN fr rfl J Jx hY W hW bF bL hf hl h0

theorem step_own {β : Type} (B : Nat) (s : StepD) : Own (fun (_ : β) W => StepBox B s W) := fun _ X Y row hs hg hrow =>
  (hg.block B (lt_of_block hs) (fun e => by obtain ⟨o, h1, h2⟩ := hrow B e.symm; rw [show X.heap[B]? = _ from hs] at h1; cases h1; cases h2)).trans hs

set_option maxHeartbeats 1000000 in
theorem downF_any (A : Option Addr) (len cap : Nat) (fr : Int) (w : World) :
    Calls Try.prog 24 #[.slice A len cap, .int .i64 fr] w fun e w' => e = .returned (.func (.func 31) #[] #[.pointer (some ⟨w.heap.size + 1, 0, none⟩), .pointer (some ⟨w.heap.size, 0, none⟩)]) ∧ w' = (w.alloc (.cells #[.slice A len cap] 22 (0, 0))).alloc (.cells #[.int .i64 fr] 3 (0, 0)) := by
  go_enter Try.func24, Try.ntmps24
  go_wp2
  go_ret
  exact ⟨rfl, rfl⟩

theorem iint_own {β : Type} (B : Nat) (t : TypeId) (v : Value) : Own (fun (_ : β) W => Boxed W B t v) := boxed_own B t fun _ => v
set_option maxRecDepth 100000 in
set_option maxHeartbeats 4000000 in
theorem Down_any {G G2 : Nat → Prop} {name : ByteArray} {v v2 : Value} {l : List StepD} {hs : List Bool} {fr : Int} {w : World} (h : StepsAt G w v l) (hl : l.length ≤ 1000) (hh : BoolsAt G2 w v2 hs) (hfr : I64 fr) :
    Calls Try.prog 12 #[.agg #[.string name, v], v2, .int .i64 fr] w fun e w' => e = .returned (.int .i64 ((downF l hs fr : Nat) : Int)) ∧ Later w w' := by
  obtain ⟨A, cap, rfl, hc1, hc2, _⟩ := FlatAt.shape h
  obtain ⟨A2, cap2, rfl, _, _, _⟩ := FlatAt.shape hh
  obtain ⟨len, hn⟩ : ∃ n, l.length = n := ⟨_, rfl⟩
  obtain ⟨n2, hn2⟩ : ∃ n, hs.length = n := ⟨_, rfl⟩
  rw [hn] at h hc1 hl ⊢
  rw [hn2] at hh ⊢
  have HN2 := hide hn2
  obtain ⟨R, hR⟩ : ∃ R, downF l hs fr = R := ⟨_, rfl⟩
  rw [hR]
  obtain ⟨N, hN⟩ : ∃ N, N = (min fr (len : Int)).toNat := ⟨_, rfl⟩
  have hR2 : R = downN l hs N := by rw [← hR, hN]; unfold downF; rw [hn]
  have hNl : N ≤ l.length := by omega
  have HR := hide hR2
  have HN := hide hN
  have HNL := hide hNl
  have HLEN := hide hn
  have H := hide h
  have HH := hide hh
  clear h hh hn hn2 hR hR2 hc1 hc2 hN hNl
  refine (callsIn_wide (n := 5)).1 ?_
  refine callsIn_of_wp_marks Try.func12 rfl trivial ?_ rfl
  simp only [Try.ntmps12, List.size_toArray, List.length_cons, List.length_nil, Nat.reduceAdd, Nat.reduceSub, Array.replicate_succ, Array.replicate_zero, List.push_toArray, List.append_toArray, List.nil_append, List.cons_append]
  gi_wp2_with (refine ⟨trivial, ?_⟩; gi_at_call 24; refine (callsIn_wide.2 (downF_any _ _ _ _ _)).mono ?_; rintro e w' ⟨rfl, rfl⟩)
  have bH := (((Boxed.new (w.alloc (.cells #[.string name, .slice A len cap] 24 (0, 0))) 25 (.slice A2 n2 cap2)).alloc (.cells #[.int .i64 0] 3 (0, 0))).alloc (.cells #[.slice A len cap] 22 (0, 0))).alloc (.cells #[.int .i64 fr] 3 (0, 0))
  have bR := ((Boxed.new ((w.alloc (.cells #[.string name, .slice A len cap] 24 (0, 0))).alloc (.cells #[.slice A2 n2 cap2] 25 (0, 0))) 3 (.int .i64 0)).alloc (.cells #[.slice A len cap] 22 (0, 0))).alloc (.cells #[.int .i64 fr] 3 (0, 0))
  have bL := (Boxed.new (((w.alloc (.cells #[.string name, .slice A len cap] 24 (0, 0))).alloc (.cells #[.slice A2 n2 cap2] 25 (0, 0))).alloc (.cells #[.int .i64 0] 3 (0, 0))) 22 (.slice A len cap)).alloc (.cells #[.int .i64 fr] 3 (0, 0))
  have bF := Boxed.new ((((w.alloc (.cells #[.string name, .slice A len cap] 24 (0, 0))).alloc (.cells #[.slice A2 n2 cap2] 25 (0, 0))).alloc (.cells #[.int .i64 0] 3 (0, 0))).alloc (.cells #[.slice A len cap] 22 (0, 0))) 3 (.int .i64 fr)
  have hB0 : Below w.heap.size w (((((w.alloc (.cells #[.string name, .slice A len cap] 24 (0, 0))).alloc (.cells #[.slice A2 n2 cap2] 25 (0, 0))).alloc (.cells #[.int .i64 0] 3 (0, 0))).alloc (.cells #[.slice A len cap] 22 (0, 0))).alloc (.cells #[.int .i64 fr] 3 (0, 0))) :=
    (((((Below.refl _ w).alloc (Nat.le_refl _) _).alloc (by simp) _).alloc (by simp; omega) _).alloc (by simp; omega) _).alloc (by simp; omega) _
  have hsz : (((((w.alloc (.cells #[.string name, .slice A len cap] 24 (0, 0))).alloc (.cells #[.slice A2 n2 cap2] 25 (0, 0))).alloc (.cells #[.int .i64 0] 3 (0, 0))).alloc (.cells #[.slice A len cap] 22 (0, 0))).alloc (.cells #[.int .i64 fr] 3 (0, 0))).heap.size = w.heap.size + 5 := by simp
  simp only [World.size_alloc] at bH bR bL bF
  obtain ⟨W0, hW0⟩ : ∃ W0, ((((w.alloc (.cells #[.string name, .slice A len cap] 24 (0, 0))).alloc (.cells #[.slice A2 n2 cap2] 25 (0, 0))).alloc (.cells #[.int .i64 0] 3 (0, 0))).alloc (.cells #[.slice A len cap] 22 (0, 0))).alloc (.cells #[.int .i64 fr] 3 (0, 0)) = W0 := ⟨_, rfl⟩
  rw [hW0] at bH bR bL bF hB0 hsz ⊢
  clear hW0
  have H0 := StepsAt.kept H.out (Kept.of_below hB0 _)
  refine wpIn_rangeFunc_ownH rfl (by omega) (gf := 31) (lb := #[.pointer (some ⟨w.heap.size + 1 + 1 + 1 + 1, 0, none⟩), .pointer (some ⟨w.heap.size + 1 + 1 + 1, 0, none⟩)]) rfl trivial (enters_of Try.func31 (by kernel_rfl) rfl)
    (down_stops Fence.wide _ trivial rfl (by omega) (w.heap.size + 1 + 1 + 1 + 1) (w.heap.size + 1 + 1 + 1) len cap N H0 HLEN.out hl fr hfr HN.out (by omega) (by omega) bF.cell bL.cell) belowK_t (belowK_b (Nat.le_refl _)) (Below.refl _ _) (fun _ => rfl)
    (fun pre W => (((∀ p ∈ pre, offB hs p = false) ∧ Boxed W (w.heap.size + 1 + 1) 3 (.int .i64 0)) ∧ Boxed W (w.heap.size + 1) 25 (.slice A2 n2 cap2)) ∧ (Below w.heap.size w W ∧ W0.heap.size ≤ W.heap.size))
    (fun c pre W => (c = .ret ∧ ∃ ini p, pre = ini ++ [p] ∧ (∀ q ∈ ini, offB hs q = false) ∧ offB hs p = true ∧ Boxed W (w.heap.size + 1 + 1) 3 (.int .i64 (p.1 : Int))) ∧ Below w.heap.size w W)
    (OwnFrom.and (OwnFrom.and (OwnFrom.and (ownFrom_pure _ _) (Own.from (boxed_own _ _ _) _)) (Own.from (boxed_own _ _ _) _)) (OwnFrom.and (ownFrom_below (Nat.le_refl _) (by omega)) (fun _ X Y row hs' hg _ => Nat.le_trans hs' hg.size)))
    (fun c => OwnFrom.and (fun s X Y row hs' hg hr => by
      obtain ⟨hc, ini, p, e1, e2, e3, e4⟩ := hs'
      exact ⟨hc, ini, p, e1, e2, e3, boxed_own _ _ (fun (_ : Unit) => Value.int .i64 (p.1 : Int)) () X Y row e4 hg (fun r e => (hr r e).2)⟩) (ownFrom_below (Nat.le_refl _) (by omega)))
    ⟨⟨⟨by simp, bR⟩, bH⟩, hB0, Nat.le_refl _⟩
    (fun x a' W => ∃ Bx, w.heap.size + 4 < Bx ∧ StepBox Bx x.2 W ∧ a' = { tmps := #[.agg #[.string name, .slice A len cap], .slice A2 n2 cap2, .int .i64 fr, .pointer (some ⟨w.heap.size, 0, none⟩), .pointer (some ⟨w.heap.size + 1, 0, none⟩), undef, .pointer (some ⟨w.heap.size + 1 + 1, 0, none⟩), .int .i64 (x.1 : Int), .pointer (some ⟨Bx, 0, none⟩), .pointer (some ⟨w.heap.size, 1, none⟩), .slice A len cap, .int .i64 fr, .func (.func 31) #[] #[.pointer (some ⟨w.heap.size + 1 + 1 + 1 + 1, 0, none⟩), .pointer (some ⟨w.heap.size + 1 + 1 + 1, 0, none⟩)], .int .i64 (x.1 : Int), .agg #[.string x.2.name, .int .i64 x.2.stub, .int .i64 x.2.retry, .int .i64 x.2.wait, .bool x.2.undo, .bool x.2.pivot], undef, undef, undef, undef, undef, undef, undef, undef], defers := [] })
    (fun x a' _ X Y row hs' hg hr => by obtain ⟨Bx, e1, e2, e3⟩ := hs'; exact ⟨Bx, e1, step_own (β := Unit) Bx x.2 () X Y row e2 hg (fun r e => (hr r e).2), e3⟩)
    ?assign ?body ?done ?stop
  case assign =>
    rintro lr pre x W K ⟨⟨⟨hp, bR1⟩, bH1⟩, hB1, hS1⟩ hK
    gi_wp2
    exact hK _ _ ((KeepsOthers.alloc _ _).from _) ((Below.refl _ W).alloc hS1 _) ⟨⟨⟨hp, bR1.alloc _⟩, bH1.alloc _⟩, hB1.alloc hB1.size _, by simp; omega⟩ ⟨W.heap.size, by omega, heap_alloc_new W _, rfl⟩
  case body =>
    rintro lr pre x a' W hl' ⟨r, hr⟩ ⟨⟨⟨hp, bR1⟩, bH1⟩, hB1, hS1⟩ ⟨Bx, hBx, bX, rfl⟩ hlt
    have cH := bH1.cell
    have cR := bR1.cell
    have fR := bR1.frozen
    obtain ⟨b0, b1, b2, b3, b4, b5, bf⟩ := bX.cells
    have C := hide (isHit_any (k := (x.1 : Int)) (BoolsAt.kept HH.out (Kept.of_below hB1 _)))
    obtain ⟨q, hq⟩ : ∃ q, hitB hs (x.1 : Int) = q := ⟨_, rfl⟩
    obtain ⟨un, hun⟩ : ∃ un, x.2.undo = un := ⟨_, rfl⟩
    have HOF : Hid (offB hs x = (un && q)) := by show _ = _; unfold offB; rw [hq, hun]
    rw [hq] at C
    rw [hun] at b4
    have HP := hide hp
    clear b0 b1 b2 b3 b5 bf hq hun hp
    cases un with
    | false =>
      gi_wp2
      refine ⟨trivial, ?_⟩
      gi_wp2
      refine ⟨KeepsFrom.refl _ _, Below.refl _ _, ⟨⟨fun p hp' => ?_, bR1⟩, bH1⟩, hB1, hS1⟩
      rcases List.mem_append.1 hp' with h1 | h1
      · exact HP.out p h1
      · obtain rfl : p = x := by simpa using h1
        rw [HOF.out]; rfl
    | true =>
      gi_wp2_with (refine ⟨trivial, ?_⟩; gi_at_call 25; refine (CallsIn.inRound lr (callsIn_wide.2 C.out)).mono ?_; rintro e w' ⟨rfl, rfl⟩)
      · rename_i hq
        subst hq
        exact ⟨(KeepsOthers.setCell _ _ _).from _, ⟨rfl, pre, x, rfl, HP.out, by rw [HOF.out]; rfl, bR1.set _⟩, hB1.setCell (p := ⟨w.heap.size + 1 + 1, 0, none⟩) (by simp; omega) _⟩
      · rename_i hq
        subst hq
        refine ⟨KeepsFrom.refl _ _, Below.refl _ _, ⟨⟨fun p hp' => ?_, bR1⟩, bH1⟩, hB1, hS1⟩
        rcases List.mem_append.1 hp' with h1 | h1
        · exact HP.out p h1
        · obtain rfl : p = x := by simpa using h1
          rw [HOF.out]; rfl
  case done =>
    rintro D ys W hD rfl ⟨⟨⟨hp, bR1⟩, bH1⟩, hB1, hS1⟩ hK
    have cR := bR1.cell
    have fR := bR1.frozen
    have hR0 : R = 0 := by rw [HR.out]; exact down_all HNL.out hp
    subst hR0
    clear hp
    gi_wp2
    have hK' := (KeepsOthers.setCell W ⟨w.heap.size + 1 + 1, 0, none⟩ (.int .i64 0)).same D _ hK rfl
    refine ⟨by simp, .inl ⟨_, _, rfl, run_takeDeferred hK', ?_⟩⟩
    have hc5 := cell_kept (bR1.set (.int .i64 0)).cell (grownBy_putObj' _ D (.deferred none)) (fun r e => by cases e; exact ⟨_, hK', rfl⟩)
    refine ⟨.int .i64 0, ?_, rfl, (hB1.setCell (p := ⟨w.heap.size + 1 + 1, 0, none⟩) (by simp; omega) _).trans (belowK_b (w := w) (Nat.le_refl _) _ D _ _ (by omega) hK' rfl rfl)⟩
    simp [results, Try.f12, go_sem, hc5]
  case stop =>
    rintro D c pre W hD ⟨k, hk, rfl⟩ ⟨⟨rfl, ini, p, e1, e2, e3, bR1⟩, hB1⟩ hK
    have hR0 : R = p.1 := by rw [HR.out]; exact down_found HNL.out hk e1 e2 e3
    subst hR0
    clear e1 e2 e3
    gi_wp2
    refine ⟨by simp, .inl ⟨_, _, rfl, run_takeDeferred hK, ?_⟩⟩
    have hc5 := cell_kept bR1.cell (grownBy_putObj' _ D (.deferred none)) (fun r e => by cases e; exact ⟨_, hK, rfl⟩)
    refine ⟨.int .i64 (p.1 : Int), ?_, rfl, hB1.trans (belowK_b (w := w) (Nat.le_refl _) W D _ _ (by omega) hK rfl rfl)⟩
    simp [results, Try.f12, go_sem, hc5]
end Go.Proofs.Ytojhehpbmgkbgaa
/- The document's way down. -/
namespace Go.Proofs.Ytojhehpbmgkbgaa
open Go.RowKit

theorem down_step {l : List StepD} {hs : List Bool} {s : StepD} {i : Nat} {fr : Int} (h : l[i]? = some s) : downN l hs (min (i + 1) fr.toNat) = if decide ((i : Int) < fr) && (s.undo && hitB hs ((i : Int) + 1)) then i + 1 else downN l hs (min i fr.toNat) := by
  by_cases hf : (i : Int) < fr
  · rw [decide_eq_true hf, Bool.true_and, ← okAt_hit h, Nat.min_eq_left (by omega), Nat.min_eq_left (by omega), downN]
  · rw [decide_eq_false hf, Bool.false_and, Nat.min_eq_right (by omega), Nat.min_eq_right (by omega)]
    rfl
section
variable {w : World}
set_option maxRecDepth 100000 in
set_option maxHeartbeats 4000000 in
theorem rDown_any {G G2 : Nat → Prop} {name : ByteArray} {v v2 : Value} {l : List StepD} {hs : List Bool} {fr : Int} (h : StepsAt G w v l) (hl : l.length ≤ 1000) (hh : BoolsAt G2 w v2 hs) (hfr : I64 fr) :
    Calls Try.prog 13 #[.agg #[.string name, v], v2, .int .i64 fr] w fun e w' => e = .returned (.int .i64 ((downF l hs fr : Nat) : Int)) ∧ Later w w' := by
  obtain ⟨A, cap, rfl, hc1, hc2, _⟩ := FlatAt.shape h
  obtain ⟨A2, cap2, rfl, _, _, _⟩ := FlatAt.shape hh
  obtain ⟨n, hn⟩ : ∃ n, l.length = n := ⟨_, rfl⟩
  obtain ⟨n2, hn2⟩ : ∃ n, hs.length = n := ⟨_, rfl⟩
  rw [hn] at h hc1 hl ⊢
  rw [hn2] at hh ⊢
  obtain ⟨W1, hW1⟩ : ∃ W1, W1 = w.alloc (.cells #[.string name, .slice A n cap] 24 (0, 0)) := ⟨_, rfl⟩
  have L1 : Hid (Later w W1) := by rw [hW1]; exact (Below.refl _ _).alloc (Nat.le_refl _) _
  obtain ⟨R, hR⟩ : ∃ R, downF l hs fr = R := ⟨_, rfl⟩
  rw [hR]
  have HR : Hid (R = downN l hs (min n fr.toNat)) := by
    show _ = _
    rw [← hR]; unfold downF; rw [hn]; congr 1; omega
  have H := hide h
  have HN := hide hn
  have HH := hide (fun (W : World) (hl : Later w W) (k : Int) (hk : I64 k) => ris_any (k := k) (BoolsAt.kept hh (Kept.of_below hl _)) hk)
  have HW1 := hide hW1.symm
  unfold I64 at hfr
  clear h hh hn hn2 hc1 hc2 hR hW1
  go_enter Try.func13, Try.ntmps13
  go_wp2_with (fail)
  rw [HW1.out]
  go_loopw [7, 13] (fun b v wr => ∃ i : Nat, v = .int .i64 (i : Int) ∧ i ≤ n ∧ b = .int .i64 ((downN l hs (min i fr.toNat) : Nat) : Int) ∧ Later W1 wr) (fun _ v _ => n - (intOf v).toNat)
  case atStart => exact ⟨0, rfl, by omega, by simp [downN], Later.refl _⟩
  case round =>
    obtain ⟨i, rfl, hi, rfl, hlat⟩ := hrel
    have HL := hide hlat
    clear hlat
    obtain ⟨Bn, hBn⟩ : ∃ Bn : Nat, downN l hs (min i fr.toNat) = Bn := ⟨_, rfl⟩
    rw [hBn]
    have HB := hide hBn
    clear hBn
    by_cases hlt : i < n
    · obtain ⟨s, b, off, c', hs', hvv, _, _, _, hr⟩ := StepsAt.at_ (StepsAt.kept H.out (Kept.of_below (L1.out.trans HL.out) _)) (i := i) (by rw [HN.out]; exact hlt)
      rw [HN.out] at hvv
      obtain ⟨rfl, rfl⟩ : A = some ⟨b, off, none⟩ ∧ cap = c' := by injection hvv with e1 _ e3; exact ⟨e1, e3⟩
      obtain ⟨r0, r1, r2, r3, r4, r5⟩ := range_step hr
      have HSI := hide hs'
      have HL2 := fun (o : Obj) => hide (HL.out.alloc (Below.size HL.out) o)
      have HST : Hid (downN l hs (min (i + 1) fr.toNat) = if decide ((i : Int) < fr) && (s.undo && hitB hs ((i : Int) + 1)) then i + 1 else Bn) := by show _ = _; rw [down_step hs', HB.out]
      obtain ⟨un, hun⟩ : ∃ un, s.undo = un := ⟨_, rfl⟩
      rw [hun] at r4 HST
      have CH := hide (HH.out _ (L1.out.trans (HL2 (.cells #[.string s.name, .int .i64 s.stub, .int .i64 s.retry, .int .i64 s.wait, .bool un, .bool s.pivot] 34 (0, 0))).out) ((i : Int) + 1) (by unfold I64; omega))
      obtain ⟨q, hq⟩ : ∃ q, hitB hs ((i : Int) + 1) = q := ⟨_, rfl⟩
      rw [hq] at CH HST
      clear hs' hvv hr hun hq
      by_cases hf : (i : Int) < fr
      · cases un with
        | false =>
          have HE : Hid (downN l hs (min (i + 1) fr.toNat) = Bn) := by show _ = _; rw [HST.out]; simp
          clear HST CH
          go_wp2
          go_roundw
          case rel => exact ⟨i + 1, by go_num, by omega, by rw [HE.out], (HL2 _).out⟩
          case measure => simp [intOf]; omega
        | true =>
          go_wp2_with (fail)
          refine CH.out.mono ?_
          rintro e w1 ⟨rfl, hq1⟩
          obtain rfl := hq1.symm
          cases q with
          | false =>
            have HE : Hid (downN l hs (min (i + 1) fr.toNat) = Bn) := by show _ = _; rw [HST.out]; simp
            clear HST CH
            go_wp2
            go_roundw
            case rel => exact ⟨i + 1, by go_num, by omega, by rw [HE.out], (HL2 _).out⟩
            case measure => simp [intOf]; omega
          | true =>
            have HE : Hid (downN l hs (min (i + 1) fr.toNat) = i + 1) := by show _ = _; rw [HST.out]; simp [hf]
            clear HST CH
            go_wp2
            go_roundw
            case rel => exact ⟨i + 1, by go_num, by omega, by rw [HE.out]; go_num, (HL2 _).out⟩
            case measure => simp [intOf]; omega
      · have HE : Hid (downN l hs (min (i + 1) fr.toNat) = Bn) := by show _ = _; rw [HST.out]; simp [hf]
        clear HST CH
        go_wp2
        go_roundw
        case rel => exact ⟨i + 1, by go_num, by omega, by rw [HE.out], (HL2 _).out⟩
        case measure => simp [intOf]; omega
    · have hin : i = n := by omega
      have hv : R = Bn := by rw [HR.out, ← HB.out, hin]
      subst hv
      clear hin
      go_wp2
      go_ret
      exact ⟨rfl, L1.out.trans HL.out⟩
end
end Go.Proofs.Ytojhehpbmgkbgaa
/- A step looked at; a definition looked at. -/
namespace Go.Proofs.Ytojhehpbmgkbgaa
open Go.RowKit

section
variable {w : World}
theorem err_bad {done : List StepD} {s : StepD} (h : stepBad s = true) : stepErr done s = 2 := by unfold stepErr; rw [if_pos h]
theorem err_late {done : List StepD} {s : StepD} (h : stepBad s = false) (h2 : (namedB done s || (pivotB done && s.pivot)) = true) : stepErr done s = 9 := by unfold stepErr; rw [if_neg (by simp [h]), if_pos h2]
theorem err_undo {done : List StepD} {s : StepD} (h : stepBad s = false) (h2 : (namedB done s || (pivotB done && s.pivot)) = false) (h3 : (s.undo == (pivotB done || s.pivot)) = true) : stepErr done s = 10 := by unfold stepErr; rw [if_neg (by simp [h]), if_neg (by simp [h2]), if_pos h3]
theorem err_none {done : List StepD} {s : StepD} (h : stepBad s = false) (h2 : (namedB done s || (pivotB done && s.pivot)) = false) (h3 : (s.undo == (pivotB done || s.pivot)) = false) : stepErr done s = 0 := by unfold stepErr; rw [if_neg (by simp [h]), if_neg (by simp [h2]), if_neg (by simp [h3])]

set_option maxHeartbeats 8000000 in
set_option maxRecDepth 100000 in
theorem checkStep_any {F : Nat → Prop} {s : StepD} {done : List StepD} {A : Option Addr} {n cap : Nat} (h : StepsAt F w (.slice A n cap) done) (hn : n = done.length) (hs : n ≤ 1000) :
    Calls Try.prog 37 #[.agg s.cells.toArray, .slice A n cap] w fun e w' => e = .returned (.int .i64 ((stepErr done s : Nat) : Int)) ∧ Later w w' := by
  obtain ⟨E, hE⟩ : ∃ E, stepErr done s = E := ⟨_, rfl⟩
  rw [hE]
  have HE := hide hE
  obtain ⟨W1, hW1⟩ : ∃ W1, W1 = w.alloc (.cells s.cells.toArray 34 (0, 0)) := ⟨_, rfl⟩
  obtain ⟨x, hx⟩ : ∃ x, x = w.heap.size := ⟨_, rfl⟩
  have B1 : Hid (StepBox x s W1) := by rw [hW1, hx]; exact heap_alloc_new w _
  have L1 : Hid (Later w W1) := by rw [hW1]; exact (Below.refl _ _).alloc (Nat.le_refl _) _
  have C1 := hide (contains_ask (w := W1) (v := ⟨42, #[.pointer (some ⟨x, 0, none⟩)]⟩) (f := fun a => decide (a.name = s.name)) (StepsAt.kept h (Kept.of_below L1.out _)) hn ⟨enters_named1, fun W t hl => named1_any W t s x (by
    have h2 : StepBox x s W := (Below.block hl x (lt_of_block B1.out)).trans B1.out
    exact h2.cells.1)⟩ hs)
  have H := hide h
  have HN := hide hn
  unfold StepD.cells at hW1
  obtain ⟨nm, hnm⟩ : ∃ nm, namedB done s = nm := ⟨_, rfl⟩
  obtain ⟨bh, hbh⟩ : ∃ bh, pivotB done = bh := ⟨_, rfl⟩
  have hC : (done.any fun a => decide (a.name = s.name)) = nm := hnm
  have hP : (done.any fun a => a.pivot) = bh := hbh
  rw [hC] at C1
  have HNM := hide hnm
  have HBH := hide hbh
  have HP := hide hP
  have HW1 := hide hW1.symm
  have HX := hide hx.symm
  simp only [SetV.val] at C1
  unfold StepD.cells
  clear h hn hW1 hx hC hP hnm hbh hE
  go_enter Try.func37, Try.ntmps37
  go_wp2_with (fail)
  have hw := HW1.out
  have hxx := HX.out
  simp only [hw, hxx]
  clear hw hxx
  refine C1.out.mono ?_
  rintro e w2 ⟨rfl, hl2⟩
  have L2 := hide (L1.out.trans hl2)
  have B2 : Hid (StepBox x s w2) := (Below.block hl2 x (lt_of_block B1.out)).trans B1.out
  have C2 := hide (contains_ask (w := w2) (v := ⟨43, #[]⟩) (f := fun a => a.pivot) (StepsAt.kept H.out (Kept.of_below L2.out _)) HN.out ⟨enters_pivot2, fun W t _ => pivot2_any W t⟩ hs)
  rw [HP.out] at C2
  simp only [SetV.val] at C2
  clear C1 hl2 L1 B1 HP
  go_wp2_with (fail)
  refine C2.out.mono ?_
  rintro e w3 ⟨rfl, hl3⟩
  have L3 := hide (L2.out.trans hl3)
  have B3 : Hid (StepBox x s w3) := (Below.block hl3 x (lt_of_block B2.out)).trans B2.out
  obtain ⟨b0, b1, b2, b3, b4, b5, bf⟩ := B3.out.cells
  have CN := hide (name_any (w := w3) s.name)
  clear C2 hl3 L2 B2 bf b1 b2 b3 b4 b5
  go_wp2_with (fail)
  refine CN.out.mono ?_
  rintro e w4 ⟨rfl, hl4⟩
  have L4 := hide (L3.out.trans hl4)
  have B4 : Hid (StepBox x s w4) := (Below.block hl4 x (lt_of_block B3.out)).trans B3.out
  obtain ⟨b0', b1, b2, b3, b4, b5, bf⟩ := B4.out.cells
  obtain ⟨q0, hq0⟩ : ∃ q, nameF s.name.data.toList = q := ⟨_, rfl⟩
  obtain ⟨q1, hq1⟩ : ∃ q, outB s.stub 1 4 = q := ⟨_, rfl⟩
  obtain ⟨q2, hq2⟩ : ∃ q, outB s.retry 0 9 = q := ⟨_, rfl⟩
  obtain ⟨q3, hq3⟩ : ∃ q, outB s.wait 1 99 = q := ⟨_, rfl⟩
  have o1 := fun w => outside_any (w := w) s.stub 1 4
  have o2 := fun w => outside_any (w := w) s.retry 0 9
  have o3 := fun w => outside_any (w := w) s.wait 1 99
  rw [hq1] at o1
  rw [hq2] at o2
  rw [hq3] at o3
  have O1 := hide o1
  have O2 := hide o2
  have O3 := hide o3
  have HBAD : Hid (stepBad s = (!q0 || (q1 || (q2 || q3)))) := by show _ = _; unfold stepBad; rw [hq0, hq1, hq2, hq3]
  rw [hq0]
  clear CN hl4 L3 B3 bf b0 o1 o2 o3 hq0 hq1 hq2 hq3
  cases q0 with
  | false =>
    go_wp2
    go_ret
    exact ⟨ret_int (by rw [← HE.out, err_bad HBAD.out]; rfl), L4.out⟩
  | true =>
    cases q1 with
    | true =>
      go_wp2_with (fail)
      refine (O1.out _).mono ?_
      rintro e w5 ⟨rfl, hq⟩
      obtain rfl := hq.symm
      go_wp2
      go_ret
      exact ⟨ret_int (by rw [← HE.out, err_bad HBAD.out]; rfl), L4.out⟩
    | false =>
      cases q2 with
      | true =>
        go_wp2_with (fail)
        refine (O1.out _).mono ?_
        rintro e w5 ⟨rfl, hq⟩
        obtain rfl := hq.symm
        go_wp2_with (fail)
        refine (O2.out _).mono ?_
        rintro e w6 ⟨rfl, hq⟩
        obtain rfl := hq.symm
        go_wp2
        go_ret
        exact ⟨ret_int (by rw [← HE.out, err_bad HBAD.out]; rfl), L4.out⟩
      | false =>
        go_wp2_with (fail)
        refine (O1.out _).mono ?_
        rintro e w5 ⟨rfl, hq⟩
        obtain rfl := hq.symm
        go_wp2_with (fail)
        refine (O2.out _).mono ?_
        rintro e w6 ⟨rfl, hq⟩
        obtain rfl := hq.symm
        go_wp2_with (fail)
        refine (O3.out _).mono ?_
        rintro e w7 ⟨rfl, hq⟩
        obtain rfl := hq.symm
        clear O1 O2 O3
        cases q3 with
        | true =>
          go_wp2
          go_ret
          exact ⟨ret_int (by rw [← HE.out, err_bad HBAD.out]; rfl), L4.out⟩
        | false =>
          have HB0 : Hid (stepBad s = false) := HBAD.out
          obtain ⟨un, hun⟩ : ∃ un, s.undo = un := ⟨_, rfl⟩
          obtain ⟨pv, hpv⟩ : ∃ pv, s.pivot = pv := ⟨_, rfl⟩
          rw [hun] at b4
          rw [hpv] at b5
          have HUN := hide hun
          have HPV := hide hpv
          clear hun hpv HBAD
          cases nm with
          | true =>
            go_wp2
            go_ret
            exact ⟨ret_int (by rw [← HE.out, err_late HB0.out (by rw [HNM.out]; rfl)]; rfl), L4.out⟩
          | false =>
            cases bh <;> cases pv <;> cases un <;> (
              go_wp2
              go_ret
              refine ⟨ret_int ?_, L4.out⟩
              rw [← HE.out]
              first
                | (rw [err_late HB0.out (by rw [HNM.out, HBH.out, HPV.out]; rfl)]; rfl)
                | (rw [err_undo HB0.out (by rw [HNM.out, HBH.out, HPV.out]; rfl) (by rw [HBH.out, HPV.out, HUN.out]; rfl)]; rfl)
                | (rw [err_none HB0.out (by rw [HNM.out, HBH.out, HPV.out]; rfl) (by rw [HBH.out, HPV.out, HUN.out]; rfl)]; rfl))
end
end Go.Proofs.Ytojhehpbmgkbgaa
/- A definition looked at. -/
namespace Go.Proofs.Ytojhehpbmgkbgaa
open Go.RowKit

theorem steps_to {k n c : Nat} (hk : k ≤ n) (hn : n ≤ c) (A : Option Addr) (w : World) :
    (Instr.slice 22 (.slice A n c) none (some (.int .i64 (k : Int))) none).run Try.prog w = .ok (.slice A k c) w := by
  have ht : Try.prog.underlying 22 = some (.slice (Try.prog.elem 22)) := by kernel_rfl
  obtain ⟨i0, hi, hz0, hz1, hz2⟩ := info_parts (show (Try.prog.info? (Try.prog.elem 22)).map (fun i => (i.zero, i.size, i.bytes)) = some (some (.agg #[.string ⟨#[]⟩, .int .i64 0, .int .i64 0, .int .i64 0, .bool false, .bool false]), 6, 48) from by kernel_rfl)
  have h1 := run_slice_h (P := Try.prog) w 22 A n c ht .i64 (k : Int) (by omega) (by omega)
  rw [h1]
  have hs : (sizeOf (Try.prog.elem 22)).run Try.prog w = .ok 6 w := by simp [sizeOf, typeInfo, hi, hz1]
  rw [hs]
  simp only [Result.andThen, sliced, Int.toNat_natCast, Nat.sub_zero]
  rcases A with _ | a
  · simp
  · simp [Addr.add]
theorem exec_to {op : Oper} {a : Act} {w : World} (x z : Operand) (ho : op.op = .slice 22 x none (some z) none) (A : Option Addr) (n c k : Nat) (hx : a.eval x = .slice A n c) (hz : a.eval z = .int .i64 (k : Int)) (hk : k ≤ n) (hn : n ≤ c) :
    (execOp a.eval op).run Try.prog w = .ok (.value (.slice A k c)) w := by
  have ht : Try.prog.underlying 22 = some (.slice (Try.prog.elem 22)) := by kernel_rfl
  have h1 := steps_to hk hn A w
  unfold execOp
  simp only [ho, hx, hz, Option.map_some, Option.map_none, Sem.run_bind, Sem.run_pure]
  rw [run_sliceAt_slice _ _ _ _ _ _ ht, h1]
  rfl
theorem steps_take {F : Nat → Prop} {w : World} {A : Option Addr} {n c k : Nat} {l : List StepD} (h : StepsAt F w (.slice A n c) l) (hn : n = l.length) (hk : k ≤ n) : StepsAt F w (.slice A k c) (l.take k) := by
  subst hn
  obtain ⟨h1, h2, A', c', hv, h3, h4, h5, h6⟩ := h
  obtain ⟨rfl, rfl⟩ : A = A' ∧ c = c' := by injection hv with e1 _ e3; exact ⟨e1, e3⟩
  have hl : (l.take k).length = k := by simp; omega
  have hf := Sd.flat_take StepD.cells 6 l k (fun s _ => s.len)
  unfold StepsAt
  rw [hl, hf]
  refine ⟨?_, fun u hu => h2 u (List.mem_of_mem_take hu), A, c, rfl, by omega, h4, h5, fun h0 => ?_⟩
  · rw [List.length_take, h1]
    have := Nat.mul_le_mul_right 6 hk
    omega
  · obtain ⟨b, off, hA, hF, hb, hr⟩ := h6 (by omega)
    refine ⟨b, off, hA, hF, hb, fun j u hj => hr j u ?_⟩
    rw [List.getElem?_take_of_lt (by have := (List.getElem?_eq_some_iff.1 hj).1; rw [List.length_take] at this; omega)] at hj
    exact hj

section
variable {w : World}
set_option maxHeartbeats 8000000 in
set_option maxRecDepth 100000 in
theorem check_any {F : Nat → Prop} {name : ByteArray} {v : Value} {steps : List StepD} (h : StepsAt F w v steps) :
    Calls Try.prog 32 #[.agg #[.string name, v]] w fun e w' => e = .returned (.tuple #[.int .i64 (((checkF name steps).1 : Nat) : Int), .int .i64 (((checkF name steps).2 : Nat) : Int)]) ∧ Later w w' := by
  obtain ⟨A, cap, rfl, hc1, hc2, _⟩ := FlatAt.shape h
  obtain ⟨n, hn⟩ : ∃ n, steps.length = n := ⟨_, rfl⟩
  rw [hn] at h hc1 ⊢
  obtain ⟨c1, hc1'⟩ : ∃ c, (checkF name steps).1 = c := ⟨_, rfl⟩
  obtain ⟨c2, hc2'⟩ : ∃ c, (checkF name steps).2 = c := ⟨_, rfl⟩
  rw [hc1', hc2']
  have HC1 := hide hc1'
  have HC2 := hide hc2'
  obtain ⟨W1, hW1⟩ : ∃ W1, W1 = w.alloc (.cells #[.string name, .slice A n cap] 24 (0, 0)) := ⟨_, rfl⟩
  obtain ⟨y, hy⟩ : ∃ y, y = w.heap.size := ⟨_, rfl⟩
  have B1 : Hid (W1.heap[y]? = some (.cells #[.string name, .slice A n cap] 24 (0, 0))) := by rw [hW1, hy]; exact heap_alloc_new w _
  have L1 : Hid (Later w W1) := by rw [hW1]; exact (Below.refl _ _).alloc (Nat.le_refl _) _
  have CN := hide (name_any (w := W1) name)
  obtain ⟨q0, hq0⟩ : ∃ q, nameF name.data.toList = q := ⟨_, rfl⟩
  rw [hq0] at CN
  obtain ⟨q1, hq1⟩ : ∃ q, outB (n : Int) 1 8 = q := ⟨_, rfl⟩
  have o1 := fun w => outside_any (w := w) (n : Int) 1 8
  rw [hq1] at o1
  have O1 := hide o1
  have hbad : (!nameF name.data.toList || (decide (steps.length < 1) || decide (8 < steps.length))) = (!q0 || q1) := by
    rw [hq0, ← hq1, hn]
    congr 1
    unfold outB
    congr 1
    · rw [decide_eq_decide]; omega
    · rw [decide_eq_decide]; omega
  have HBAD := hide hbad
  have HQ1 := hide hq1
  have H := hide h
  have HN := hide hn
  have HW1 := hide hW1.symm
  have HY := hide hy.symm
  clear h hn hW1 hy hc1' hc2' hq0 hq1 hbad o1
  go_enter Try.func32, Try.ntmps32
  go_wp2_with (fail)
  have hw := HW1.out
  have hyy := HY.out
  simp only [hw, hyy]
  clear hw hyy
  have c0 : W1.cell? ⟨y, 0, none⟩ = some (.string name) := (cell_of_row W1 y 0 _ _ _ B1.out).trans rfl
  have hy1 : y < W1.heap.size := lt_of_block B1.out
  go_wp2_with (fail)
  refine CN.out.mono ?_
  rintro e w2 ⟨rfl, hl2⟩
  have L2 := hide (L1.out.trans hl2)
  have B2 : Hid (w2.heap[y]? = some (.cells #[.string name, .slice A n cap] 24 (0, 0))) := (Below.block hl2 y (lt_of_block B1.out)).trans B1.out
  have c1' : w2.cell? ⟨y, 1, none⟩ = some (.slice A n cap) := (cell_of_row w2 y 1 _ _ _ B2.out).trans rfl
  have hy2 : y < w2.heap.size := lt_of_block B2.out
  clear CN hl2 L1 c0 hy1
  cases q0 with
  | false =>
    have HF : Hid (checkF name steps = (0, 2)) := by show _ = _; unfold checkF; rw [HBAD.out]; rfl
    have e1 : c1 = 0 := by rw [← HC1.out, HF.out]
    have e2 : c2 = 2 := by rw [← HC2.out, HF.out]
    have E1 := hide e1
    have E2 := hide e2
    clear e1 e2
    go_wp2
    go_ret2
    exact ⟨by rw [E1.out, E2.out]; rfl, L2.out⟩
  | true =>
    go_wp2_with (fail)
    refine (O1.out _).mono ?_
    rintro e w3 ⟨rfl, hq⟩
    obtain rfl := hq.symm
    clear O1
    cases q1 with
    | true =>
      have HF : Hid (checkF name steps = (0, 2)) := by show _ = _; unfold checkF; rw [HBAD.out]; rfl
      have e1 : c1 = 0 := by rw [← HC1.out, HF.out]
      have e2 : c2 = 2 := by rw [← HC2.out, HF.out]
      have E1 := hide e1
      have E2 := hide e2
      clear e1 e2
      go_wp2
      go_ret2
      exact ⟨by rw [E1.out, E2.out]; rfl, L2.out⟩
    | false =>
      have HF : Hid (checkF name steps = firstBad (steps.take 0) (steps.drop 0)) := by show _ = _; unfold checkF; rw [HBAD.out]; rfl
      have hn8 : n ≤ 8 := by
        have := HQ1.out
        simp only [outB, Bool.or_eq_false_iff, decide_eq_false_iff_not] at this
        omega
      clear HBAD HQ1
      go_wp2_with (fail)
      go_loopw [20] (fun v wr => ∃ i : Nat, v = .int .i64 (i : Int) ∧ i ≤ n ∧ checkF name steps = firstBad (steps.take i) (steps.drop i) ∧ Later w2 wr) (fun v _ => n - (intOf v).toNat)
      case atStart => exact ⟨0, rfl, by omega, HF.out, Later.refl _⟩
      case round =>
        obtain ⟨i, rfl, hi, hsum, hlat⟩ := hrel
        have HS := hide hsum
        have HL := hide hlat
        have BR : Hid (wr.heap[y]? = some (.cells #[.string name, .slice A n cap] 24 (0, 0))) := (Below.block hlat y (lt_of_block B2.out)).trans B2.out
        clear hsum hlat
        by_cases hlt : i < n
        · have HR := hide (StepsAt.kept H.out (Kept.of_below (L2.out.trans HL.out) F))
          obtain ⟨s, b, off, c', hs', hvv, _, _, _, hr⟩ := StepsAt.at_ HR.out (i := i) (by rw [HN.out]; exact hlt)
          rw [HN.out] at hvv
          obtain ⟨rfl, rfl⟩ : A = some ⟨b, off, none⟩ ∧ cap = c' := by injection hvv with e1 _ e3; exact ⟨e1, e3⟩
          obtain ⟨r0, r1, r2, r3, r4, r5⟩ := range_step hr
          have HSI := hide hs'
          obtain ⟨W5, hW5⟩ : ∃ W5, W5 = wr.alloc (.cells s.cells.toArray 34 (0, 0)) := ⟨_, rfl⟩
          obtain ⟨x, hx⟩ : ∃ x, x = wr.heap.size := ⟨_, rfl⟩
          have B5 : Hid (StepBox x s W5) := by rw [hW5, hx]; exact heap_alloc_new wr _
          have L5 : Hid (Later wr W5) := by rw [hW5]; exact (Below.refl _ _).alloc (Nat.le_refl _) _
          have BR5 : Hid (W5.heap[y]? = some (.cells #[.string name, .slice (some ⟨b, off, none⟩) n cap] 24 (0, 0))) := (Below.block L5.out y (lt_of_block BR.out)).trans BR.out
          have CS := hide (checkStep_any (w := W5.drew) (s := s) (done := steps.take i) (steps_take (StepsAt.kept HR.out (Kept.of_below (L5.out.trans (Later.drew W5)) F)) HN.out.symm (by omega : i ≤ n)) (by rw [List.length_take, HN.out]; omega) (by omega))
          obtain ⟨E, hE⟩ : ∃ E, stepErr (steps.take i) s = E := ⟨_, rfl⟩
          rw [hE] at CS
          have HE := hide hE
          have d1 : W5.cell? ⟨y, 1, none⟩ = some (.slice (some ⟨b, off, none⟩) n cap) := (cell_of_row W5 y 1 _ _ _ BR5.out).trans rfl
          have hy5 : y < W5.heap.size := lt_of_block BR5.out
          unfold StepD.cells at hW5
          have HW5 := hide hW5.symm
          have HX := hide hx.symm
          clear hs' hvv hr hW5 hx hE
          have cR : wr.cell? ⟨y, 1, none⟩ = some (.slice (some ⟨b, off, none⟩) n cap) := (cell_of_row wr y 1 _ _ _ BR.out).trans rfl
          go_wp2_with (fail)
          have hw := HW5.out
          have hxx := HX.out
          simp only [hw, hxx]
          clear hw hxx r0 r1 r2 r3 r4 r5
          refine wp_region_L (by kernel_rfl) ?_
          refine wpAnyL_take (i := 0) (d := some 25) (v := .agg s.cells.toArray) rfl rfl (by kernel_rfl) (by kernel_rfl) (by kernel_rfl) (fun _ _ _ h => h) (by rfl) ?yab0 ?_
          case yab0 => (intro w' hw'; exact exec_load_box 34 _ (by rfl) x 0 (by rfl) 34 _ ((Below.block ((Later.drew _).trans hw') x (lt_of_block B5.out)).trans B5.out) 6 _ Try.underlying34 (by rfl) (by kernel_rfl) s.cells (by rfl) (by rfl))
          simp only [Act.put]; try simp only [List.setIfInBounds_toArray]; try simp only [List.set_cons_zero, List.set_cons_succ]
          refine wpAnyL_take (i := 1) (d := some 26) (v := ?vab1) rfl rfl (by kernel_rfl) (by kernel_rfl) (by kernel_rfl) (fun _ _ _ h => h) (by rfl) ?yab1 ?_
          case yab1 => (intro w' hw'; go_simp; try (with_reducible rfl))
          simp only [Act.put]; try simp only [List.setIfInBounds_toArray]; try simp only [List.set_cons_zero, List.set_cons_succ]
          refine wpAnyL_take (i := 2) (d := some 27) (v := .slice (some ⟨b, off, none⟩) n cap) rfl rfl (by kernel_rfl) (by kernel_rfl) (by kernel_rfl) (fun _ _ _ h => h) (by rfl) ?yab2 ?_
          case yab2 => (intro w' hw'; have y := later_cell ((Later.drew _).trans hw') d1; go_simp)
          simp only [Act.put]; try simp only [List.setIfInBounds_toArray]; try simp only [List.set_cons_zero, List.set_cons_succ]
          refine wpAnyL_take (i := 3) (d := some 28) (v := ?vab3) rfl rfl (by kernel_rfl) (by kernel_rfl) (by kernel_rfl) (fun _ _ _ h => h) (by rfl) ?yab3 ?_
          case yab3 => (intro w' hw'; go_simp; try (with_reducible rfl))
          simp only [Act.put]; try simp only [List.setIfInBounds_toArray]; try simp only [List.set_cons_zero, List.set_cons_succ]
          refine wpAnyL_take (i := 4) (d := some 29) (v := .slice (some ⟨b, off, none⟩) i cap) rfl rfl (by kernel_rfl) (by kernel_rfl) (by kernel_rfl) (fun _ _ _ h => h) (by rfl) ?yab4 ?_
          case yab4 => (intro w' hw'; exact exec_to _ _ (by rfl) (some ⟨b, off, none⟩) n cap i (by rfl) (by rfl) (by omega) hc1)
          simp only [Act.put]; try simp only [List.setIfInBounds_toArray]; try simp only [List.set_cons_zero, List.set_cons_succ]
          refine wpAnyL_only (i := 5) rfl (by kernel_rfl) (by rfl) fun K hK => ?_
          go_simp
          refine CS.out.mono ?_
          rintro e w6 ⟨rfl, hl6⟩
          have HL6 := hide (HL.out.trans (L5.out.trans ((Later.drew W5).trans hl6)))
          refine hK.out _ _ hl6 ?_
          clear hl6 CS
          clear hK K
          try (simp only [Act.put]; try simp only [List.setIfInBounds_toArray]; try simp only [List.set_cons_zero, List.set_cons_succ])
          refine wpAnyL_take (i := 6) (d := some 6) (v := ?vab6) rfl rfl (by kernel_rfl) (by kernel_rfl) (by kernel_rfl) (fun _ _ _ h => h) (by rfl) ?yab6 ?_
          case yab6 => (intro w' hw'; go_simp; try (with_reducible rfl))
          simp only [Act.put]; try simp only [List.setIfInBounds_toArray]; try simp only [List.set_cons_zero, List.set_cons_succ]
          refine wpAnyL_done (by kernel_rfl) ?_ _
          by_cases hE0 : E = 0
          · have hb : ((E : Int) != 0) = false := by rw [hE0]; rfl
            have HE0 := hide hE0
            clear hE0
            go_wp2_with (fail)
            go_roundw
            case rel =>
              refine ⟨i + 1, by go_num, by omega, ?_, HL6.out⟩
              rw [HS.out, firstBad_at HSI.out, HE.out, if_pos HE0.out]
            case measure => simp [intOf]; omega
          · have hb : ((E : Int) != 0) = true := by simp; omega
            have hres : checkF name steps = (i + 1, E) := by rw [HS.out, firstBad_at HSI.out, HE.out, if_neg hE0]
            have e1 : c1 = i + 1 := by rw [← HC1.out, hres]
            have e2 : c2 = E := by rw [← HC2.out, hres]
            have E1 := hide e1
            have E2 := hide e2
            clear hE0 hres e1 e2
            go_wp2_with (fail)
            go_ret2
            exact ⟨by rw [E1.out, E2.out]; rfl, L2.out.trans HL6.out⟩
        · have hie : i = n := by omega
          have hres : checkF name steps = (0, 0) := by rw [HS.out, hie, ← HN.out, firstBad_end]
          have e1 : c1 = 0 := by rw [← HC1.out, hres]
          have e2 : c2 = 0 := by rw [← HC2.out, hres]
          have E1 := hide e1
          have E2 := hide e2
          clear hres e1 e2 hie
          go_wp2_with (fail)
          go_ret2
          exact ⟨by rw [E1.out, E2.out]; rfl, L2.out.trans HL.out⟩
end
end Go.Proofs.Ytojhehpbmgkbgaa
/- The document's kinds of bytes, and its names. -/
namespace Go.Proofs.Ytojhehpbmgkbgaa
open Go.RowKit

section
variable {w : World}
theorem refSmall_any (b : Nat) : Calls Try.prog 33 #[.int .u8 (b : Int)] w fun e w' => e = .returned (.bool (smallB b)) ∧ w' = w := by
  unfold smallB
  go_enter Try.func33, Try.ntmps33
  by_cases h1 : 97 ≤ b
  · by_cases h2 : b ≤ 122
    · have e1 : (97 : Int) ≤ (b : Int) := by omega
      have e2 : (b : Int) ≤ 122 := by omega
      go_wp2
      go_ret
      exact ⟨ret_bool (by simp [h1, h2]), rfl⟩
    · have e1 : (97 : Int) ≤ (b : Int) := by omega
      have e2 : ¬ (b : Int) ≤ 122 := by omega
      go_wp2
      go_ret
      exact ⟨ret_bool (by simp), rfl⟩
  · have e1 : ¬ (97 : Int) ≤ (b : Int) := by omega
    go_wp2
    go_ret
    exact ⟨ret_bool (by simp), rfl⟩
theorem refDigit_any (b : Nat) : Calls Try.prog 38 #[.int .u8 (b : Int)] w fun e w' => e = .returned (.bool (digitB b)) ∧ w' = w := by
  unfold digitB
  go_enter Try.func38, Try.ntmps38
  by_cases h1 : 48 ≤ b
  · by_cases h2 : b ≤ 57
    · have e1 : (48 : Int) ≤ (b : Int) := by omega
      have e2 : (b : Int) ≤ 57 := by omega
      go_wp2
      go_ret
      exact ⟨ret_bool (by simp [h1, h2]), rfl⟩
    · have e1 : (48 : Int) ≤ (b : Int) := by omega
      have e2 : ¬ (b : Int) ≤ 57 := by omega
      go_wp2
      go_ret
      exact ⟨ret_bool (by simp), rfl⟩
  · have e1 : ¬ (48 : Int) ≤ (b : Int) := by omega
    go_wp2
    go_ret
    exact ⟨ret_bool (by simp), rfl⟩
set_option maxHeartbeats 1000000 in
theorem refPart_any (b : Nat) : Calls Try.prog 34 #[.int .u8 (b : Int)] w fun e w' => e = .returned (.bool (partB b)) ∧ w' = w := by
  unfold partB
  have CS := hide (refSmall_any (w := w) b)
  have CD := hide (refDigit_any (w := w) b)
  obtain ⟨p, hp⟩ : ∃ p, smallB b = p := ⟨_, rfl⟩
  obtain ⟨q, hq⟩ : ∃ q, digitB b = q := ⟨_, rfl⟩
  rw [hp] at CS ⊢
  rw [hq] at CD ⊢
  clear hp hq
  have e45 : (b == 45) = ((b : Int) == 45) := by rw [Bool.eq_iff_iff, beq_iff_eq, beq_iff_eq]; omega
  have e95 : (b == 95) = ((b : Int) == 95) := by rw [Bool.eq_iff_iff, beq_iff_eq, beq_iff_eq]; omega
  rw [e45, e95]
  clear e45 e95
  go_enter Try.func34, Try.ntmps34
  go_wp2_with (fail)
  refine CS.out.mono ?_
  rintro e w1 ⟨rfl, rfl⟩
  cases p with
  | true =>
    go_wp2_with (fail)
    go_ret
    exact ⟨ret_bool (by simp), rfl⟩
  | false =>
    go_wp2_with (fail)
    refine CD.out.mono ?_
    rintro e w1 ⟨rfl, rfl⟩
    cases q with
    | true =>
      go_wp2_with (fail)
      go_ret
      exact ⟨ret_bool (by simp), rfl⟩
    | false =>
      cases h45 : ((b : Int) == 45) with
      | true =>
        go_wp2_with (fail)
        go_ret
        exact ⟨ret_bool (by rw [h45]; simp), rfl⟩
      | false =>
        go_wp2_with (fail)
        go_ret
        exact ⟨ret_bool (by rw [h45]; simp), rfl⟩

/-- A text at a place. -/
theorem idx_at (s : ByteArray) (q : Nat) (c : UInt8) (hq : q < s.size) (hc : s.data.toList[q]? = some c) (W : World) : (Instr.index 9 (.string s) (.int .i64 (q : Int))).run Try.prog W = .ok (.int .u8 (c.toNat : Int)) W := by
  obtain ⟨c', hc', hx, _⟩ := byte_at s q hq
  obtain rfl : c = c' := by rw [hc] at hc'; injection hc'
  rw [run_index_string (P := Try.prog) W 9 s .i64 (q : Int) Try.underlying9, dif_pos ⟨by omega, by omega⟩]
  have e : (q : Int).toNat = q := by omega
  simp only [e, hx]

set_option maxHeartbeats 2000000 in
theorem refName_any (s : ByteArray) : Calls Try.prog 30 #[.string s] w fun e w' => e = .returned (.bool (nameF s.data.toList)) ∧ Later w w' := by
  obtain ⟨L, hL⟩ : ∃ L, L = s.data.toList := ⟨_, rfl⟩
  have hlen : L.length = s.size := by rw [hL, Array.length_toList]; rfl
  rw [← hL]
  have HL := hide hL
  have HLEN := hide hlen
  have L0 := hide (Later.refl w)
  by_cases h1 : s.size < 1
  · have hb : (s.size : Int) < 1 := by omega
    have hf : nameF L = false := by
      cases hn : nameF L with
      | false => rfl
      | true => have := ((nameF_iff L).1 hn).1; omega
    rw [hf]
    clear hL hlen hf
    go_enter Try.func30, Try.ntmps30
    go_wp2
    go_ret
    exact ⟨rfl, L0.out⟩
  · have hb : ¬ (s.size : Int) < 1 := by omega
    by_cases h2 : 16 < s.size
    · have hb2 : 16 < (s.size : Int) := by omega
      have hf : nameF L = false := by
        cases hn : nameF L with
        | false => rfl
        | true => have := ((nameF_iff L).1 hn).2.1; omega
      rw [hf]
      clear hL hlen hf
      go_enter Try.func30, Try.ntmps30
      go_wp2
      go_ret
      exact ⟨rfl, L0.out⟩
    · have hb2 : ¬ 16 < (s.size : Int) := by omega
      obtain ⟨c0, hc0⟩ : ∃ c, L[0]? = some c := ⟨_, List.getElem?_eq_getElem (by omega)⟩
      have hi0 : ∀ W : World, (Instr.index 9 (.string s) (.int .i64 0)).run Try.prog W = .ok (.int .u8 (c0.toNat : Int)) W := fun W => by
        have := idx_at s 0 c0 (by omega) (by rw [← hL]; exact hc0) W
        exact this
      have HC0 := hide hc0
      have CS := hide (refSmall_any (w := w) c0.toNat)
      clear hL hlen hc0
      cases hs : smallB c0.toNat with
      | false =>
        rw [hs] at CS
        have hf := nameF_not0 HC0.out hs
        rw [hf]
        clear hf hs
        go_enter Try.func30, Try.ntmps30
        go_wp2_with (fail)
        refine CS.out.mono ?_
        rintro e w1 ⟨rfl, rfl⟩
        go_wp2_with (fail)
        go_ret
        exact ⟨rfl, L0.out⟩
      | true =>
        rw [hs] at CS
        have HS := hide hs
        clear hs
        go_enter Try.func30, Try.ntmps30
        go_wp2_with (fail)
        refine CS.out.mono ?_
        rintro e w1 ⟨rfl, rfl⟩
        clear hi0 CS
        go_wp2_with (fail)
        go_loopw [3] (fun v wr => wr = w1 ∧ ∃ q : Nat, v = .int .i64 (q : Int) ∧ q ≤ L.length ∧ ∀ c ∈ L.take q, partB c.toNat = true) (fun v _ => L.length - (intOf v).toNat)
        case atStart => exact ⟨rfl, 0, rfl, by omega, by simp⟩
        case round =>
          obtain ⟨rfl, q, rfl, hq, hall⟩ := hrel
          have HA := hide hall
          clear hall
          by_cases hlt : q < L.length
          · obtain ⟨c, hc⟩ : ∃ c, L[q]? = some c := ⟨_, List.getElem?_eq_getElem hlt⟩
            have hls : (q : Int) < (s.size : Int) := by have := HLEN.out; omega
            have hi : ∀ W : World, (Instr.index 9 (.string s) (.int .i64 (q : Int))).run Try.prog W = .ok (.int .u8 (c.toNat : Int)) W := idx_at s q c (by omega) (by rw [← HL.out]; exact hc)
            have CP := hide (refPart_any (w := wr) c.toNat)
            have HC := hide hc
            clear hc
            cases hp : partB c.toNat with
            | false =>
              rw [hp] at CP
              have hf := nameF_not HC.out hp
              have HF := hide hf
              clear hf hp
              go_wp2_with (fail)
              refine CP.out.mono ?_
              rintro e w1 ⟨rfl, rfl⟩
              go_wp2_with (fail)
              go_ret
              exact ⟨ret_bool HF.out.symm, L0.out⟩
            | true =>
              rw [hp] at CP
              have HP := hide hp
              clear hp
              go_wp2_with (fail)
              refine CP.out.mono ?_
              rintro e w1 ⟨rfl, rfl⟩
              go_wp2_with (fail)
              go_roundw
              case rel =>
                refine ⟨trivial, q + 1, by go_num, by omega, ?_⟩
                intro y hy
                rw [List.take_add_one, HC.out] at hy
                simp only [Option.toList_some, List.mem_append, List.mem_singleton] at hy
                rcases hy with hy | rfl
                · exact HA.out y hy
                · exact HP.out
              case measure => simp [intOf]; omega
          · have hls : ¬ (q : Int) < (s.size : Int) := by have := HLEN.out; omega
            have hf : nameF L = true := by
              rw [nameF_iff]
              refine ⟨by have := HLEN.out; omega, by have := HLEN.out; omega, fun c hc => ?_, ?_⟩
              · rw [HC0.out] at hc
                injection hc with hc
                rw [← hc]
                exact HS.out
              · have := HA.out
                rwa [List.take_of_length_le (by omega)] at this
            go_wp2_with (fail)
            go_ret
            exact ⟨rfl, L0.out⟩
end
end Go.Proofs.Ytojhehpbmgkbgaa
/- The document's Check. -/
namespace Go.Proofs.Ytojhehpbmgkbgaa
open Go.RowKit

section
variable {w : World}
theorem decide_gt (a b : Int) : decide (a > b) = decide (b < a) := rfl
set_option maxHeartbeats 16000000 in
set_option maxRecDepth 100000 in
theorem rcheck_any {F : Nat → Prop} {name : ByteArray} {v : Value} {steps : List StepD} (h : StepsAt F w v steps) :
    Calls Try.prog 20 #[.agg #[.string name, v]] w fun e w' => e = .returned (.tuple #[.int .i64 (((checkF name steps).1 : Nat) : Int), .int .i64 (((checkF name steps).2 : Nat) : Int)]) ∧ Later w w' := by
  obtain ⟨A, cap, rfl, hc1, hc2, _⟩ := FlatAt.shape h
  obtain ⟨n, hn⟩ : ∃ n, steps.length = n := ⟨_, rfl⟩
  rw [hn] at h hc1 ⊢
  obtain ⟨c1, hc1'⟩ : ∃ c, (checkF name steps).1 = c := ⟨_, rfl⟩
  obtain ⟨c2, hc2'⟩ : ∃ c, (checkF name steps).2 = c := ⟨_, rfl⟩
  rw [hc1', hc2']
  have HC1 := hide hc1'
  have HC2 := hide hc2'
  obtain ⟨W1, hW1⟩ : ∃ W1, W1 = w.alloc (.cells #[.string name, .slice A n cap] 24 (0, 0)) := ⟨_, rfl⟩
  obtain ⟨y, hy⟩ : ∃ y, y = w.heap.size := ⟨_, rfl⟩
  have B1 : Hid (W1.heap[y]? = some (.cells #[.string name, .slice A n cap] 24 (0, 0))) := by rw [hW1, hy]; exact heap_alloc_new w _
  have L1 : Hid (Later w W1) := by rw [hW1]; exact (Below.refl _ _).alloc (Nat.le_refl _) _
  have CN := hide (refName_any (w := W1) name)
  obtain ⟨q0, hq0⟩ : ∃ q, nameF name.data.toList = q := ⟨_, rfl⟩
  rw [hq0] at CN
  have HBAD : Hid ((!nameF name.data.toList || (decide (steps.length < 1) || decide (8 < steps.length))) = (!q0 || (decide (n < 1) || decide (8 < n)))) := by show _ = _; rw [hq0, hn]
  have H := hide h
  have HN := hide hn
  have HW1 := hide hW1.symm
  have HY := hide hy.symm
  clear h hn hW1 hy hc1' hc2' hq0
  go_enter Try.func20, Try.ntmps20
  go_wp2_with (fail)
  have hw := HW1.out
  have hyy := HY.out
  simp only [hw, hyy]
  clear hw hyy
  have c0 : W1.cell? ⟨y, 0, none⟩ = some (.string name) := (cell_of_row W1 y 0 _ _ _ B1.out).trans rfl
  have hy1 : y < W1.heap.size := lt_of_block B1.out
  go_wp2_with (fail)
  refine CN.out.mono ?_
  rintro e w2 ⟨rfl, hl2⟩
  have L2 := hide (L1.out.trans hl2)
  have B2 : Hid (w2.heap[y]? = some (.cells #[.string name, .slice A n cap] 24 (0, 0))) := (Below.block hl2 y (lt_of_block B1.out)).trans B1.out
  have c1' : w2.cell? ⟨y, 1, none⟩ = some (.slice A n cap) := (cell_of_row w2 y 1 _ _ _ B2.out).trans rfl
  have hy2 : y < w2.heap.size := lt_of_block B2.out
  clear CN hl2 L1 c0 hy1
  by_cases hbad : (!q0 || (decide (n < 1) || decide (8 < n))) = true
  · have HF : Hid (checkF name steps = (0, 2)) := by show _ = _; unfold checkF; rw [HBAD.out, hbad]; rfl
    have e1 : c1 = 0 := by rw [← HC1.out, HF.out]
    have e2 : c2 = 2 := by rw [← HC2.out, HF.out]
    have E1 := hide e1
    have E2 := hide e2
    clear e1 e2
    cases q0 with
    | false =>
      clear hbad HBAD
      go_wp2
      go_ret2
      exact ⟨by rw [E1.out, E2.out]; rfl, L2.out⟩
    | true =>
      by_cases h1 : n < 1
      · have k1 : decide ((n : Int) < 1) = true := decide_eq_true (by omega)
        clear hbad HBAD
        go_wp2
        go_ret2
        exact ⟨by rw [E1.out, E2.out]; rfl, L2.out⟩
      · have k1 : decide ((n : Int) < 1) = false := decide_eq_false (by omega)
        have h8 : 8 < n := by simp at hbad; omega
        have k2 : decide ((n : Int) > 8) = true := decide_eq_true (by omega)
        clear hbad HBAD
        go_wp2
        go_ret2
        exact ⟨by rw [E1.out, E2.out]; rfl, L2.out⟩
  · obtain rfl : q0 = true := by cases q0 <;> simp_all
    have h1 : ¬ n < 1 := by simp at hbad; omega
    have h8 : ¬ 8 < n := by simp at hbad; omega
    have HF : Hid (checkF name steps = firstBad (steps.take 0) (steps.drop 0)) := by show _ = _; unfold checkF; rw [HBAD.out, if_neg hbad]; rfl
    have k1 : decide ((n : Int) < 1) = false := decide_eq_false (by omega)
    have k2 : decide ((n : Int) > 8) = false := decide_eq_false (by omega)
    clear hbad HBAD
    go_wp2_with (fail)
    go_loopw [4, 28] (fun t4 v wr => ∃ i : Nat, v = .int .i64 (i : Int) ∧ i ≤ n ∧ t4 = .bool (pivotB (steps.take i)) ∧ checkF name steps = firstBad (steps.take i) (steps.drop i) ∧ Later w2 wr) (fun _ v _ => n - (intOf v).toNat)
    case atStart => exact ⟨0, rfl, by omega, rfl, HF.out, Later.refl _⟩
    case round =>
      obtain ⟨i, rfl, hi, rfl, hsum, hlat⟩ := hrel
      clear k1 k2
      have HS := hide hsum
      have HL := hide hlat
      have BR : Hid (wr.heap[y]? = some (.cells #[.string name, .slice A n cap] 24 (0, 0))) := (Below.block hlat y (lt_of_block B2.out)).trans B2.out
      clear hsum hlat
      obtain ⟨pb, hpb⟩ : ∃ pb, pivotB (steps.take i) = pb := ⟨_, rfl⟩
      rw [hpb]
      by_cases hlt : i < n
      · have HR := hide (StepsAt.kept H.out (Kept.of_below (L2.out.trans HL.out) F))
        obtain ⟨s, b, off, c', hs', hvv, _, _, _, hr⟩ := StepsAt.at_ HR.out (i := i) (by rw [HN.out]; exact hlt)
        rw [HN.out] at hvv
        obtain ⟨rfl, rfl⟩ : A = some ⟨b, off, none⟩ ∧ cap = c' := by injection hvv with e1 _ e3; exact ⟨e1, e3⟩
        obtain ⟨r0, r1, r2, r3, r4, r5⟩ := range_step hr
        have HSI := hide hs'
        have HPB := hide hpb
        obtain ⟨W5, hW5⟩ : ∃ W5, W5 = wr.alloc (.cells s.cells.toArray 34 (0, 0)) := ⟨_, rfl⟩
        obtain ⟨x, hx⟩ : ∃ x, x = wr.heap.size := ⟨_, rfl⟩
        have B5 : Hid (StepBox x s W5) := by rw [hW5, hx]; exact heap_alloc_new wr _
        have L5 : Hid (Later wr W5) := by rw [hW5]; exact (Below.refl _ _).alloc (Nat.le_refl _) _
        have BR5 : Hid (W5.heap[y]? = some (.cells #[.string name, .slice (some ⟨b, off, none⟩) n cap] 24 (0, 0))) := (Below.block L5.out y (lt_of_block BR.out)).trans BR.out
        have CS := hide (refName_any (w := W5) s.name)
        obtain ⟨q1, hq1⟩ : ∃ q, nameF s.name.data.toList = q := ⟨_, rfl⟩
        rw [hq1] at CS
        obtain ⟨E, hE⟩ : ∃ E, stepErr (steps.take i) s = E := ⟨_, rfl⟩
        have HE := hide hE
        have HQ1 := hide hq1
        have hx5 : x < W5.heap.size := lt_of_block B5.out
        obtain ⟨b0, b1, b2, b3, b4, b5, bf⟩ := B5.out.cells
        unfold StepD.cells at hW5
        have HW5 := hide hW5.symm
        have HX := hide hx.symm
        have cR : wr.cell? ⟨y, 1, none⟩ = some (.slice (some ⟨b, off, none⟩) n cap) := (cell_of_row wr y 1 _ _ _ BR.out).trans rfl
        clear hs' hvv hr hW5 hx hE hq1 hpb bf b1 b2 b3 b4 b5
        go_wp2_with (fail)
        have hw := HW5.out
        have hxx := HX.out
        simp only [hw, hxx]
        clear hw hxx r0 r1 r2 r3 r4 r5 cR
        go_wp2_with (fail)
        refine CS.out.mono ?_
        rintro e w6 ⟨rfl, hl6⟩
        have HL6 : Hid (Later w2 w6) := HL.out.trans (L5.out.trans hl6)
        have B6 : Hid (StepBox x s w6) := (Below.block hl6 x (lt_of_block B5.out)).trans B5.out
        have BR6 : Hid (w6.heap[y]? = some (.cells #[.string name, .slice (some ⟨b, off, none⟩) n cap] 24 (0, 0))) := (Below.block hl6 y (lt_of_block BR5.out)).trans BR5.out
        have hx6 : x < w6.heap.size := lt_of_block B6.out
        obtain ⟨b0', b1, b2, b3, b4, b5, bf⟩ := B6.out.cells
        clear CS hl6 hx5 b0 bf
        have HDONE : ∀ k : Nat, k ≠ 0 → E = k → c1 = i + 1 ∧ c2 = k := fun k hk hEk => by
          have hres : checkF name steps = (i + 1, E) := by rw [HS.out, firstBad_at HSI.out, HE.out, if_neg (by omega)]
          exact ⟨by rw [← HC1.out, hres], by rw [← HC2.out, hres, hEk]⟩
        have HDN := hide HDONE
        clear HDONE
        by_cases hbad : stepBad s = true
        · have hE2 : E = 2 := by rw [← HE.out]; exact err_bad hbad
          obtain ⟨e1, e2⟩ := HDN.out 2 (by omega) hE2
          have E1 := hide e1
          have E2 := hide e2
          have LR := hide (L2.out.trans HL6.out)
          clear hE2 e1 e2 HDN
          unfold stepBad outB at hbad
          rw [HQ1.out] at hbad
          cases q1 with
          | false =>
            clear hbad
            go_wp2
            go_ret2
            exact ⟨by rw [E1.out, E2.out]; rfl, LR.out⟩
          | true =>
            by_cases g0 : s.stub < 1
            · have f0 : decide (s.stub < 1) = true := decide_eq_true g0
              clear hbad
              go_wp2
              go_ret2
              exact ⟨by rw [E1.out, E2.out]; rfl, LR.out⟩
            · have f0 : decide (s.stub < 1) = false := decide_eq_false g0
              by_cases g1 : s.stub > 4
              · have f1 : decide (s.stub > 4) = true := decide_eq_true g1
                clear hbad
                go_wp2
                go_ret2
                exact ⟨by rw [E1.out, E2.out]; rfl, LR.out⟩
              · have f1 : decide (s.stub > 4) = false := decide_eq_false g1
                by_cases g2 : s.retry < 0
                · have f2 : decide (s.retry < 0) = true := decide_eq_true g2
                  clear hbad
                  go_wp2
                  go_ret2
                  exact ⟨by rw [E1.out, E2.out]; rfl, LR.out⟩
                · have f2 : decide (s.retry < 0) = false := decide_eq_false g2
                  by_cases g3 : s.retry > 9
                  · have f3 : decide (s.retry > 9) = true := decide_eq_true g3
                    clear hbad
                    go_wp2
                    go_ret2
                    exact ⟨by rw [E1.out, E2.out]; rfl, LR.out⟩
                  · have f3 : decide (s.retry > 9) = false := decide_eq_false g3
                    by_cases g4 : s.wait < 1
                    · have f4 : decide (s.wait < 1) = true := decide_eq_true g4
                      clear hbad
                      go_wp2
                      go_ret2
                      exact ⟨by rw [E1.out, E2.out]; rfl, LR.out⟩
                    · have f4 : decide (s.wait < 1) = false := decide_eq_false g4
                      have g5 : s.wait > 99 := by
                        simp at hbad
                        omega
                      have f5 : decide (s.wait > 99) = true := decide_eq_true g5
                      clear hbad
                      go_wp2
                      go_ret2
                      exact ⟨by rw [E1.out, E2.out]; rfl, LR.out⟩
        · have HB0 : Hid (stepBad s = false) := by show _ = _; simpa using hbad
          unfold stepBad outB at hbad
          rw [HQ1.out] at hbad
          simp only [Bool.or_eq_true, Bool.not_eq_true', decide_eq_true_eq, not_or, Bool.not_eq_false] at hbad
          obtain ⟨rfl, ⟨g1, g2⟩, ⟨g3, g4⟩, g5, g6⟩ := hbad
          have f1 : decide (s.stub < 1) = false := decide_eq_false g1
          have f2 : decide (s.stub > 4) = false := decide_eq_false g2
          have f3 : decide (s.retry < 0) = false := decide_eq_false g3
          have f4 : decide (s.retry > 9) = false := decide_eq_false g4
          have f5 : decide (s.wait < 1) = false := decide_eq_false g5
          have f6 : decide (s.wait > 99) = false := decide_eq_false g6
          have d1 : w6.cell? ⟨y, 1, none⟩ = some (.slice (some ⟨b, off, none⟩) n cap) := (cell_of_row w6 y 1 _ _ _ BR6.out).trans rfl
          have hy6 : y < w6.heap.size := lt_of_block BR6.out
          clear g1 g2 g3 g4 g5 g6 b4 b5
          go_wp2_with (fail)
          clear f1 f2 f3 f4 f5 f6 b1 b2 b3
          go_loopw [74] (fun v wr' => ∃ j : Nat, v = .int .i64 (j : Int) ∧ j ≤ i ∧ namedB (steps.take j) s = false ∧ Later w6 wr') (fun v _ => i - (intOf v).toNat)
          case atStart => exact ⟨0, rfl, by omega, rfl, Later.refl _⟩
          case round =>
            obtain ⟨j, rfl, hj, hnm, hlat⟩ := hrel
            have HNM := hide hnm
            have HLJ := hide hlat
            clear hnm hlat
            have BJ : Hid (StepBox x s wr) := (Below.block HLJ.out x (lt_of_block B6.out)).trans B6.out
            by_cases hlj : j < i
            · have HRJ := hide (StepsAt.kept H.out (Kept.of_below (L2.out.trans (HL6.out.trans HLJ.out)) F))
              obtain ⟨sj, b', off', c'', hs', hvv, _, _, _, hr⟩ := StepsAt.at_ HRJ.out (i := j) (by rw [HN.out]; omega)
              rw [HN.out] at hvv
              obtain ⟨e1, rfl⟩ : (some ⟨b, off, none⟩ : Option Addr) = some ⟨b', off', none⟩ ∧ cap = c'' := by injection hvv with e1 _ e3; exact ⟨e1, e3⟩
              obtain ⟨rfl, rfl⟩ : b = b' ∧ off = off' := by injection e1 with e1; injection e1 with e1 e2; exact ⟨e1, e2⟩
              obtain ⟨r0, r1, r2, r3, r4, r5⟩ := range_step hr
              have HSJ := hide hs'
              have LJ : Hid (Later w2 wr) := HL6.out.trans HLJ.out
              obtain ⟨W8, hW8⟩ : ∃ W8, W8 = wr.alloc (.cells sj.cells.toArray 34 (0, 0)) := ⟨_, rfl⟩
              obtain ⟨z, hz⟩ : ∃ z, z = wr.heap.size := ⟨_, rfl⟩
              have B8 : Hid (StepBox z sj W8) := by rw [hW8, hz]; exact heap_alloc_new wr _
              have L8 : Hid (Later wr W8) := by rw [hW8]; exact (Below.refl _ _).alloc (Nat.le_refl _) _
              have BX8 : Hid (StepBox x s W8) := (Below.block L8.out x (lt_of_block BJ.out)).trans BJ.out
              have a0 := B8.out.cells.1
              have a1 := BX8.out.cells.1
              have hz8 : z < W8.heap.size := lt_of_block B8.out
              have hx8 : x < W8.heap.size := lt_of_block BX8.out
              unfold StepD.cells at hW8
              have HW8 := hide hW8.symm
              have HZ := hide hz.symm
              have aJ := BJ.out.cells.1
              have hxj : x < wr.heap.size := lt_of_block BJ.out
              have a1r := a1
              have hx8r := hx8
              rw [hW8] at a1r hx8r
              clear hs' hvv hr hW8 hz e1 a0 hz8
              by_cases hnn : sj.name = s.name
              · have hE9 : E = 9 := by
                  rw [← HE.out]
                  refine err_late HB0.out ?_
                  have : namedB (steps.take i) s = true := by
                    unfold namedB
                    rw [List.any_eq_true]
                    refine ⟨sj, ?_, by simp [hnn]⟩
                    refine List.mem_of_getElem? (i := j) ?_
                    rw [List.getElem?_take_of_lt hlj]
                    exact HSJ.out
                  rw [this]; rfl
                obtain ⟨e1, e2⟩ := HDN.out 9 (by omega) hE9
                have E1 := hide e1
                have E2 := hide e2
                have LR : Hid (Later w W8) := L2.out.trans (LJ.out.trans L8.out)
                have hb : (sj.name.toList == s.name.toList) = true := by rw [hnn]; simp
                clear hE9 e1 e2 HDN hnn
                go_wp2_with (fail)
                have hw := HW8.out
                try simp only [hw]
                clear hw r0 r1 r2 r3 r4 r5
                go_ret2
                exact ⟨by rw [E1.out, E2.out]; rfl, LR.out⟩
              · have hb : (sj.name.toList == s.name.toList) = false := by rw [Sd.str_eq]; simpa using hnn
                have HNJ : Hid (namedB (steps.take (j + 1)) s = false) := by
                  show _ = _
                  have h0 := HNM.out
                  unfold namedB at h0 ⊢
                  rw [List.take_add_one, HSJ.out, List.any_append, h0]
                  simp [hnn]
                have LR : Hid (Later w6 W8) := HLJ.out.trans L8.out
                clear hnn
                go_wp2_with (fail)
                have hw := HW8.out
                try simp only [hw]
                clear hw r0 r1 r2 r3 r4 r5
                go_roundw
                case rel => exact ⟨j + 1, by go_num, by omega, HNJ.out, LR.out⟩
                case measure => simp [intOf]; omega
            · obtain rfl : j = i := by omega
              obtain ⟨_, b1, b2, b3, b4, b5, bf⟩ := BJ.out.cells
              have hxj : x < wr.heap.size := lt_of_block BJ.out
              have LR : Hid (Later w wr) := L2.out.trans (HL6.out.trans HLJ.out)
              have LQ : Hid (Later w2 wr) := HL6.out.trans HLJ.out
              obtain ⟨un, hun⟩ : ∃ un, s.undo = un := ⟨_, rfl⟩
              obtain ⟨pv, hpv⟩ : ∃ pv, s.pivot = pv := ⟨_, rfl⟩
              rw [hun] at b4
              rw [hpv] at b5
              have HUN := hide hun
              have HPV := hide hpv
              have HPP : Hid (pivotB (steps.take (j + 1)) = (pb || pv)) := by
                show _ = _
                have h0 := HPB.out
                unfold pivotB at h0 ⊢
                rw [List.take_add_one, HSI.out, List.any_append, h0, ← hpv]
                simp
              clear hun hpv b1 b2 b3 bf d1
              have HFB := firstBad_at HSI.out
              rw [HE.out] at HFB
              have HFB' := hide HFB
              clear HFB
              cases pb <;> cases pv <;> cases un <;> first
                | (have hEv : E = 9 := by rw [← HE.out]; exact err_late HB0.out (by rw [HNM.out, HPB.out, HPV.out]; rfl)
                   obtain ⟨e1, e2⟩ := HDN.out 9 (by omega) hEv
                   have E1 := hide e1
                   have E2 := hide e2
                   clear hEv e1 e2 HDN
                   go_wp2_with (fail)
                   go_ret2
                   exact ⟨by rw [E1.out, E2.out]; rfl, LR.out⟩)
                | (have hEv : E = 10 := by rw [← HE.out]; exact err_undo HB0.out (by rw [HNM.out, HPB.out, HPV.out]; rfl) (by rw [HPB.out, HPV.out, HUN.out]; rfl)
                   obtain ⟨e1, e2⟩ := HDN.out 10 (by omega) hEv
                   have E1 := hide e1
                   have E2 := hide e2
                   clear hEv e1 e2 HDN
                   go_wp2_with (fail)
                   go_ret2
                   exact ⟨by rw [E1.out, E2.out]; rfl, LR.out⟩)
                | (have hEv : Hid (E = 0) := by show _ = _; rw [← HE.out]; exact err_none HB0.out (by rw [HNM.out, HPB.out, HPV.out]; rfl) (by rw [HPB.out, HPV.out, HUN.out]; rfl)
                   clear HDN
                   go_wp2_with (fail)
                   go_roundw
                   case rel => exact ⟨j + 1, by go_num, by omega, by rw [HPP.out]; rfl, by rw [HS.out, HFB'.out, if_pos hEv.out], LQ.out⟩
                   case measure => simp [intOf]; omega)
      · have hie : i = n := by omega
        have hres : checkF name steps = (0, 0) := by rw [HS.out, hie, ← HN.out, firstBad_end]
        have e1 : c1 = 0 := by rw [← HC1.out, hres]
        have e2 : c2 = 0 := by rw [← HC2.out, hres]
        have E1 := hide e1
        have E2 := hide e2
        have cR : wr.cell? ⟨y, 1, none⟩ = some (.slice A n cap) := (cell_of_row wr y 1 _ _ _ BR.out).trans rfl
        clear hres e1 e2 hie
        go_wp2_with (fail)
        go_ret2
        exact ⟨by rw [E1.out, E2.out]; rfl, L2.out.trans HL.out⟩
end
end Go.Proofs.Ytojhehpbmgkbgaa
/- Sums over the steps: the code's, by a function that is given one, and the document's. -/
namespace Go.Proofs.Ytojhehpbmgkbgaa
open Go.RowKit

/-- The closure v tells f of each step that may be, in all later worlds. -/
def AskI (w : World) (v : SetV) (f : StepD → Int) : Prop :=
  Enters v.F ∧ ∀ (W : World) (s : StepD), Later w W → stepBad s = false → Calls Try.prog v.F (#[.agg s.cells.toArray] ++ v.cs) W fun e W' => e = .returned (.int .i64 (f s)) ∧ Later W W'
theorem good_in {name : ByteArray} {l : List StepD} {i : Nat} {s : StepD} (h : (checkF name l).2 = 0) (hs : l[i]? = some s) : stepBad s = false := (check_good h).2.2.2 s (List.mem_of_getElem? hs)
theorem sum_at {f : StepD → Int} (hf : ∀ s, stepBad s = false → 0 ≤ f s ∧ f s ≤ 1000) {name : ByteArray} {l : List StepD} (h : (checkF name l).2 = 0) (i : Nat) : 0 ≤ sumL f (l.take i) ∧ sumL f (l.take i) ≤ 16000 := by
  obtain ⟨h1, _, _, h3⟩ := check_good h
  have := sumL_range (f := f) (l := l.take i) fun s hs => hf s (h3 s (List.mem_of_mem_take hs))
  have h4 : (l.take i).length ≤ 8 := by rw [List.length_take]; omega
  omega
theorem sum_next (f : StepD → Int) {l : List StepD} {i : Nat} {s : StepD} (hs : l[i]? = some s) : sumL f (l.take (i + 1)) = sumL f (l.take i) + (if s.undo then f s * 2 else f s) := by
  rw [List.take_add_one, hs, Option.toList_some, sumL_app]

theorem wrap_fits {x : Int} (h : 0 ≤ x ∧ x ≤ 1000) : IntKind.i64.wrap x = x := by
  unfold IntKind.wrap
  simp [IntKind.bits, IntKind.signed]
  omega
section
variable {w : World}
set_option maxRecDepth 100000 in
set_option maxHeartbeats 4000000 in
theorem longest1_any (W : World) (s : StepD) (hs : stepBad s = false) : Calls Try.prog 28 #[.agg s.cells.toArray] W fun e W' => e = .returned (.int .i64 (ticksF s)) ∧ Later W W' := by
  have hg := good_nums hs
  have ht := ticks_range hs
  have ht2 := tries_range hs
  obtain ⟨W1, hW1⟩ : ∃ W1, W1 = W.alloc (.cells s.cells.toArray 34 (0, 0)) := ⟨_, rfl⟩
  obtain ⟨y, hy⟩ : ∃ y, y = W.heap.size := ⟨_, rfl⟩
  have B1 : Hid (StepBox y s W1) := by rw [hW1, hy]; exact heap_alloc_new W _
  have L1 : Hid (Later W W1) := by rw [hW1]; exact (Below.refl _ _).alloc (Nat.le_refl _) _
  have C := hide (fun (V : World) => tries_any (w := V) s (by unfold I64; omega))
  have FB : Hid (∀ V, Later W1 V → StepBox y s V) := fun V hV => (Below.block hV y (lt_of_block B1.out)).trans B1.out
  obtain ⟨T, hT⟩ : ∃ T, triesF s = T := ⟨_, rfl⟩
  have HT : Hid (ticksF s = T * s.wait) := by show _ = _; unfold ticksF; rw [hT]
  rw [HT.out] at ht ⊢
  rw [hT] at C ht2
  unfold StepD.cells at C
  have HW1 := hide hW1.symm
  have HY := hide hy.symm
  clear hs hW1 hy hT
  unfold StepD.cells at HW1
  unfold StepD.cells
  go_enter Try.func28, Try.ntmps28
  go_wp2_with (fail)
  simp only [HW1.out, HY.out]
  refine wp_region_L (by kernel_rfl) ?_
  refine wpAnyL_take (i := 0) (d := some 3) (v := ?vaa0) rfl rfl (by kernel_rfl) (by kernel_rfl) (by kernel_rfl) (fun _ _ _ h => h) (by rfl) ?yaa0 ?_
  case yaa0 => (intro w' hw'; obtain ⟨b0, b1, b2, b3, b4, b5, bf⟩ := (FB.out _ ((Later.drew _).trans hw')).cells; go_simp; try (with_reducible rfl))
  simp only [Act.put]; try simp only [List.setIfInBounds_toArray]; try simp only [List.set_cons_zero, List.set_cons_succ]
  refine wpAnyL_take (i := 2) (d := some 5) (v := ?vaa2) rfl rfl (by kernel_rfl) (by kernel_rfl) (by kernel_rfl) (fun _ _ _ h => h) (by rfl) ?yaa2 ?_
  case yaa2 => (intro w' hw'; go_simp; try (with_reducible rfl))
  simp only [Act.put]; try simp only [List.setIfInBounds_toArray]; try simp only [List.set_cons_zero, List.set_cons_succ]
  refine wpAnyL_take (i := 3) (d := some 6) (v := ?vaa3) rfl rfl (by kernel_rfl) (by kernel_rfl) (by kernel_rfl) (fun _ _ _ h => h) (by rfl) ?yaa3 ?_
  case yaa3 => (intro w' hw'; obtain ⟨b0, b1, b2, b3, b4, b5, bf⟩ := (FB.out _ ((Later.drew _).trans hw')).cells; go_simp; try (with_reducible rfl))
  simp only [Act.put]; try simp only [List.setIfInBounds_toArray]; try simp only [List.set_cons_zero, List.set_cons_succ]
  refine wpAnyL_only (i := 1) rfl (by kernel_rfl) (by rfl) fun K hK => ?_
  go_simp
  refine (C.out _).mono ?_
  rintro e w1 ⟨rfl, hl⟩
  have HL := hide (L1.out.trans ((Later.drew _).trans hl))
  refine hK.out _ _ hl ?_
  clear hl
  clear hK K
  try (simp only [Act.put]; try simp only [List.setIfInBounds_toArray]; try simp only [List.set_cons_zero, List.set_cons_succ])
  refine wpAnyL_take (i := 4) (d := some 7) (v := ?vaa4) rfl rfl (by kernel_rfl) (by kernel_rfl) (by kernel_rfl) (fun _ _ _ h => h) (by rfl) ?yaa4 ?_
  case yaa4 => (intro w' hw'; go_simp; try (with_reducible rfl))
  simp only [Act.put]; try simp only [List.setIfInBounds_toArray]; try simp only [List.set_cons_zero, List.set_cons_succ]
  refine wpAnyL_take (i := 5) (d := some 2) (v := ?vaa5) rfl rfl (by kernel_rfl) (by kernel_rfl) (by kernel_rfl) (fun _ _ _ h => h) (by rfl) ?yaa5 ?_
  case yaa5 => (intro w' hw'; go_simp; try (with_reducible rfl))
  simp only [Act.put]; try simp only [List.setIfInBounds_toArray]; try simp only [List.set_cons_zero, List.set_cons_succ]
  refine wpAnyL_done (by kernel_rfl) ?_ _
  go_wp2
  go_ret
  exact ⟨ret_int (wrap_fits ht), HL.out⟩
theorem enters_longest1 : Enters 28 := fun args w => by go_simp

set_option maxRecDepth 100000 in
set_option maxHeartbeats 8000000 in
theorem sum_any {F : Nat → Prop} {name : ByteArray} {v : Value} {steps : List StepD} {c : SetV} {f : StepD → Int} (h : StepsAt F w v steps) (hc : AskI w c f) (hf : ∀ s, stepBad s = false → 0 ≤ f s ∧ f s ≤ 1000) :
    Calls Try.prog 27 #[.agg #[.string name, v], c.val] w fun e w' => e = .returned (.int .i64 (sumF f name steps)) ∧ Later w w' := by
  obtain ⟨A, cap, rfl, hc1, hc2, _⟩ := FlatAt.shape h
  obtain ⟨n, hn⟩ : ∃ n, steps.length = n := ⟨_, rfl⟩
  rw [hn] at h hc1 ⊢
  obtain ⟨W1, hW1⟩ : ∃ W1, W1 = w.alloc (.cells #[.string name, .slice A n cap] 24 (0, 0)) := ⟨_, rfl⟩
  obtain ⟨y, hy⟩ : ∃ y, y = w.heap.size := ⟨_, rfl⟩
  have B1 : Hid (DefBox y name (.slice A n cap) W1) := by rw [hW1, hy]; exact heap_alloc_new w _
  have L1 : Hid (Later w W1) := by rw [hW1]; exact (Below.refl _ _).alloc (Nat.le_refl _) _
  have CC : Hid (Calls Try.prog 32 #[.agg #[.string name, .slice A n cap]] W1 fun e w' => e = .returned (.tuple #[.int .i64 (((checkF name steps).1 : Nat) : Int), .int .i64 (((checkF name steps).2 : Nat) : Int)]) ∧ Later W1 w') := check_any (StepsAt.kept h (Kept.of_below L1.out _))
  have H := hide h
  have HN := hide hn
  have HC := hide hc
  have HF := hide hf
  have eg := hc.1
  unfold Enters at eg
  obtain ⟨S, hS⟩ : ∃ S, sumF f name steps = S := ⟨_, rfl⟩
  rw [hS]
  have HS := hide hS
  obtain ⟨k1, hk1⟩ : ∃ k1, (checkF name steps).1 = k1 := ⟨_, rfl⟩
  obtain ⟨k2, hk2⟩ : ∃ k2, (checkF name steps).2 = k2 := ⟨_, rfl⟩
  rw [hk1, hk2] at CC
  have HK := hide hk2
  have c0 : W1.cell? ⟨y, 0, none⟩ = some (.string name) := B1.out.name_
  have c1 : W1.cell? ⟨y, 1, none⟩ = some (.slice A n cap) := B1.out.steps
  have HW1 := hide hW1.symm
  have HY := hide hy.symm
  obtain ⟨FF, cs⟩ := c
  simp only [SetV.val]
  simp only at eg
  clear h hn hW1 hy hc2 hS hk1 hk2 hc hf
  go_enter Try.func27, Try.ntmps27
  go_wp2_with (fail)
  simp only [HW1.out, HY.out]
  go_wp2_with (fail)
  refine CC.out.mono ?_
  rintro e w2 ⟨rfl, hl2⟩
  have L2 := hide (L1.out.trans hl2)
  have B2 := hide (B1.out.below hl2)
  have d1 : w2.cell? ⟨y, 1, none⟩ = some (.slice A n cap) := B2.out.steps
  clear c0 c1 hl2 CC
  by_cases hk : k2 = 0
  · subst hk
    have hn8 : n ≤ 8 := by have := (check_good HK.out).1; rwa [HN.out] at this
    have HSS : Hid (S = sumL f steps) := by show _ = _; rw [← HS.out]; unfold sumF; rw [if_pos HK.out]
    go_wp2_with (fail)
    go_loopw [7, 20] (fun t v wr => ∃ i : Nat, v = .int .i64 (i : Int) ∧ i ≤ n ∧ t = .int .i64 (sumL f (steps.take i)) ∧ Later w2 wr) (fun _ v _ => n - (intOf v).toNat)
    case atStart => exact ⟨0, rfl, by omega, by simp [sumL], Later.refl _⟩
    case round =>
      obtain ⟨i, rfl, hi, rfl, hlat⟩ := hrel
      have HL := hide hlat
      have hrg := sum_at HF.out HK.out i
      obtain ⟨T, hT⟩ : ∃ T, sumL f (steps.take i) = T := ⟨_, rfl⟩
      rw [hT] at hrg ⊢
      have HT := hide hT
      clear hlat hT
      by_cases hlt : i < n
      · obtain ⟨s, b, off, c', hs', hvv, _, _, _, hr⟩ := StepsAt.at_ (StepsAt.kept H.out (Kept.of_below (L2.out.trans HL.out) F)) (i := i) (by rw [HN.out]; exact hlt)
        rw [HN.out] at hvv
        obtain ⟨rfl, rfl⟩ : A = some ⟨b, off, none⟩ ∧ cap = c' := by injection hvv with e1 _ e3; exact ⟨e1, e3⟩
        obtain ⟨r0, r1, r2, r3, r4, r5⟩ := range_step hr
        have hgd := good_in HK.out hs'
        have hfr := HF.out s hgd
        have HNX := hide (sum_next f hs')
        have HQ : Hid (∀ V, Later w V → Calls Try.prog FF (#[.agg s.cells.toArray] ++ cs) V fun e W' => e = .returned (.int .i64 (f s)) ∧ Later V W') := fun V hV => HC.out.2 V s hV hgd
        obtain ⟨fs, hfs⟩ : ∃ fs, f s = fs := ⟨_, rfl⟩
        rw [hfs] at hfr HQ HNX
        rw [HT.out] at HNX
        obtain ⟨W5, hW5⟩ : ∃ W5, W5 = wr.alloc (.cells s.cells.toArray 34 (0, 0)) := ⟨_, rfl⟩
        obtain ⟨x, hx⟩ : ∃ x, x = wr.heap.size := ⟨_, rfl⟩
        have B5 : Hid (StepBox x s W5) := by rw [hW5, hx]; exact heap_alloc_new wr _
        have L5 : Hid (Later wr W5) := by rw [hW5]; exact (Below.refl _ _).alloc (Nat.le_refl _) _
        obtain ⟨b0, b1, b2, b3, b4, b5, bf⟩ := B5.out.cells
        have C5 := hide (HQ.out W5 (L2.out.trans (HL.out.trans L5.out)))
        unfold StepD.cells at hW5 C5
        have HW5 := hide hW5.symm
        have HX := hide hx.symm
        clear hs' hvv hr hW5 hx hfs hgd bf
        go_wp2_with (fail)
        simp only [HW5.out, HX.out]
        clear r0 r1 r2 r3 r4 r5
        go_wp2_with (fail)
        refine C5.out.mono ?_
        rintro e w6 ⟨rfl, hl6⟩
        have HL6 : Hid (Later w2 w6) := HL.out.trans (L5.out.trans hl6)
        have B6 : Hid (StepBox x s w6) := (Below.block hl6 x (lt_of_block B5.out)).trans B5.out
        obtain ⟨d0, d2, d3, d4, d5, d6, df⟩ := B6.out.cells
        have C6 := hide (HQ.out w6 (L2.out.trans HL6.out))
        unfold StepD.cells at C6
        obtain ⟨un, hun⟩ : ∃ un, s.undo = un := ⟨_, rfl⟩
        rw [hun] at d5 HNX C6
        clear b0 b1 b2 b3 b4 b5 df C5 hl6 hun
        cases un with
        | false =>
          have HE : Hid (sumL f (steps.take (i + 1)) = T + fs) := by show _ = _; rw [HNX.out]; rfl
          clear HNX C6
          go_wp2
          go_roundw
          case rel => exact ⟨i + 1, by go_num, by omega, by rw [HE.out], HL6.out⟩
          case measure => simp [intOf]; omega
        | true =>
          have HE : Hid (sumL f (steps.take (i + 1)) = T + fs + fs) := by
            show _ = _
            rw [HNX.out, if_pos rfl]
            omega
          clear HNX
          go_wp2_with (fail)
          refine C6.out.mono ?_
          rintro e w7 ⟨rfl, hl7⟩
          have HL7 := hide (HL6.out.trans hl7)
          clear C6 d0 d2 d3 d4 d5 d6 hl7
          go_wp2
          go_roundw
          case rel => exact ⟨i + 1, by go_num, by omega, by rw [HE.out], HL7.out⟩
          case measure => simp [intOf]; omega
      · have hin : i = n := by omega
        have hv : S = T := by
          rw [HSS.out, ← HT.out, hin, ← HN.out, List.take_length]
        subst hv
        clear hin
        go_wp2
        go_ret
        exact ⟨rfl, L2.out.trans HL.out⟩
  · have hS0 : S = 0 := by rw [← HS.out]; unfold sumF; rw [if_neg (by rw [HK.out]; exact hk)]
    subst hS0
    have hk0 : ((k2 : Int) == 0) = false := by rw [beq_eq_false_iff_ne]; omega
    clear hk d1
    go_wp2
    go_ret
    exact ⟨rfl, L2.out⟩

set_option maxHeartbeats 2000000 in
theorem commands_any {F : Nat → Prop} {name : ByteArray} {v : Value} {l : List StepD} (h : StepsAt F w v l) :
    Calls Try.prog 18 #[.agg #[.string name, v]] w fun e w' => e = .returned (.int .i64 (sumF triesF name l)) ∧ Later w w' := by
  obtain ⟨A, cap, rfl, hc1, hc2, _⟩ := FlatAt.shape h
  obtain ⟨n, hn⟩ : ∃ n, l.length = n := ⟨_, rfl⟩
  rw [hn] at h hc1 ⊢
  obtain ⟨W1, hW1⟩ : ∃ W1, W1 = w.alloc (.cells #[.string name, .slice A n cap] 24 (0, 0)) := ⟨_, rfl⟩
  obtain ⟨y, hy⟩ : ∃ y, y = w.heap.size := ⟨_, rfl⟩
  have B1 : Hid (DefBox y name (.slice A n cap) W1) := by rw [hW1, hy]; exact heap_alloc_new w _
  have L1 : Hid (Later w W1) := by rw [hW1]; exact (Below.refl _ _).alloc (Nat.le_refl _) _
  have CC : Hid (Calls Try.prog 27 #[.agg #[.string name, .slice A n cap], SetV.val ⟨23, #[]⟩] W1 fun e w' => e = .returned (.int .i64 (sumF triesF name l)) ∧ Later W1 w') :=
    sum_any (StepsAt.kept h (Kept.of_below L1.out _)) ⟨enters_tries, fun W s _ hs => tries_any s (by have := good_nums hs; unfold I64; omega)⟩ fun s hs => tries_range hs
  simp only [SetV.val] at CC
  have c0 : W1.cell? ⟨y, 0, none⟩ = some (.string name) := B1.out.name_
  have c1 : W1.cell? ⟨y, 1, none⟩ = some (.slice A n cap) := B1.out.steps
  have HW1 := hide hW1.symm
  have HY := hide hy.symm
  clear h hn hW1 hy hc2
  go_enter Try.func18, Try.ntmps18
  go_wp2_with (fail)
  simp only [HW1.out, HY.out]
  go_wp2_with (fail)
  refine CC.out.mono ?_
  rintro e w2 ⟨rfl, hl2⟩
  have L2 := hide (L1.out.trans hl2)
  clear CC hl2 c0 c1
  go_wp2
  go_ret
  exact ⟨rfl, L2.out⟩
set_option maxHeartbeats 2000000 in
theorem longest_any {F : Nat → Prop} {name : ByteArray} {v : Value} {l : List StepD} (h : StepsAt F w v l) :
    Calls Try.prog 16 #[.agg #[.string name, v]] w fun e w' => e = .returned (.int .i64 (sumF ticksF name l)) ∧ Later w w' := by
  obtain ⟨A, cap, rfl, hc1, hc2, _⟩ := FlatAt.shape h
  obtain ⟨n, hn⟩ : ∃ n, l.length = n := ⟨_, rfl⟩
  rw [hn] at h hc1 ⊢
  obtain ⟨W1, hW1⟩ : ∃ W1, W1 = w.alloc (.cells #[.string name, .slice A n cap] 24 (0, 0)) := ⟨_, rfl⟩
  obtain ⟨y, hy⟩ : ∃ y, y = w.heap.size := ⟨_, rfl⟩
  have B1 : Hid (DefBox y name (.slice A n cap) W1) := by rw [hW1, hy]; exact heap_alloc_new w _
  have L1 : Hid (Later w W1) := by rw [hW1]; exact (Below.refl _ _).alloc (Nat.le_refl _) _
  have CC : Hid (Calls Try.prog 27 #[.agg #[.string name, .slice A n cap], SetV.val ⟨28, #[]⟩] W1 fun e w' => e = .returned (.int .i64 (sumF ticksF name l)) ∧ Later W1 w') :=
    sum_any (StepsAt.kept h (Kept.of_below L1.out _)) ⟨enters_longest1, fun W s _ hs => longest1_any W s hs⟩ fun s hs => ticks_range hs
  simp only [SetV.val] at CC
  have c0 : W1.cell? ⟨y, 0, none⟩ = some (.string name) := B1.out.name_
  have c1 : W1.cell? ⟨y, 1, none⟩ = some (.slice A n cap) := B1.out.steps
  have HW1 := hide hW1.symm
  have HY := hide hy.symm
  clear h hn hW1 hy hc2
  go_enter Try.func16, Try.ntmps16
  go_wp2_with (fail)
  simp only [HW1.out, HY.out]
  go_wp2_with (fail)
  refine CC.out.mono ?_
  rintro e w2 ⟨rfl, hl2⟩
  have L2 := hide (L1.out.trans hl2)
  clear CC hl2 c0 c1
  go_wp2
  go_ret
  exact ⟨rfl, L2.out⟩
end
end Go.Proofs.Ytojhehpbmgkbgaa
/- The document's sums. -/
namespace Go.Proofs.Ytojhehpbmgkbgaa
open Go.RowKit

/-- What is counted. -/
def cntF (b : Bool) (s : StepD) : Int := if b then ticksF s else triesF s
theorem cnt_range (b : Bool) {s : StepD} (h : stepBad s = false) : 0 ≤ cntF b s ∧ cntF b s ≤ 1000 := by
  cases b with
  | false => exact tries_range h
  | true => exact ticks_range h
theorem cnt_undo (b u : Bool) (s : StepD) (f : Int) (h : cntF b s = f) : (if u then cntF b s * 2 else cntF b s) = if u then f * 2 else f := by rw [h]
section
variable {w : World}
set_option maxRecDepth 100000 in
set_option maxHeartbeats 8000000 in
theorem rsum_any {F : Nat → Prop} {name : ByteArray} {v : Value} {steps : List StepD} (bw : Bool) (h : StepsAt F w v steps) (hwf : ∀ s ∈ steps, s.wf) :
    Calls Try.prog 29 #[.agg #[.string name, v], .bool bw] w fun e w' => e = .returned (.int .i64 (sumF (cntF bw) name steps)) ∧ Later w w' := by
  obtain ⟨A, cap, rfl, hc1, hc2, _⟩ := FlatAt.shape h
  obtain ⟨n, hn⟩ : ∃ n, steps.length = n := ⟨_, rfl⟩
  rw [hn] at h hc1 ⊢
  obtain ⟨W1, hW1⟩ : ∃ W1, W1 = w.alloc (.cells #[.string name, .slice A n cap] 24 (0, 0)) := ⟨_, rfl⟩
  obtain ⟨y, hy⟩ : ∃ y, y = w.heap.size := ⟨_, rfl⟩
  have B1 : Hid (DefBox y name (.slice A n cap) W1) := by rw [hW1, hy]; exact heap_alloc_new w _
  have L1 : Hid (Later w W1) := by rw [hW1]; exact (Below.refl _ _).alloc (Nat.le_refl _) _
  have CC : Hid (Calls Try.prog 20 #[.agg #[.string name, .slice A n cap]] W1 fun e w' => e = .returned (.tuple #[.int .i64 (((checkF name steps).1 : Nat) : Int), .int .i64 (((checkF name steps).2 : Nat) : Int)]) ∧ Later W1 w') := rcheck_any (StepsAt.kept h (Kept.of_below L1.out _))
  have H := hide h
  have HN := hide hn
  have HT : Hid (∀ (V : World) (k : Int), Later w V → I64 k → Calls Try.prog 11 #[.agg #[.string name, .slice A n cap], .int .i64 k] V fun e w' => e = .returned (.int .i64 (triesN steps k)) ∧ Later V w') :=
    fun V k hV hk => rTries_any (StepsAt.kept h (Kept.of_below hV _)) hk hwf
  obtain ⟨S, hS⟩ : ∃ S, sumF (cntF bw) name steps = S := ⟨_, rfl⟩
  rw [hS]
  have HS := hide hS
  obtain ⟨k1, hk1⟩ : ∃ k1, (checkF name steps).1 = k1 := ⟨_, rfl⟩
  obtain ⟨k2, hk2⟩ : ∃ k2, (checkF name steps).2 = k2 := ⟨_, rfl⟩
  rw [hk1, hk2] at CC
  have HK := hide hk2
  have c0 : W1.cell? ⟨y, 0, none⟩ = some (.string name) := B1.out.name_
  have c1 : W1.cell? ⟨y, 1, none⟩ = some (.slice A n cap) := B1.out.steps
  have HW1 := hide hW1.symm
  have HY := hide hy.symm
  clear h hn hW1 hy hc2 hS hk1 hk2 hwf
  go_enter Try.func29, Try.ntmps29
  go_wp2_with (fail)
  simp only [HW1.out, HY.out]
  go_wp2_with (fail)
  refine CC.out.mono ?_
  rintro e w2 ⟨rfl, hl2⟩
  have L2 := hide (L1.out.trans hl2)
  have B2 := hide (B1.out.below hl2)
  have d1 : w2.cell? ⟨y, 1, none⟩ = some (.slice A n cap) := B2.out.steps
  clear c0 c1 hl2 CC
  by_cases hk : k2 = 0
  · subst hk
    have hn8 : n ≤ 8 := by have := (check_good HK.out).1; rwa [HN.out] at this
    have HSS : Hid (S = sumL (cntF bw) steps) := by show _ = _; rw [← HS.out]; unfold sumF; rw [if_pos HK.out]
    go_wp2_with (fail)
    go_loopw [7, 21] (fun t v wr => ∃ i : Nat, v = .int .i64 (i : Int) ∧ i ≤ n ∧ t = .int .i64 (sumL (cntF bw) (steps.take i)) ∧ Later w2 wr) (fun _ v _ => n - (intOf v).toNat)
    case atStart => exact ⟨0, rfl, by omega, by simp [sumL], Later.refl _⟩
    case round =>
      obtain ⟨i, rfl, hi, rfl, hlat⟩ := hrel
      have HL := hide hlat
      have hrg := sum_at (fun s => cnt_range bw (s := s)) HK.out i
      obtain ⟨T, hT⟩ : ∃ T, sumL (cntF bw) (steps.take i) = T := ⟨_, rfl⟩
      rw [hT] at hrg ⊢
      have HTT := hide hT
      clear hlat hT
      by_cases hlt : i < n
      · obtain ⟨s, b, off, c', hs', hvv, _, _, _, hr⟩ := StepsAt.at_ (StepsAt.kept H.out (Kept.of_below (L2.out.trans HL.out) F)) (i := i) (by rw [HN.out]; exact hlt)
        rw [HN.out] at hvv
        obtain ⟨rfl, rfl⟩ : A = some ⟨b, off, none⟩ ∧ cap = c' := by injection hvv with e1 _ e3; exact ⟨e1, e3⟩
        obtain ⟨r0, r1, r2, r3, r4, r5⟩ := range_step hr
        have hgd := good_in HK.out hs'
        have hfr := cnt_range bw hgd
        have htr := tries_range hgd
        have HNX := hide (sum_next (cntF bw) hs')
        have HTN := triesN_at hs'
        obtain ⟨W5, hW5⟩ : ∃ W5, W5 = wr.alloc (.cells s.cells.toArray 34 (0, 0)) := ⟨_, rfl⟩
        obtain ⟨x, hx⟩ : ∃ x, x = wr.heap.size := ⟨_, rfl⟩
        have B5 : Hid (StepBox x s W5) := by rw [hW5, hx]; exact heap_alloc_new wr _
        have L5 : Hid (Later wr W5) := by rw [hW5]; exact (Below.refl _ _).alloc (Nat.le_refl _) _
        have BD : Hid (DefBox y name (.slice (some ⟨b, off, none⟩) n cap) W5) := B2.out.below (HL.out.trans L5.out)
        have y0 : W5.cell? ⟨y, 0, none⟩ = some (.string name) := BD.out.name_
        have y1 : W5.cell? ⟨y, 1, none⟩ = some (.slice (some ⟨b, off, none⟩) n cap) := BD.out.steps
        have C5 := HT.out W5 ((i : Int) + 1) (L2.out.trans (HL.out.trans L5.out)) (by unfold I64; omega)
        rw [HTN] at C5
        have HC5 := hide C5
        obtain ⟨tr, htt⟩ : ∃ tr, triesF s = tr := ⟨_, rfl⟩
        obtain ⟨fs, hfs⟩ : ∃ fs, cntF bw s = fs := ⟨_, rfl⟩
        have HFS : Hid (fs = if bw then tr * s.wait else tr) := by show _ = _; rw [← hfs]; unfold cntF ticksF; rw [htt]
        rw [hfs] at hfr HNX
        rw [HTT.out] at HNX
        rw [htt] at HC5 htr
        unfold StepD.cells at hW5
        have HW5 := hide hW5.symm
        have HX := hide hx.symm
        clear hs' hvv hr hW5 hx hfs hgd C5 HTN htt
        -- the box is made in the walk's own world
        rw [← HW5.out] at y0 y1
        go_wp2_with (fail)
        simp only [HW5.out, HX.out]
        clear r0 r1 r2 r3 r4 r5 y0 y1
        refine HC5.out.mono ?_
        rintro e w6 ⟨rfl, hl6⟩
        have HL6 : Hid (Later w2 w6) := HL.out.trans (L5.out.trans hl6)
        have B6 : Hid (StepBox x s w6) := (Below.block hl6 x (lt_of_block B5.out)).trans B5.out
        obtain ⟨d0, d2, d3, d4, d5, d6, df⟩ := B6.out.cells
        obtain ⟨un, hun⟩ : ∃ un, s.undo = un := ⟨_, rfl⟩
        rw [hun] at d5 HNX
        clear df HC5 hl6 hun d0 d2 d3 d6
        cases bw with
        | false =>
          obtain rfl : fs = tr := by rw [HFS.out]; rfl
          cases un with
          | false =>
            have HE : Hid (sumL (cntF false) (steps.take (i + 1)) = T + fs) := by show _ = _; rw [HNX.out]; rfl
            clear HNX
            go_wp2
            go_roundw
            case rel => exact ⟨i + 1, by go_num, by omega, by rw [HE.out], HL6.out⟩
            case measure => simp [intOf]; omega
          | true =>
            have HE : Hid (sumL (cntF false) (steps.take (i + 1)) = T + fs * 2) := by show _ = _; rw [HNX.out]; rfl
            clear HNX
            go_wp2
            go_roundw
            case rel => exact ⟨i + 1, by go_num, by omega, by rw [HE.out], HL6.out⟩
            case measure => simp [intOf]; omega
        | true =>
          have hfm : tr * s.wait = fs := by rw [HFS.out]; rfl
          have hwr := wrap_fits hfr
          cases un with
          | false =>
            have HE : Hid (sumL (cntF true) (steps.take (i + 1)) = T + fs) := by show _ = _; rw [HNX.out]; rfl
            clear HNX
            go_wp2
            go_roundw
            case rel => exact ⟨i + 1, by go_num, by omega, by rw [HE.out], HL6.out⟩
            case measure => simp [intOf]; omega
          | true =>
            have HE : Hid (sumL (cntF true) (steps.take (i + 1)) = T + fs * 2) := by show _ = _; rw [HNX.out]; rfl
            clear HNX
            go_wp2
            go_roundw
            case rel => exact ⟨i + 1, by go_num, by omega, by rw [HE.out], HL6.out⟩
            case measure => simp [intOf]; omega
      · have hin : i = n := by omega
        have hv : S = T := by
          rw [HSS.out, ← HTT.out, hin, ← HN.out, List.take_length]
        subst hv
        clear hin
        go_wp2
        go_ret
        exact ⟨rfl, L2.out.trans HL.out⟩
  · have hS0 : S = 0 := by rw [← HS.out]; unfold sumF; rw [if_neg (by rw [HK.out]; exact hk)]
    subst hS0
    have hk0 : ((k2 : Int) == 0) = false := by rw [beq_eq_false_iff_ne]; omega
    clear hk d1
    go_wp2
    go_ret
    exact ⟨rfl, L2.out⟩

set_option maxHeartbeats 2000000 in
theorem rcommands_any {F : Nat → Prop} {name : ByteArray} {v : Value} {l : List StepD} (h : StepsAt F w v l) (hwf : ∀ s ∈ l, s.wf) :
    Calls Try.prog 19 #[.agg #[.string name, v]] w fun e w' => e = .returned (.int .i64 (sumF triesF name l)) ∧ Later w w' := by
  obtain ⟨A, cap, rfl, hc1, hc2, _⟩ := FlatAt.shape h
  obtain ⟨n, hn⟩ : ∃ n, l.length = n := ⟨_, rfl⟩
  rw [hn] at h hc1 ⊢
  obtain ⟨W1, hW1⟩ : ∃ W1, W1 = w.alloc (.cells #[.string name, .slice A n cap] 24 (0, 0)) := ⟨_, rfl⟩
  obtain ⟨y, hy⟩ : ∃ y, y = w.heap.size := ⟨_, rfl⟩
  have B1 : Hid (DefBox y name (.slice A n cap) W1) := by rw [hW1, hy]; exact heap_alloc_new w _
  have L1 : Hid (Later w W1) := by rw [hW1]; exact (Below.refl _ _).alloc (Nat.le_refl _) _
  have CC : Hid (Calls Try.prog 29 #[.agg #[.string name, .slice A n cap], .bool false] W1 fun e w' => e = .returned (.int .i64 (sumF triesF name l)) ∧ Later W1 w') :=
    rsum_any false (StepsAt.kept h (Kept.of_below L1.out _)) hwf
  have c0 : W1.cell? ⟨y, 0, none⟩ = some (.string name) := B1.out.name_
  have c1 : W1.cell? ⟨y, 1, none⟩ = some (.slice A n cap) := B1.out.steps
  have HW1 := hide hW1.symm
  have HY := hide hy.symm
  clear h hn hW1 hy hc2
  go_enter Try.func19, Try.ntmps19
  go_wp2_with (fail)
  simp only [HW1.out, HY.out]
  go_wp2_with (fail)
  refine CC.out.mono ?_
  rintro e w2 ⟨rfl, hl2⟩
  have L2 := hide (L1.out.trans hl2)
  clear CC hl2 c0 c1
  go_wp2
  go_ret
  exact ⟨rfl, L2.out⟩
set_option maxHeartbeats 2000000 in
theorem rlongest_any {F : Nat → Prop} {name : ByteArray} {v : Value} {l : List StepD} (h : StepsAt F w v l) (hwf : ∀ s ∈ l, s.wf) :
    Calls Try.prog 17 #[.agg #[.string name, v]] w fun e w' => e = .returned (.int .i64 (sumF ticksF name l)) ∧ Later w w' := by
  obtain ⟨A, cap, rfl, hc1, hc2, _⟩ := FlatAt.shape h
  obtain ⟨n, hn⟩ : ∃ n, l.length = n := ⟨_, rfl⟩
  rw [hn] at h hc1 ⊢
  obtain ⟨W1, hW1⟩ : ∃ W1, W1 = w.alloc (.cells #[.string name, .slice A n cap] 24 (0, 0)) := ⟨_, rfl⟩
  obtain ⟨y, hy⟩ : ∃ y, y = w.heap.size := ⟨_, rfl⟩
  have B1 : Hid (DefBox y name (.slice A n cap) W1) := by rw [hW1, hy]; exact heap_alloc_new w _
  have L1 : Hid (Later w W1) := by rw [hW1]; exact (Below.refl _ _).alloc (Nat.le_refl _) _
  have CC : Hid (Calls Try.prog 29 #[.agg #[.string name, .slice A n cap], .bool true] W1 fun e w' => e = .returned (.int .i64 (sumF ticksF name l)) ∧ Later W1 w') :=
    rsum_any true (StepsAt.kept h (Kept.of_below L1.out _)) hwf
  have c0 : W1.cell? ⟨y, 0, none⟩ = some (.string name) := B1.out.name_
  have c1 : W1.cell? ⟨y, 1, none⟩ = some (.slice A n cap) := B1.out.steps
  have HW1 := hide hW1.symm
  have HY := hide hy.symm
  clear h hn hW1 hy hc2
  go_enter Try.func17, Try.ntmps17
  go_wp2_with (fail)
  simp only [HW1.out, HY.out]
  go_wp2_with (fail)
  refine CC.out.mono ?_
  rintro e w2 ⟨rfl, hl2⟩
  have L2 := hide (L1.out.trans hl2)
  clear CC hl2 c0 c1
  go_wp2
  go_ret
  exact ⟨rfl, L2.out⟩
end
end Go.Proofs.Ytojhehpbmgkbgaa
/- Definitions that are too long to be looked at. -/
namespace Go.Proofs.Ytojhehpbmgkbgaa
open Go.RowKit

def longF (name : ByteArray) (l : List StepD) : Bool := decide (400 < name.size) || (decide (40 < l.length) || l.any fun s => decide (400 < s.name.size))
section
variable {w : World}
set_option maxHeartbeats 4000000 in
theorem long_any {F : Nat → Prop} {a : ByteArray} {v : Value} {l : List StepD} (hl : StepsAt F w v l) (hb : l.length ≤ 9223372036854775807) :
    Calls Try.prog 6 #[.agg #[.string a, v]] w fun e w' => e = .returned (.bool (longF a l)) ∧ Later w w' := by
  obtain ⟨A, c, rfl, h1, h2, _⟩ := FlatAt.shape hl
  obtain ⟨n, hn⟩ : ∃ n, l.length = n := ⟨_, rfl⟩
  rw [hn] at h1 hl hb ⊢
  obtain ⟨W1, hW1⟩ : ∃ W1, W1 = w.alloc (.cells #[.string a, .slice A n c] 24 (0, 0)) := ⟨_, rfl⟩
  have L1 : Hid (Later w W1) := by rw [hW1]; exact (Below.refl _ _).alloc (Nat.le_refl _) _
  have H := hide hl
  have HN := hide hn
  have HW1 := hide hW1.symm
  obtain ⟨Q, hQ⟩ : ∃ Q, longF a l = Q := ⟨_, rfl⟩
  rw [hQ]
  have HQ := hide hQ
  clear hl hn hW1 hQ h2
  by_cases ha : 400 < a.size
  · have hq : Q = true := by rw [← HQ.out]; unfold longF; simp [ha]
    subst hq
    have ha' : (400 : Int) < (a.size : Int) := by omega
    go_enter Try.func6, Try.ntmps6
    go_wp2
    rw [HW1.out]
    go_ret
    exact ⟨rfl, L1.out⟩
  · have ha' : ¬ (400 : Int) < (a.size : Int) := by omega
    by_cases hn4 : 40 < n
    · have hq : Q = true := by rw [← HQ.out]; unfold longF; rw [HN.out]; simp [hn4]
      subst hq
      have hn' : (40 : Int) < (n : Int) := by omega
      go_enter Try.func6, Try.ntmps6
      go_wp2
      rw [HW1.out]
      go_ret
      exact ⟨rfl, L1.out⟩
    · have hn' : ¬ (40 : Int) < (n : Int) := by omega
      have hq : Q = l.any fun s => decide (400 < s.name.size) := by rw [← HQ.out]; unfold longF; rw [HN.out]; simp [ha, hn4]
      have HQ2 := hide hq
      clear hq HQ
      go_enter Try.func6, Try.ntmps6
      go_wp2_with (fail)
      rw [HW1.out]
      go_loopw [18] (fun v wr => ∃ i : Nat, v = .int .i64 (i : Int) ∧ i ≤ n ∧ (l.take i).any (fun s => decide (400 < s.name.size)) = false ∧ Later W1 wr) (fun v _ => n - (intOf v).toNat)
      case atStart => exact ⟨0, rfl, by omega, by simp, Later.refl _⟩
      case round =>
        obtain ⟨i, rfl, hi, hall, hlat⟩ := hrel
        have HA := hide hall
        have HL := hide hlat
        clear hall hlat
        by_cases hlt : i < n
        · obtain ⟨s, b, off, c', hs', hvv, _, _, _, hr⟩ := StepsAt.at_ (StepsAt.kept H.out (Kept.of_below (L1.out.trans HL.out) F)) (i := i) (by rw [HN.out]; exact hlt)
          rw [HN.out] at hvv
          obtain ⟨rfl, rfl⟩ : A = some ⟨b, off, none⟩ ∧ c = c' := by injection hvv with e1 _ e3; exact ⟨e1, e3⟩
          obtain ⟨r0, r1, r2, r3, r4, r5⟩ := range_step hr
          have HP := hide hs'
          have HL2 := fun (o : Obj) => hide (HL.out.alloc (Below.size HL.out) o)
          clear hs' hvv hr
          by_cases hs4 : 400 < s.name.size
          · have hs5 : (400 : Int) < (s.name.size : Int) := by omega
            have hyes : Q = true := by
              rw [HQ2.out, List.any_eq_true]
              exact ⟨s, List.mem_of_getElem? HP.out, by simpa using hs4⟩
            subst hyes
            go_wp2
            go_ret
            exact ⟨rfl, L1.out.trans (HL2 _).out⟩
          · have hs5 : ¬ (400 : Int) < (s.name.size : Int) := by omega
            have HS4 := hide hs4
            clear hs4
            go_wp2
            go_roundw
            case rel =>
              refine ⟨i + 1, by go_num, by omega, ?_, (HL2 _).out⟩
              rw [List.take_add_one, HP.out, List.any_append, HA.out]
              simp [HS4.out]
            case measure => simp [intOf]; omega
        · have hno : Q = false := by
            rw [HQ2.out]
            have h1 := HA.out
            rwa [List.take_of_length_le (by have := HN.out; omega)] at h1
          subst hno
          go_wp2
          go_ret
          exact ⟨rfl, L1.out.trans HL.out⟩
end
end Go.Proofs.Ytojhehpbmgkbgaa
/- A literal slice of one struct, and append of such a slice to a row, at an operation of a region that draws its order. -/
namespace Go.Proofs.Ytojhehpbmgkbgaa
open Go.RowKit

section
variable {P : Program} {w : World} {op : Oper} {a : Act} {K : Act → World → Prop} {Q : Exit → Act → World → Prop}
theorem wp_buildSlice_one (t e : TypeId) (x : Operand) (ho : op.op = .buildSlice t 1 #[(0, x)]) (i : TypeInfo) (z : Value) (k : Nat) (ht : P.underlying t = some (.slice e)) (hi : P.info? e = some i) (hz : i.zero = some z) (hs : i.size = k) (hk : 0 < k) (hk2 : k ≤ 16777216)
    (cells : Array Value) (hx : a.eval x = .agg cells) (hc : cells.size = k)
    (h : K (a.put op.dst (.slice (some ⟨w.heap.size, 0, none⟩) 1 1)) (w.alloc (.cells cells e (0, 0)))) : op.wp P a w K Q := by
  have hr := run_buildSlice_one (P := P) (w := w) t e i z k ht hi hz hs hk hk2 cells hc
  unfold Oper.wp
  simp [execOp, ho, hx, hr, Result.andThen]
  exact h
/-- A literal slice of one struct is a slice of it, in a new block. -/
theorem flat_one (w : World) (e k : Nat) (cells : Array Value) (hc : cells.size = k) (h1 : ∀ u ∈ cells.toList, u.oneCell' = true) (F : Nat → Prop) (hF : F w.heap.size) :
    FlatAt F (w.alloc (.cells cells e (0, 0))) k (.slice (some ⟨w.heap.size, 0, none⟩) 1 1) 1 cells.toList := by
  have hb : (w.alloc (.cells cells e (0, 0))).heap[w.heap.size]? = some (.cells cells e (0, 0)) := heap_alloc_new _ _
  refine ⟨by simp [hc], h1, some ⟨w.heap.size, 0, none⟩, 1, rfl, Nat.le_refl _, by unfold maxLen; omega, (fun h => by cases h), fun _ => ⟨w.heap.size, 0, rfl, hF, lt_of_block hb, fun j u hj => ?_⟩⟩
  rw [cell_of_row _ _ _ _ _ _ hb, Nat.zero_add]
  simpa using hj
theorem wp_append_flat (s x : Operand) (t : TypeId)
    (ho : op.op = .call { callee := .builtin .append, args := #[s, x], argTypes := #[t, t] })
    (base : Nat) (e : TypeId) (i : TypeInfo) (z : Value) (k bytes : Nat) (ht : P.underlying t = some (.slice e)) (hi : P.info? e = some i) (hz : i.zero = some z)
    (hsize : i.size = k) (hby : i.bytes = bytes) (hzs : z.cells.size = k) (hk : 0 < k)
    (v : Value) (n : Nat) (xs : List Value) (hs : a.eval s = v) (hown : w.ownsRow base e k v n xs)
    (g c m : Nat) (ys : List Value) (hx : a.eval x = .slice (some ⟨g, 0, none⟩) m c) (F : Nat → Prop) (hl : FlatAt F w k (.slice (some ⟨g, 0, none⟩) m c) m ys) (hm : 0 < m) (hroom : n + m ≤ maxLen) (hbytes : (n + m) * bytes ≤ 140737488355328) (hbase : base ≤ w.heap.size)
    (h : ∀ v' w', w'.ownsRow base e k v' (n + m) (xs ++ ys) → w.grownBy w' v.ownBlock → (v'.ownBlock = v.ownBlock ∨ v'.ownBlock = some w.heap.size) → K (a.put op.dst v') w') : op.wp P a w K Q := by
  obtain ⟨hlen, h1, A', c', hv, h3, h4, h5, h6⟩ := hl
  obtain ⟨rfl, rfl⟩ : some ⟨g, 0, none⟩ = A' ∧ c = c' := by injection hv with e1 _ e3; exact ⟨e1, e3⟩
  obtain ⟨v', w', hr, h2, h3, _, h5⟩ := run_append_own_at (P := P) w base t op.type e i z k bytes ht hi hz hsize hby hzs hk v n xs hown ⟨g, 0, none⟩ m c ys hlen
      (fun j u hu => by
        obtain ⟨b, off, h, _, _, hr⟩ := h6 hm
        injection h with h
        injection h with e1 e2
        subst e1 e2
        rw [Addr.add_lit]
        exact hr j u hu) h1 hroom hbytes hbase
  unfold Oper.wp execOp
  simp only [ho, resolve, invoke, builtin, Sem.run_bind, Sem.run_pure, Result.andThen_ok, List.map_toArray, List.map_cons, List.map_nil, hs, hx, hr]
  exact h v' w' h2 h3 h5
end
end Go.Proofs.Ytojhehpbmgkbgaa
/- The document's examples. -/
namespace Go.Proofs.Ytojhehpbmgkbgaa
open Go.RowKit

def step1 : StepD := ⟨⟨#[98]⟩, 1, 2, 5, true, false⟩
theorem one_tries : triesN [step1] 1 = 3 := by decide +kernel
theorem one_longest : sumF ticksF ⟨#[97]⟩ [step1] = 30 := by decide +kernel
theorem one_commands : sumF triesF ⟨#[97]⟩ [step1] = 6 := by decide +kernel
section
variable {w : World}
set_option maxRecDepth 100000 in
set_option maxHeartbeats 4000000 in
theorem lives_any : Calls Try.prog 7 #[] w fun e w' => e = .returned (.bool true) ∧ Later w w' := by
  obtain ⟨i0, hi, hz0, hz1, _⟩ := info_parts (show (Try.prog.info? 34).map (fun i => (i.zero, i.size, i.bytes)) = some (some (.agg #[.string ⟨#[]⟩, .int .i64 0, .int .i64 0, .int .i64 0, .bool false, .bool false]), 6, 48) from by kernel_rfl)
  obtain ⟨W1, hW1⟩ : ∃ W1, W1 = w.alloc (.cells #[.string ⟨#[98]⟩, .int .i64 1, .int .i64 2, .int .i64 5, .bool true, .bool false] 34 (0, 0)) := ⟨_, rfl⟩
  have L1 : Later w W1 := by rw [hW1]; exact (Below.refl _ _).alloc (Nat.le_refl _) _
  have F1 : StepsAt (fun _ => True) W1 (.slice (some ⟨w.heap.size, 0, none⟩) 1 1) [step1] := by rw [hW1]; exact flat_one w 34 6 step1.cells.toArray (by rfl) (by simpa using step1.one) _ trivial
  obtain ⟨W2, hW2⟩ : ∃ W2, W2 = W1.alloc (.cells #[.string ⟨#[97]⟩, .slice (some ⟨w.heap.size, 0, none⟩) 1 1] 24 (0, 0)) := ⟨_, rfl⟩
  obtain ⟨y, hy⟩ : ∃ y, y = W1.heap.size := ⟨_, rfl⟩
  have B2 : Hid (DefBox y ⟨#[97]⟩ (.slice (some ⟨w.heap.size, 0, none⟩) 1 1) W2) := by rw [hW2, hy]; exact heap_alloc_new W1 _
  have L2 : Hid (Later w W2) := by rw [hW2]; exact L1.alloc (Below.size L1) _
  have F2 : StepsAt (fun _ => True) W2 (.slice (some ⟨w.heap.size, 0, none⟩) 1 1) [step1] := F1.kept (Kept.of_below (by rw [hW2]; exact (Below.refl _ _).alloc (Nat.le_refl _) _) _)
  have H := hide F2
  have C1 : Hid (∀ W, Later W2 W → Calls Try.prog 10 #[.agg #[.string ⟨#[97]⟩, .slice (some ⟨w.heap.size, 0, none⟩) 1 1], .int .i64 1] W fun e w' => e = .returned (.int .i64 3) ∧ Later W w') := fun W hl => one_tries ▸ Tries_any (H.out.kept (Kept.of_below hl _)) (by unfold I64; omega) (by simp [step1, StepD.wf, I64]; decide)
  have C2 : Hid (∀ W, Later W2 W → Calls Try.prog 16 #[.agg #[.string ⟨#[97]⟩, .slice (some ⟨w.heap.size, 0, none⟩) 1 1]] W fun e w' => e = .returned (.int .i64 30) ∧ Later W w') := fun W hl => one_longest ▸ longest_any (H.out.kept (Kept.of_below hl _))
  have C3 : Hid (∀ W, Later W2 W → Calls Try.prog 18 #[.agg #[.string ⟨#[97]⟩, .slice (some ⟨w.heap.size, 0, none⟩) 1 1]] W fun e w' => e = .returned (.int .i64 6) ∧ Later W w') := fun W hl => one_commands ▸ commands_any (H.out.kept (Kept.of_below hl _))
  obtain ⟨z, hz⟩ : ∃ z, w.heap.size = z := ⟨_, rfl⟩
  rw [hz] at B2 C1 C2 C3 hW2
  have HI := hide hi
  have HZ0 := hide hz0
  have HZ1 := hide hz1
  have HW1 := hide hW1.symm
  have HW2 := hide hW2.symm
  have HY := hide hy.symm
  have HZ := hide hz
  have b0 := B2.out.name_
  have b1 := B2.out.steps
  clear hW1 hW2 hy hz F1 F2 H L1 hi hz0 hz1
  go_enter Try.func7, Try.ntmps7
  go_wp2_with (refine wpList_buildSlice_one (by rfl) 22 34 _ (by rfl) i0 _ 6 Try.underlying22 HI.out HZ0.out HZ1.out (by omega) (by omega) #[.string ⟨#[98]⟩, .int .i64 1, .int .i64 2, .int .i64 5, .bool true, .bool false] (by rfl) (by rfl) ?_; rw [HW1.out, HZ.out])
  simp only [HW2.out, HY.out]
  go_wp2_with (fail)
  refine (C1.out _ (Later.refl _)).mono ?_
  rintro e w3 ⟨rfl, hl3⟩
  have L3 := hide hl3
  have B3 := hide (B2.out.below hl3)
  have d0 := B3.out.name_
  have d1 := B3.out.steps
  clear hl3 b0 b1 C1
  go_wp2_with (fail)
  refine (C2.out _ L3.out).mono ?_
  rintro e w4 ⟨rfl, hl4⟩
  have L4 := hide (L3.out.trans hl4)
  have B4 := hide (B3.out.below hl4)
  have c0 := B4.out.name_
  have c1 := B4.out.steps
  clear hl4 d0 d1 C2
  go_wp2_with (fail)
  refine (C3.out _ L4.out).mono ?_
  rintro e w5 ⟨rfl, hl5⟩
  have L5 := hide (L2.out.trans (L4.out.trans hl5))
  clear hl5 c0 c1 C3
  go_wp2
  go_ret
  exact ⟨rfl, L5.out⟩
end
end Go.Proofs.Ytojhehpbmgkbgaa
/- From what a row says of steps and definitions that came in to what the walks are told of them. -/
namespace Go.Proofs.Ytojhehpbmgkbgaa
open Go.RowKit

/-- No string and no slice in the datum is too long. -/
def Sm {H : Type} (t : TypeId) (d : DataW H) : Prop := ∀ n ∈ d.weights Try.prog t, n ≤ reachBytes
theorem weights_mem_all {H : Type} {P : Program} {e : TypeId} {d : DataW H} : ∀ {l : List (DataW H)}, d ∈ l → ∀ n ∈ d.weights P e, n ∈ DataW.weightsAll P e l
  | [], h, _, _ => by cases h
  | y :: r, h, n, hn => by
    simp only [DataW.weightsAll, List.mem_append]
    rcases List.mem_cons.1 h with rfl | h
    · exact .inl hn
    · exact .inr (weights_mem_all h n hn)

section
variable {H : Type} {enc : TypeId × Value → H} {W : World}
/-- The reading of an argument. -/
abbrev Rdg (enc : TypeId × Value → H) (W : World) (n : Nat) (t : TypeId) (cs : List Value) (x : DataW H × List MemPlace) : Prop := DataW.trod enc Try.prog W 0 (fun _ => true) true n t cs = some x

/-- A struct's fields. -/
theorem open_fields {t : TypeId} {fs : Array Field} {n : Nat} {cs : List Value} {x : DataW H × List MemPlace} (ht : Try.prog.underlying t = some (.struct fs)) (h : Rdg enc W n t cs x) (hs : Sm t x.1) :
    ∃ m, cs.length = Try.prog.cellsOf t ∧ ∀ (i : Nat) (f : Field), fs[i]? = some f → ∃ y, Rdg enc W m f.type ((cs.drop f.offset).take (Try.prog.cellsOf f.type)) y ∧ Sm f.type y.1 := by
  obtain ⟨xs, m, _, hx, hl, hxl, hf⟩ := DataW.trod_struct ht h
  refine ⟨m, hl, fun i f hi => ?_⟩
  have hil : i < xs.length := by rw [hxl]; exact (Array.getElem?_eq_some_iff.1 hi).1
  refine ⟨xs[i], (hf i f hi).trans (List.getElem?_eq_getElem hil), fun k hk => hs k ?_⟩
  rw [hx]
  simp only [DataW.weights, ht]
  exact DataW.weights_mem_each (j := i) (t := f.type) (d := xs[i].1) (by simp [hi]) (by simp [hil]) k hk
theorem open_int1 {t : TypeId} {n : Nat} {c : Value} {x : DataW H × List MemPlace} (ht : Try.prog.underlying t = some (.int .i64)) (h : Rdg enc W n t [c] x) : ∃ a : Int, c = .int .i64 a ∧ I64 a := by
  obtain ⟨a, h0, _, w0⟩ := DataW.trod_int ht h
  have b0 := bounds_i64 w0
  simp only [List.cons.injEq, and_true] at h0
  exact ⟨a, h0, by unfold I64; omega⟩
theorem open_bool1 {t : TypeId} {n : Nat} {c : Value} {x : DataW H × List MemPlace} (ht : Try.prog.underlying t = some .bool) (h : Rdg enc W n t [c] x) : ∃ a : Bool, c = .bool a := by
  obtain ⟨a, h0, _⟩ := DataW.trod_bool ht h
  simp only [List.cons.injEq, and_true] at h0
  exact ⟨a, h0⟩
theorem open_str1 {t : TypeId} {n : Nat} {c : Value} {x : DataW H × List MemPlace} (ht : Try.prog.underlying t = some .string) (h : Rdg enc W n t [c] x) (hs : Sm t x.1) : ∃ s : ByteArray, c = .string s ∧ s.size ≤ 140737488355328 := by
  obtain ⟨s, h0, h1, _⟩ := DataW.trod_string ht h
  simp only [List.cons.injEq, and_true] at h0
  refine ⟨s, h0, ?_⟩
  have := hs s.data.toList.length (by rw [h1]; simp [DataW.weights])
  unfold reachBytes at this
  rw [Array.length_toList] at this
  show s.data.size ≤ _
  omega

/-- The elements of a slice. -/
theorem open_elems {α : Type} [Inhabited α] (cells : α → List Value) (good : α → Prop) {t e : TypeId} (k : Nat) (hk : 0 < k) (hck : ∀ y, (cells y).length = k) (ht : Try.prog.underlying t = some (.slice e)) (hc : Try.prog.cellsOf e = k)
    (hel : ∀ (n : Nat) (cs : List Value) (x : DataW H × List MemPlace), Rdg enc W n e cs x → Sm e x.1 → ∃ y : α, cs = cells y ∧ good y) (hone : ∀ y, good y → ∀ u ∈ cells y, u.oneCell' = true)
    {n : Nat} {v : Value} {x : DataW H × List MemPlace} (h : Rdg enc W n t [v] x) (hs : Sm t x.1) :
    ∃ ys : List α, FlatAt (· < W.heap.size) W k v ys.length (ys.flatMap cells) ∧ ∀ y ∈ ys, good y := by
  rcases Go.Deep.open_slice ht h with ⟨hcs, _⟩ | ⟨a, l, c, m, n', D, Pl, hcs, _, hl, hm, hmm, hx, hi⟩
  · obtain rfl : v = .slice none 0 0 := by simpa using hcs
    exact ⟨[], FlatAt.nil_ _ _ _, by simp⟩
  · obtain rfl : v = .slice (some a) l c := by simpa using hcs
    simp only [if_true] at hmm
    rw [hc] at hi
    obtain ⟨F, hF⟩ := Go.Deep.choose_lt (p := fun i (y : α) => (∀ j u, (cells y)[j]? = some u → W.cell? (a.add (i * k + j)) = some u) ∧ good y) fun i (hil : i < l) => by
      obtain ⟨cs', h1, h2⟩ := hi i (by omega)
      have hsm : Sm e (D i) := fun q hq => hs q (by
        rw [hx]
        simp only [DataW.weights, ht]
        exact List.mem_cons_of_mem _ (List.mem_append_left _ (weights_mem_all (List.mem_map.2 ⟨i, List.mem_range.2 hil, rfl⟩) q hq)))
      obtain ⟨y, hy, hg⟩ := hel n' cs' (D i, Pl i) h2 hsm
      obtain ⟨_, hlen, hat⟩ := World.cells?_some h1
      refine ⟨y, fun j u hu => ?_, hg⟩
      have hj : j < k := by rw [← hck y]; exact (List.getElem?_eq_some_iff.1 hu).1
      rw [← Go.Deep.add_add, hat j hj, hy, hu]
    refine ⟨(List.range l).map F, ⟨?_, ?_, some a, c, by simp, by simpa using hl, hm, (fun e => by cases e), fun hn => ?_⟩, fun y hy => ?_⟩
    · exact flat_len cells k _ (fun y _ => hck y)
    · intro u hu
      obtain ⟨y, hy, hu⟩ := List.mem_flatMap.1 hu
      obtain ⟨i, hi, rfl⟩ := List.mem_map.1 hy
      exact hone _ (hF i (List.mem_range.1 hi)).2 u hu
    · have hn' : 0 < l := by simpa using hn
      obtain ⟨b, off, spot⟩ := a
      have hk0 : (cells (F 0))[0]? = some ((cells (F 0))[0]'(by rw [hck]; exact hk)) := List.getElem?_eq_getElem (by rw [hck]; exact hk)
      have h0 := (hF 0 hn').1 0 _ hk0
      have hspot : spot = none := by simpa [Addr.add] using World.cell?_spot h0
      subst hspot
      have hblt : b < W.heap.size := World.block_lt_of_cell? W _ (by simpa [Addr.add] using h0)
      refine ⟨b, off, rfl, hblt, hblt, fun j u hj => ?_⟩
      have hjl : j < l * k := by
        have := (List.getElem?_eq_some_iff.1 hj).1
        rw [flat_len cells k _ (fun y _ => hck y)] at this
        simpa using this
      have hq : j / k < l := Nat.div_lt_of_lt_mul (by rwa [Nat.mul_comm])
      have hr : j % k < k := Nat.mod_lt _ hk
      have hj2 : j = j / k * k + j % k := by rw [Nat.mul_comm]; exact (Nat.div_add_mod j k).symm
      have hge := flat_get cells k ((List.range l).map F) (j / k) (F (j / k)) (fun y _ => hck y) (by simp [hq])
      have hu : (cells (F (j / k)))[j % k]? = some u := by
        rw [← hge, List.getElem?_take_of_lt hr, List.getElem?_drop, ← hj2, hj]
      have := (hF (j / k) hq).1 (j % k) u hu
      rwa [Addr.add_lit, ← hj2] at this
    · obtain ⟨i, hi, rfl⟩ := List.mem_map.1 hy
      exact (hF i (List.mem_range.1 hi)).2
end

instance : Inhabited StepD := ⟨⟨⟨#[]⟩, 0, 0, 0, false, false⟩⟩
instance : Inhabited (OpD × Value) := ⟨⟨.zero, .slice none 0 0⟩⟩
section
variable {H : Type} {enc : TypeId × Value → H} {W : World}
set_option maxRecDepth 100000

theorem open_step {n : Nat} {cs : List Value} {x : DataW H × List MemPlace} (h : Rdg enc W n 34 cs x) (hs : Sm 34 x.1) :
    ∃ s : StepD, cs = s.cells ∧ s.wf := by
  obtain ⟨m, hl, hf⟩ := open_fields Try.underlying34 h hs
  have hl : cs.length = 6 := hl
  match cs, hl with
  | [c0, c1, c2, c3, c4, c5], _ =>
    obtain ⟨y0, g0, s0⟩ := hf 0 _ rfl
    have g0 : Rdg enc W m 9 [c0] y0 := (congrArg (fun q => DataW.trod enc Try.prog W 0 (fun _ => true) true m 9 q) (show ([c0, c1, c2, c3, c4, c5].drop 0).take (Try.prog.cellsOf 9) = [c0] from by rw [show Try.prog.cellsOf 9 = 1 from by kernel_rfl]; rfl)).symm.trans g0
    obtain ⟨a0, e0, w0⟩ := open_str1 Try.underlying9 g0 s0
    obtain ⟨y1, g1, s1⟩ := hf 1 _ rfl
    have g1 : Rdg enc W m 3 [c1] y1 := (congrArg (fun q => DataW.trod enc Try.prog W 0 (fun _ => true) true m 3 q) (show ([c0, c1, c2, c3, c4, c5].drop 1).take (Try.prog.cellsOf 3) = [c1] from by rw [show Try.prog.cellsOf 3 = 1 from by kernel_rfl]; rfl)).symm.trans g1
    obtain ⟨a1, e1, w1⟩ := open_int1 Try.underlying3 g1
    obtain ⟨y2, g2, s2⟩ := hf 2 _ rfl
    have g2 : Rdg enc W m 3 [c2] y2 := (congrArg (fun q => DataW.trod enc Try.prog W 0 (fun _ => true) true m 3 q) (show ([c0, c1, c2, c3, c4, c5].drop 2).take (Try.prog.cellsOf 3) = [c2] from by rw [show Try.prog.cellsOf 3 = 1 from by kernel_rfl]; rfl)).symm.trans g2
    obtain ⟨a2, e2, w2⟩ := open_int1 Try.underlying3 g2
    obtain ⟨y3, g3, s3⟩ := hf 3 _ rfl
    have g3 : Rdg enc W m 3 [c3] y3 := (congrArg (fun q => DataW.trod enc Try.prog W 0 (fun _ => true) true m 3 q) (show ([c0, c1, c2, c3, c4, c5].drop 3).take (Try.prog.cellsOf 3) = [c3] from by rw [show Try.prog.cellsOf 3 = 1 from by kernel_rfl]; rfl)).symm.trans g3
    obtain ⟨a3, e3, w3⟩ := open_int1 Try.underlying3 g3
    obtain ⟨y4, g4, s4⟩ := hf 4 _ rfl
    have g4 : Rdg enc W m 4 [c4] y4 := (congrArg (fun q => DataW.trod enc Try.prog W 0 (fun _ => true) true m 4 q) (show ([c0, c1, c2, c3, c4, c5].drop 4).take (Try.prog.cellsOf 4) = [c4] from by rw [show Try.prog.cellsOf 4 = 1 from by kernel_rfl]; rfl)).symm.trans g4
    obtain ⟨a4, e4⟩ := open_bool1 Try.underlying4 g4
    obtain ⟨y5, g5, s5⟩ := hf 5 _ rfl
    have g5 : Rdg enc W m 4 [c5] y5 := (congrArg (fun q => DataW.trod enc Try.prog W 0 (fun _ => true) true m 4 q) (show ([c0, c1, c2, c3, c4, c5].drop 5).take (Try.prog.cellsOf 4) = [c5] from by rw [show Try.prog.cellsOf 4 = 1 from by kernel_rfl]; rfl)).symm.trans g5
    obtain ⟨a5, e5⟩ := open_bool1 Try.underlying4 g5
    subst e0 e1 e2 e3 e4 e5
    exact ⟨⟨a0, a1, a2, a3, a4, a5⟩, rfl, w0, w1, w2, w3⟩

theorem open_steps {n : Nat} {v : Value} {x : DataW H × List MemPlace} (h : Rdg enc W n 22 [v] x) (hs : Sm 22 x.1) : ∃ l, StepsAt (· < W.heap.size) W v l ∧ ∀ s ∈ l, s.wf := by
  obtain ⟨ys, h1, h2⟩ := open_elems StepD.cells StepD.wf 6 (by decide) StepD.len Try.underlying22 (by kernel_rfl) (fun n cs x h hs => open_step h hs) (fun y _ => y.one) h hs
  exact ⟨ys, h1, h2⟩

theorem open_def {n : Nat} {cs : List Value} {x : DataW H × List MemPlace} (h : Rdg enc W n 24 cs x) (hs : Sm 24 x.1) :
    ∃ (nm : ByteArray) (v : Value) (l : List StepD), cs = [.string nm, v] ∧ nm.size ≤ 140737488355328 ∧ StepsAt (· < W.heap.size) W v l ∧ ∀ s ∈ l, s.wf := by
  obtain ⟨m, hl, hf⟩ := open_fields Try.underlying24 h hs
  have hl : cs.length = 2 := hl
  match cs, hl with
  | [c0, c1], _ =>
    obtain ⟨y0, g0, s0⟩ := hf 0 _ rfl
    have g0 : Rdg enc W m 9 [c0] y0 := (congrArg (fun q => DataW.trod enc Try.prog W 0 (fun _ => true) true m 9 q) (show ([c0, c1].drop 0).take (Try.prog.cellsOf 9) = [c0] from by rw [show Try.prog.cellsOf 9 = 1 from by kernel_rfl]; rfl)).symm.trans g0
    obtain ⟨a0, e0, w0⟩ := open_str1 Try.underlying9 g0 s0
    obtain ⟨y1, g1, s1⟩ := hf 1 _ rfl
    have g1 : Rdg enc W m 22 [c1] y1 := (congrArg (fun q => DataW.trod enc Try.prog W 0 (fun _ => true) true m 22 q) (show ([c0, c1].drop 1).take (Try.prog.cellsOf 22) = [c1] from by rw [show Try.prog.cellsOf 22 = 1 from by kernel_rfl]; rfl)).symm.trans g1
    obtain ⟨l, hl1, hl2⟩ := open_steps g1 s1
    subst e0
    exact ⟨a0, _, l, rfl, w0, hl1, hl2⟩
/-- Arguments: a struct by value, a slice. -/
theorem sm_of {ts : List TypeId} {ds : List (DataW H)} (hsz : (DataW.weightsEach Try.prog ts ds).all (· ≤ reachBytes) = true) {j : Nat} {t : TypeId} {d : DataW H} (ht : ts[j]? = some t) (hd : ds[j]? = some d) : Sm t d := fun n hn => by
  have := List.all_eq_true.1 hsz n (DataW.weights_mem_each ht hd n hn)
  simpa using this
theorem arg_def {cs : Array Value} {d : DataW H} {p : List MemPlace} (h : DataW.Trod enc Try.prog W 0 (fun _ => true) true 24 (.agg cs) d p) (hs : Sm 24 d) :
    ∃ (nm : ByteArray) (v : Value) (l : List StepD), cs = #[.string nm, v] ∧ StepsAt (· < W.heap.size) W v l ∧ nm.size ≤ 140737488355328 ∧ ∀ s ∈ l, s.wf := by
  obtain ⟨fuel, hf⟩ := h
  obtain ⟨nm, v, l, e, h1, h2, h3⟩ := open_def (n := fuel) (x := (d, p)) hf hs
  refine ⟨nm, v, l, ?_, h2, h1, h3⟩
  have e2 : cs.toList = [.string nm, v] := e
  exact Array.toList_inj.1 (by rw [e2])
theorem arg_step {cs : Array Value} {d : DataW H} {p : List MemPlace} (h : DataW.Trod enc Try.prog W 0 (fun _ => true) true 34 (.agg cs) d p) (hs : Sm 34 d) : ∃ s : StepD, cs = s.cells.toArray ∧ s.wf := by
  obtain ⟨fuel, hf⟩ := h
  obtain ⟨s, e, wf⟩ := open_step (n := fuel) (x := (d, p)) hf hs
  refine ⟨s, ?_, wf⟩
  have e2 : cs.toList = s.cells := e
  rw [← e2]
end
end Go.Proofs.Ytojhehpbmgkbgaa
/- From what a row says of bools that came in to what the walks are told of them. -/
namespace Go.Proofs.Ytojhehpbmgkbgaa
open Go.RowKit
section
variable {H : Type} {enc : TypeId × Value → H} {W : World}
set_option maxRecDepth 100000
theorem open_bools {n : Nat} {v : Value} {x : DataW H × List MemPlace} (h : Rdg enc W n 25 [v] x) (hs : Sm 25 x.1) : ∃ l, BoolsAt (· < W.heap.size) W v l := by
  obtain ⟨ys, h1, _⟩ := open_elems (fun b : Bool => [Value.bool b]) (fun _ => True) 1 (by decide) (fun _ => rfl) Try.underlying25 (by kernel_rfl) (fun n cs x h _ => by
    obtain ⟨b, h0, _⟩ := DataW.trod_bool Try.underlying4 h
    exact ⟨b, h0, trivial⟩) (fun y _ u hu => by simp at hu; subst hu; rfl) h hs
  refine ⟨ys, ?_⟩
  unfold BoolsAt
  have e : ∀ zs : List Bool, (zs.flatMap fun b => [Value.bool b]) = zs.map fun b => .bool b := fun zs => by
    induction zs with
    | nil => rfl
    | cons z r ih => rw [List.flatMap_cons, ih]; rfl
  rw [← e]
  exact h1
theorem arg_bools {A : Option Addr} {len cap : Nat} {d : DataW H} {p : List MemPlace} (h : DataW.Trod enc Try.prog W 0 (fun _ => true) true 25 (.slice A len cap) d p) (hs : Sm 25 d) : ∃ l, BoolsAt (· < W.heap.size) W (.slice A len cap) l ∧ True := by
  obtain ⟨fuel, hf⟩ := h
  obtain ⟨l, hl⟩ := open_bools (n := fuel) (x := (d, p)) hf hs
  exact ⟨l, hl, trivial⟩
end
end Go.Proofs.Ytojhehpbmgkbgaa
