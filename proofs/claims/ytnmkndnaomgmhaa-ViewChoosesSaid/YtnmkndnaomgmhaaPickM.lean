/- Whose log goes on: what is compared, as functions; cmp.Compare and cmp.Or at ints. -/
import Derived.Test.YtnmkndnaomgmhaaLead
import Derived.Test.YtnmkndnaomgmhaaMsgV
import Derived.Test.YtnmkndnaomgmhaaInts
import Derived.Test.YtnmkndnaomgmhaaBox
namespace Go.Proofs.Ytnmkndnaomgmhaa
open Go.RowKit

def cmpI (x y : Int) : Int := if x < y then -1 else if y < x then 1 else 0
def orI (a b : Int) : Int := if a = 0 then b else a
/-- Is the log of l and n better than that of l2 and n2? -/
def betterB (l : Int) (n : Nat) (l2 : Int) (n2 : Nat) : Bool := decide (l2 < l) || (decide (l = l2) && decide (n2 < n))
theorem better_cmp (l : Int) (n : Nat) (l2 : Int) (n2 : Nat) : decide (0 < orI (cmpI l l2) (cmpI (n : Int) (n2 : Int))) = betterB l n l2 n2 := by
  unfold betterB orI cmpI
  by_cases h1 : l < l2
  · have h2 : ¬ l2 < l := by omega
    have h3 : ¬ l = l2 := by omega
    simp [h1, h2, h3]
  · by_cases h2 : l2 < l
    · simp [h1, h2]
    · have h3 : l = l2 := by omega
      subst h3
      simp only [Int.lt_irrefl, if_false, decide_false, Bool.false_or, decide_true, Bool.true_and, if_true]
      by_cases h4 : n < n2
      · have h5 : (n : Int) < n2 := by omega
        have h6 : ¬ n2 < n := by omega
        simp [h5, h6]
      · by_cases h6 : n2 < n
        · have h5 : ¬ (n : Int) < n2 := by omega
          have h7 : (n2 : Int) < n := by omega
          simp [h5, h7, h6]
        · have h5 : ¬ (n : Int) < n2 := by omega
          have h7 : ¬ (n2 : Int) < n := by omega
          simp [h5, h7, h6]
/-- The place of the best of the first k, if any is of the kind. -/
def pickUp (ps : List MsgV) : Nat → Option Nat
  | 0 => none
  | k + 1 => match ps[k]? with
    | none => pickUp ps k
    | some p => if p.m.kind = 7 then match pickUp ps k with
        | none => some k
        | some b => match ps[b]? with
          | none => some b
          | some q => if betterB p.m.last p.m.ops.length q.m.last q.m.ops.length then some k else some b
      else pickUp ps k
theorem pick_lt {ps : List MsgV} : ∀ {k b : Nat}, pickUp ps k = some b → b < k
  | 0, b, h => by cases h
  | k + 1, b, h => by
    have ih := @pick_lt ps k
    unfold pickUp at h
    split at h
    · have := ih h; omega
    · split at h
      · split at h
        · have := Option.some.inj h; omega
        · next b' hb' =>
          have h3 := ih hb'
          split at h
          · have := Option.some.inj h; omega
          · split at h <;> (have := Option.some.inj h; omega)
      · have := ih h; omega
theorem pick_other {ps : List MsgV} {k : Nat} {p : MsgV} (h : ps[k]? = some p) (hk : ¬ p.m.kind = 7) : pickUp ps (k + 1) = pickUp ps k := by
  simp [pickUp, h, hk]
theorem pick_first {ps : List MsgV} {k : Nat} {p : MsgV} (h : ps[k]? = some p) (hk : p.m.kind = 7) (hn : pickUp ps k = none) : pickUp ps (k + 1) = some k := by
  simp [pickUp, h, hk, hn]
theorem pick_next {ps : List MsgV} {k b : Nat} {p q : MsgV} (h : ps[k]? = some p) (hk : p.m.kind = 7) (hn : pickUp ps k = some b) (hq : ps[b]? = some q) :
    pickUp ps (k + 1) = if betterB p.m.last p.m.ops.length q.m.last q.m.ops.length then some k else some b := by
  simp [pickUp, h, hk, hn, hq]

theorem isnan_any (x : Int) : Tells 45 #[.int .i64 x] (.bool false) := by
  intro w
  have e : (x != x) = false := by simp
  go_enter Try.func45, Try.ntmps45
  go_wp2
  go_ret
  exact ⟨rfl, rfl⟩
theorem compare_any (x y : Int) : Tells 42 #[.int .i64 x, .int .i64 y] (.int .i64 (cmpI x y)) := by
  intro w
  have C := hide isnan_any
  by_cases h1 : x < y
  · have H : Hid (cmpI x y = -1) := by show cmpI x y = _; simp [cmpI, h1]
    have d1 : decide (x < y) = true := by simpa using h1
    clear h1
    go_enter Try.func42, Try.ntmps42
    go_wp2_with (go_at_call 45; refine (C.out _ _).mono ?_; rintro e w1 ⟨rfl, rfl⟩)
    go_ret
    exact ⟨ret_int H.out.symm, rfl⟩
  · have d1 : decide (x < y) = false := by simpa using h1
    by_cases h2 : y < x
    · have H : Hid (cmpI x y = 1) := by show cmpI x y = _; simp [cmpI, h1, h2]
      have d2 : decide (y < x) = true := by simpa using h2
      clear h1 h2
      go_enter Try.func42, Try.ntmps42
      go_wp2_with (go_at_call 45; refine (C.out _ _).mono ?_; rintro e w1 ⟨rfl, rfl⟩)
      go_ret
      exact ⟨ret_int H.out.symm, rfl⟩
    · have H : Hid (cmpI x y = 0) := by show cmpI x y = _; simp [cmpI, h1, h2]
      have d2 : decide (y < x) = false := by simpa using h2
      clear h1 h2
      go_enter Try.func42, Try.ntmps42
      go_wp2_with (go_at_call 45; refine (C.out _ _).mono ?_; rintro e w1 ⟨rfl, rfl⟩)
      go_ret
      exact ⟨ret_int H.out.symm, rfl⟩
set_option maxHeartbeats 1000000 in
theorem or_any {w : World} {g : Nat} {a b : Int} (h : w.heap[g]? = some (.cells #[.int .i64 a, .int .i64 b] 3 (0, 0))) : Calls Try.prog 41 #[.slice (some ⟨g, 0, none⟩) 2 2] w fun e w' => e = .returned (.int .i64 (orI a b)) ∧ w = w' := by
  have c0 := cell_of_row w g 0 _ _ _ h
  have c1 := cell_of_row w g 1 _ _ _ h
  clear h
  go_enter Try.func41, Try.ntmps41
  go_wp2
  go_loopw [8] (fun j wr => ∃ k : Nat, k ≤ 2 ∧ j = .int .i64 (k : Int) ∧ (1 ≤ k → a = 0) ∧ (2 ≤ k → b = 0) ∧ w = wr) (fun j _ => 2 - (Go.RowKit.intOf j).toNat)
  case atStart => exact ⟨0, by omega, rfl, by omega, by omega, by first | rfl | trivial⟩
  case round =>
    obtain ⟨k, hk, rfl, h1, h2, rfl⟩ := hrel
    have hk3 : k = 0 ∨ k = 1 ∨ k = 2 := by omega
    clear hk
    rcases hk3 with rfl | rfl | rfl
    · clear h1 h2
      by_cases ha : a = 0
      · have t : (a != 0) = false := by simp [ha]
        have HA := hide ha
        clear ha
        go_wp2
        go_roundw
        case rel => exact ⟨1, by omega, by go_num, fun _ => HA.out, by omega, by first | rfl | trivial⟩
        case measure => simp [Go.RowKit.intOf]
      · have t : (a != 0) = true := by simpa using ha
        have H : Hid (orI a b = a) := by show orI a b = _; simp [orI, ha]
        clear ha
        go_wp2
        go_ret
        exact ⟨ret_int H.out.symm, rfl⟩
    · have ha := hide (h1 (by omega))
      clear h1 h2
      by_cases hb : b = 0
      · have t : (b != 0) = false := by simp [hb]
        have HB := hide hb
        clear hb
        go_wp2
        go_roundw
        case rel => exact ⟨2, by omega, by go_num, fun _ => ha.out, fun _ => HB.out, by first | rfl | trivial⟩
        case measure => simp [Go.RowKit.intOf]
      · have t : (b != 0) = true := by simpa using hb
        have H : Hid (orI a b = b) := by show orI a b = _; simp [orI, ha.out]
        clear hb
        go_wp2
        go_ret
        exact ⟨ret_int H.out.symm, rfl⟩
    · have H : Hid (orI a b = 0) := by show orI a b = _; simp [orI, h1 (by omega), h2 (by omega)]
      clear h1 h2
      go_wp2
      go_ret
      exact ⟨ret_int H.out.symm, rfl⟩
end Go.Proofs.Ytnmkndnaomgmhaa
