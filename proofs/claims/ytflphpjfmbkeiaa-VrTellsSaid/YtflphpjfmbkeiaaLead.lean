/- Who leads, and how many are enough: nodes, isNode, Leader, Quorum, Faults, the code's and the document's. -/
import Derived.Test.YtflphpjfmbkeiaaMem
import Derived.Test.YtflphpjfmbkeiaaRows
import Derived.RegionTactic
import Derived.BigRegion
namespace Go.Proofs.Ytflphpjfmbkeiaa
open Go.RowKit

def okN (n : Int) : Bool := decide (2 ≤ n) && decide (n ≤ 5)
def okNode (x n : Int) : Bool := okN n && (decide (1 ≤ x) && decide (x ≤ n))
def leadI (v n : Int) : Int := if decide (0 ≤ v) && okN n then 1 + v % n else 0
def quorI (n : Int) : Int := if okN n then n / 2 + 1 else 0
def faulI (n : Int) : Int := if okN n then (n - 1) / 2 else 0
theorem okN_mk {n : Int} (h : okN n = true) : n = 2 ∨ n = 3 ∨ n = 4 ∨ n = 5 := by
  simp [okN] at h
  omega
theorem okN_iff {n : Int} : okN n = true ↔ 2 ≤ n ∧ n ≤ 5 := by simp [okN]
theorem okNode_iff {x n : Int} : okNode x n = true ↔ (2 ≤ n ∧ n ≤ 5) ∧ 1 ≤ x ∧ x ≤ n := by simp [okNode, okN]

/-- A call that says v, and does nothing else. -/
def Tells (f : Nat) (args : Array Value) (v : Value) : Prop := ∀ w : World, Calls Try.prog f args w fun e w' => e = .returned v ∧ w = w'

theorem nodes_any (n : Int) : Tells 41 #[.int .i64 n] (.bool (okN n)) := by
  intro w
  by_cases h1 : 2 ≤ n
  · by_cases h2 : n ≤ 5
    · have H : Hid (okN n = true) := okN_iff.2 ⟨h1, h2⟩
      go_enter Try.func41, Try.ntmps41
      go_wp2
      go_ret
      exact ⟨ret_bool H.out.symm, rfl⟩
    · have H : Hid (okN n = false) := by show okN n = false; simp [okN]; omega
      have hd : decide (n ≤ 5) = false := by simpa using h2
      go_enter Try.func41, Try.ntmps41
      go_wp2
      go_ret
      exact ⟨ret_bool H.out.symm, rfl⟩
  · have H : Hid (okN n = false) := by show okN n = false; simp [okN]; omega
    have hd : decide (2 ≤ n) = false := by simpa using h1
    go_enter Try.func41, Try.ntmps41
    go_wp2
    go_ret
    exact ⟨ret_bool H.out.symm, rfl⟩
theorem is_any (n : Int) : Tells 33 #[.int .i64 n] (.bool (okN n)) := by
  intro w
  by_cases h1 : 2 ≤ n
  · by_cases h2 : n ≤ 5
    · have H : Hid (okN n = true) := okN_iff.2 ⟨h1, h2⟩
      go_enter Try.func33, Try.ntmps33
      go_wp2
      go_ret
      exact ⟨ret_bool H.out.symm, rfl⟩
    · have H : Hid (okN n = false) := by show okN n = false; simp [okN]; omega
      have hd : decide (n ≤ 5) = false := by simpa using h2
      go_enter Try.func33, Try.ntmps33
      go_wp2
      go_ret
      exact ⟨ret_bool H.out.symm, rfl⟩
  · have H : Hid (okN n = false) := by show okN n = false; simp [okN]; omega
    have hd : decide (2 ≤ n) = false := by simpa using h1
    go_enter Try.func33, Try.ntmps33
    go_wp2
    go_ret
    exact ⟨ret_bool H.out.symm, rfl⟩
-- MADE by gen/lead8.py from here on
theorem leader_any (v n : Int) : Tells 36 #[.int .i64 v, .int .i64 n] (.int .i64 (leadI v n)) := by
  intro w
  have C := hide (nodes_any n)
  by_cases h1 : 0 ≤ v
  · by_cases h0 : okN n = true
    · rw [h0] at C
      have H : Hid (leadI v n = 1 + v % n) := by show leadI v n = _; simp [leadI, h0, h1]
      obtain ⟨V, rfl⟩ := Int.eq_ofNat_of_zero_le h1
      rcases okN_mk h0 with rfl | rfl | rfl | rfl
      all_goals
        clear h0 h1
        go_enter Try.func36, Try.ntmps36
        go_wp2_with (go_at_call 41; refine (C.out _).mono ?_; rintro e w1 ⟨rfl, rfl⟩)
        go_ret
        exact ⟨ret_int H.out.symm, rfl⟩
    · have h0 : okN n = false := by simpa using h0
      have H : Hid (leadI v n = 0) := by show leadI v n = _; simp [leadI, h0]
      rw [h0] at C
      clear h0
      go_enter Try.func36, Try.ntmps36
      go_wp2_with (go_at_call 41; refine (C.out _).mono ?_; rintro e w1 ⟨rfl, rfl⟩)
      go_ret
      exact ⟨ret_int H.out.symm, rfl⟩
  · have H : Hid (leadI v n = 0) := by show leadI v n = _; simp [leadI, h1]
    have hd : decide (v < 0) = true := by simp; omega
    go_enter Try.func36, Try.ntmps36
    go_wp2_with (go_at_call 41; refine (C.out _).mono ?_; rintro e w1 ⟨rfl, rfl⟩)
    go_ret
    exact ⟨ret_int H.out.symm, rfl⟩
theorem quorum_any (n : Int) : Tells 29 #[.int .i64 n] (.int .i64 (quorI n)) := by
  intro w
  have C := hide (nodes_any n)
  by_cases h0 : okN n = true
  · rw [h0] at C
    rcases okN_mk h0 with rfl | rfl | rfl | rfl
    all_goals
      clear h0
      go_enter Try.func29, Try.ntmps29
      go_wp2_with (go_at_call 41; refine (C.out _).mono ?_; rintro e w1 ⟨rfl, rfl⟩)
      go_ret
      exact ⟨rfl, rfl⟩
  · have h0 : okN n = false := by simpa using h0
    have H : Hid (quorI n = 0) := by show quorI n = _; simp [quorI, h0]
    rw [h0] at C
    clear h0
    go_enter Try.func29, Try.ntmps29
    go_wp2_with (go_at_call 41; refine (C.out _).mono ?_; rintro e w1 ⟨rfl, rfl⟩)
    go_ret
    exact ⟨ret_int H.out.symm, rfl⟩
theorem faults_any (n : Int) : Tells 35 #[.int .i64 n] (.int .i64 (faulI n)) := by
  intro w
  have C := hide (nodes_any n)
  by_cases h0 : okN n = true
  · rw [h0] at C
    rcases okN_mk h0 with rfl | rfl | rfl | rfl
    all_goals
      clear h0
      go_enter Try.func35, Try.ntmps35
      go_wp2_with (go_at_call 41; refine (C.out _).mono ?_; rintro e w1 ⟨rfl, rfl⟩)
      go_ret
      exact ⟨rfl, rfl⟩
  · have h0 : okN n = false := by simpa using h0
    have H : Hid (faulI n = 0) := by show faulI n = _; simp [faulI, h0]
    rw [h0] at C
    clear h0
    go_enter Try.func35, Try.ntmps35
    go_wp2_with (go_at_call 41; refine (C.out _).mono ?_; rintro e w1 ⟨rfl, rfl⟩)
    go_ret
    exact ⟨ret_int H.out.symm, rfl⟩
theorem refleader_any (v n : Int) : Tells 20 #[.int .i64 v, .int .i64 n] (.int .i64 (leadI v n)) := by
  intro w
  have C := hide (is_any n)
  by_cases h1 : 0 ≤ v
  · by_cases h0 : okN n = true
    · rw [h0] at C
      have H : Hid (leadI v n = 1 + v % n) := by show leadI v n = _; simp [leadI, h0, h1]
      obtain ⟨V, rfl⟩ := Int.eq_ofNat_of_zero_le h1
      rcases okN_mk h0 with rfl | rfl | rfl | rfl
      all_goals
        clear h0 h1
        go_enter Try.func20, Try.ntmps20
        go_wp2_with (go_at_call 33; refine (C.out _).mono ?_; rintro e w1 ⟨rfl, rfl⟩)
        go_ret
        exact ⟨ret_int H.out.symm, rfl⟩
    · have h0 : okN n = false := by simpa using h0
      have H : Hid (leadI v n = 0) := by show leadI v n = _; simp [leadI, h0]
      rw [h0] at C
      clear h0
      go_enter Try.func20, Try.ntmps20
      go_wp2_with (go_at_call 33; refine (C.out _).mono ?_; rintro e w1 ⟨rfl, rfl⟩)
      go_ret
      exact ⟨ret_int H.out.symm, rfl⟩
  · have H : Hid (leadI v n = 0) := by show leadI v n = _; simp [leadI, h1]
    have hd : decide (v < 0) = true := by simp; omega
    go_enter Try.func20, Try.ntmps20
    go_wp2_with (go_at_call 33; refine (C.out _).mono ?_; rintro e w1 ⟨rfl, rfl⟩)
    go_ret
    exact ⟨ret_int H.out.symm, rfl⟩
theorem refquorum_any (n : Int) : Tells 19 #[.int .i64 n] (.int .i64 (quorI n)) := by
  intro w
  have C := hide (is_any n)
  by_cases h0 : okN n = true
  · rw [h0] at C
    rcases okN_mk h0 with rfl | rfl | rfl | rfl
    all_goals
      clear h0
      go_enter Try.func19, Try.ntmps19
      go_wp2_with (go_at_call 33; refine (C.out _).mono ?_; rintro e w1 ⟨rfl, rfl⟩)
      go_ret
      exact ⟨rfl, rfl⟩
  · have h0 : okN n = false := by simpa using h0
    have H : Hid (quorI n = 0) := by show quorI n = _; simp [quorI, h0]
    rw [h0] at C
    clear h0
    go_enter Try.func19, Try.ntmps19
    go_wp2_with (go_at_call 33; refine (C.out _).mono ?_; rintro e w1 ⟨rfl, rfl⟩)
    go_ret
    exact ⟨ret_int H.out.symm, rfl⟩
theorem reffaults_any (n : Int) : Tells 22 #[.int .i64 n] (.int .i64 (faulI n)) := by
  intro w
  have C := hide (is_any n)
  by_cases h0 : okN n = true
  · rw [h0] at C
    rcases okN_mk h0 with rfl | rfl | rfl | rfl
    all_goals
      clear h0
      go_enter Try.func22, Try.ntmps22
      go_wp2_with (go_at_call 33; refine (C.out _).mono ?_; rintro e w1 ⟨rfl, rfl⟩)
      go_ret
      exact ⟨rfl, rfl⟩
  · have h0 : okN n = false := by simpa using h0
    have H : Hid (faulI n = 0) := by show faulI n = _; simp [faulI, h0]
    rw [h0] at C
    clear h0
    go_enter Try.func22, Try.ntmps22
    go_wp2_with (go_at_call 33; refine (C.out _).mono ?_; rintro e w1 ⟨rfl, rfl⟩)
    go_ret
    exact ⟨ret_int H.out.symm, rfl⟩
end Go.Proofs.Ytflphpjfmbkeiaa
