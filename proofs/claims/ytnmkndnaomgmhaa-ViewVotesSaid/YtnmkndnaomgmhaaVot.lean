/- Votes in memory: a count of nodes and a word with a bit for each who voted; New, made, bit, Has, Count, Enough, Add, Clear. -/
import Derived.Test.YtnmkndnaomgmhaaNext
import Derived.Test.YtnmkndnaomgmhaaBox
import Derived.Test.YtnmkndnaomgmhaaKeep
import Derived.Laws.BitsAllLaws
import Derived.Laws.BitsLemmas
import Derived.Deep.QuietTactic
import Derived.BigQuiet
namespace Go.Proofs.Ytnmkndnaomgmhaa
open Go.RowKit

/-- What p points to holds votes of n nodes; nil holds none. -/
def VAt (w : World) (p : Value) (n : Int) (V : Nat) : Prop := (p = .pointer none ∧ n = 0 ∧ V = 0) ∨ ∃ g, p = .pointer (some ⟨g, 0, none⟩) ∧ w.heap[g]? = some (.cells #[.int .i64 n, .int .u64 (V : Int)] 60 (0, 0))
def hasB (n : Int) (V : Nat) (x : Int) : Bool := okNode x n && V.testBit (x.toNat - 1)
def cntV (V : Nat) : Nat := ((List.range 5).filter (fun i => V.testBit i)).length
def enB (n : Int) (V : Nat) : Bool := okN n && decide (quorI n ≤ (cntV V : Int))
def addB (n : Int) (V : Nat) (x : Int) : Bool := okNode x n && !hasB n V x
def addV (n : Int) (V : Nat) (x : Int) : Nat := if okNode x n then V ||| 2 ^ (x.toNat - 1) else V
theorem VAt.drewN {w : World} {p : Value} {n : Int} {V : Nat} (h : VAt w p n V) (q : Nat) : VAt (w.drewN q) p n V := h
theorem VAt.kept {w w' : World} {g : Nat} {n : Int} {V : Nat} (h : VAt w (.pointer (some ⟨g, 0, none⟩)) n V) (hk : w'.heap[g]? = w.heap[g]?) : VAt w' (.pointer (some ⟨g, 0, none⟩)) n V := by
  rcases h with ⟨h, _⟩ | ⟨g', hp, h⟩
  · cases h
  · obtain rfl : g = g' := by injection hp with e; injection e with e; injection e
    exact .inr ⟨g, rfl, hk.trans h⟩
theorem VAt.block {w : World} {g : Nat} {n : Int} {V : Nat} (h : VAt w (.pointer (some ⟨g, 0, none⟩)) n V) : w.heap[g]? = some (.cells #[.int .i64 n, .int .u64 (V : Int)] 60 (0, 0)) := by
  rcases h with ⟨h, _⟩ | ⟨g', hp, h⟩
  · cases h
  · obtain rfl : g = g' := by injection hp with e; injection e with e; injection e
    exact h
/-- A call that says v, and does nothing but draw. -/
def Draws (w : World) (f : Nat) (args : Array Value) (v : Value) : Prop := Calls Try.prog f args w fun e w' => e = .returned v ∧ ∃ q, w' = w.drewN q
theorem Tells.draws {f : Nat} {args : Array Value} {v : Value} (h : Tells f args v) (w : World) : Calls Try.prog f args w fun e w' => e = .returned v ∧ w' = w := (h w).mono fun _ _ ⟨a, b⟩ => ⟨a, b.symm⟩

section
variable {w : World} {p : Value} {n : Int} {V : Nat}
theorem VAt.cells (h : VAt w p n V) (hn : okN n = true) : ∃ g, p = .pointer (some ⟨g, 0, none⟩) ∧ w.cell? ⟨g, 0, none⟩ = some (.int .i64 n) ∧ w.cell? ⟨g, 1, none⟩ = some (.int .u64 (V : Int)) ∧ w.frozen? ⟨g, 1, none⟩ = false := by
  rcases h with ⟨rfl, rfl, rfl⟩ | ⟨g, rfl, h⟩
  · cases hn
  · exact ⟨g, rfl, cell_of_row w g 0 _ _ _ h, cell_of_row w g 1 _ _ _ h, frozen_of_row w g 1 _ _ h⟩
theorem made_any (h : VAt w p n V) : Calls Try.prog 36 #[p] w fun e w' => e = .returned (.bool (okN n)) ∧ w' = w := by
  have C := hide (nodes_any n)
  rcases h with ⟨rfl, rfl, rfl⟩ | ⟨g, rfl, h⟩
  · go_enter Try.func36, Try.ntmps36
    go_wp2
    go_ret
    exact ⟨rfl, rfl⟩
  · have h0 := cell_of_row w g 0 _ _ _ h
    clear h
    go_enter Try.func36, Try.ntmps36
    go_wp2_with (go_at_call 33; refine (C.out _).mono ?_; rintro e w1 ⟨rfl, rfl⟩)
    go_ret
    exact ⟨rfl, rfl⟩
end
theorem bit_any {k : Nat} (hk : k < 5) : Tells 37 #[.int .i64 ((k : Int) + 1)] (.int .u64 ((2 ^ k : Nat) : Int)) := by
  intro w
  have h5 : k = 0 ∨ k = 1 ∨ k = 2 ∨ k = 3 ∨ k = 4 := by omega
  rcases h5 with rfl | rfl | rfl | rfl | rfl
  all_goals
    clear hk
    go_enter Try.func37, Try.ntmps37
    go_wp2
    go_ret
    exact ⟨rfl, rfl⟩
theorem and_bit : ∀ V : Nat, V < 32 → ∀ k : Nat, k < 5 → ((((V &&& 2 ^ k : Nat) : Int) != 0) = V.testBit k) := by decide +kernel
theorem or_lt : ∀ n : Nat, n < 6 → ∀ V : Nat, V < 2 ^ n → ∀ k : Nat, k < n → V ||| 2 ^ k < 2 ^ n := by decide +kernel
theorem okNode_nat {x n : Int} (h : okNode x n = true) : ∃ k : Nat, x = (k : Int) + 1 ∧ k < 5 ∧ x.toNat - 1 = k := by
  obtain ⟨h1, h2, h3⟩ := okNode_iff.1 h
  exact ⟨x.toNat - 1, by omega, by omega, rfl⟩

set_option maxHeartbeats 1000000 in
theorem has_any {w : World} {p : Value} {n : Int} {V : Nat} (h : VAt w p n V) (hV : V < 32) (x : Int) : Draws w 23 #[p, .int .i64 x] (.bool (hasB n V x)) := by
  unfold Draws
  have C := hide (fun q => made_any (h.drewN q))
  have CI := hide (fun w => (isnode_any x n).draws w)
  by_cases hn : okN n = true
  · rw [hn] at C
    obtain ⟨g, rfl, c0, c1, f1⟩ := h.cells hn
    by_cases hx : okNode x n = true
    · obtain ⟨k, rfl, hk, hk2⟩ := okNode_nat hx
      have CB := hide (fun w => (bit_any hk).draws w)
      have e1 := u64_and_nat V (2 ^ k) (by omega) (by have : ∀ k < 5, 2 ^ k < 18446744073709551616 := by decide
                                                      exact this k hk)
      have H : Hid (hasB n V ((k : Int) + 1) = V.testBit k) := by show _ = _; rw [hasB, hx, hk2, Bool.true_and]
      have H2 := hide (and_bit V hV k hk)
      obtain ⟨m, hm⟩ : ∃ m, m = V &&& 2 ^ k := ⟨_, rfl⟩
      obtain ⟨b, hb⟩ : ∃ b, b = 2 ^ k := ⟨_, rfl⟩
      rw [← hm] at H2
      rw [← hm] at e1
      rw [← hb] at e1 CB
      rw [hx] at CI
      clear hm hb hx hn h hV
      go_enter Try.func23, Try.ntmps23
      go_wp2
      go_quiet (first | (go_at_call 36; exact Calls.quiet_of_same (C.out _)) | (go_at_call 35; exact Calls.quiet_of_same (CI.out _)) | (go_at_call 37; exact Calls.quiet_of_same (CB.out _)))
      go_wp2
      go_ret
      exact ⟨ret_bool (by rw [H.out, ← H2.out]), _, rfl⟩
    · have hx : okNode x n = false := by simpa using hx
      have H : Hid (hasB n V x = false) := by show _ = _; rw [hasB, hx, Bool.false_and]
      rw [hx] at CI
      clear hx hn h hV
      go_enter Try.func23, Try.ntmps23
      go_wp2
      go_quiet (first | (go_at_call 36; exact Calls.quiet_of_same (C.out _)) | (go_at_call 35; exact Calls.quiet_of_same (CI.out _)))
      go_wp2
      go_ret
      exact ⟨ret_bool H.out.symm, _, rfl⟩
  · have hn : okN n = false := by simpa using hn
    have H : Hid (hasB n V x = false) := by show _ = _; rw [hasB, okNode, hn, Bool.false_and, Bool.false_and]
    rw [hn] at C
    clear hn h hV
    go_enter Try.func23, Try.ntmps23
    go_wp2
    go_quiet (first | (go_at_call 36; exact Calls.quiet_of_same (C.out _)))
    go_wp2
    go_ret
    exact ⟨ret_bool H.out.symm, _, rfl⟩

theorem le32 {V : Nat} (h : V < 32) : V = 0 ∨ V = 1 ∨ V = 2 ∨ V = 3 ∨ V = 4 ∨ V = 5 ∨ V = 6 ∨ V = 7 ∨ V = 8 ∨ V = 9 ∨ V = 10 ∨ V = 11 ∨ V = 12 ∨ V = 13 ∨ V = 14 ∨ V = 15 ∨ V = 16 ∨ V = 17 ∨ V = 18 ∨ V = 19 ∨ V = 20 ∨ V = 21 ∨ V = 22 ∨ V = 23 ∨ V = 24 ∨ V = 25 ∨ V = 26 ∨ V = 27 ∨ V = 28 ∨ V = 29 ∨ V = 30 ∨ V = 31 := by omega
set_option maxHeartbeats 4000000 in
theorem ones64_any {V : Nat} (hV : V < 32) : Tells 44 #[.int .u64 (V : Int)] (.int .i64 (cntV V : Int)) := by
  intro w
  rcases le32 hV with rfl | rfl | rfl | rfl | rfl | rfl | rfl | rfl | rfl | rfl | rfl | rfl | rfl | rfl | rfl | rfl | rfl | rfl | rfl | rfl | rfl | rfl | rfl | rfl | rfl | rfl | rfl | rfl | rfl | rfl | rfl | rfl
  all_goals
    clear hV
    go_enter Try.func44, Try.ntmps44
    go_wp2
    go_ret
    exact ⟨by kernel_rfl, rfl⟩
theorem ones_any {V : Nat} (hV : V < 32) : Tells 38 #[.int .u64 (V : Int)] (.int .i64 (cntV V : Int)) := by
  intro w
  have C := hide (ones64_any hV)
  clear hV
  go_enter Try.func38, Try.ntmps38
  go_wp2_with (go_at_call 44; refine (C.out _).mono ?_; rintro e w1 ⟨rfl, rfl⟩)
  go_ret
  exact ⟨rfl, rfl⟩
def cntN (n : Int) (V : Nat) : Int := if okN n then (cntV V : Int) else 0
theorem count_any {w : World} {p : Value} {n : Int} {V : Nat} (h : VAt w p n V) (hV : V < 32) : Calls Try.prog 25 #[p] w fun e w' => e = .returned (.int .i64 (cntN n V)) ∧ w' = w := by
  have C := hide (made_any h)
  have CO := hide (ones_any hV)
  by_cases hn : okN n = true
  · rw [hn] at C
    have H : Hid (cntN n V = cntV V) := by show _ = _; rw [cntN, if_pos hn]
    obtain ⟨g, rfl, c0, c1, f1⟩ := h.cells hn
    clear h hn hV
    go_enter Try.func25, Try.ntmps25
    go_wp2_with (first | (go_at_call 36; refine C.out.mono ?_; rintro e w1 ⟨rfl, rfl⟩) | (go_at_call 38; refine (CO.out _).mono ?_; rintro e w1 ⟨rfl, rfl⟩))
    go_ret
    exact ⟨ret_int H.out.symm, rfl⟩
  · have hn : okN n = false := by simpa using hn
    have H : Hid (cntN n V = 0) := by show _ = _; rw [cntN, hn]; rfl
    rw [hn] at C
    clear h hn hV
    go_enter Try.func25, Try.ntmps25
    go_wp2_with (go_at_call 36; refine C.out.mono ?_; rintro e w1 ⟨rfl, rfl⟩)
    go_ret
    exact ⟨ret_int H.out.symm, rfl⟩
theorem enough_any {w : World} {p : Value} {n : Int} {V : Nat} (h : VAt w p n V) (hV : V < 32) : Draws w 26 #[p] (.bool (enB n V)) := by
  unfold Draws
  have C := hide (fun q => made_any (h.drewN q))
  have CC := hide (fun q => count_any (h.drewN q) hV)
  have CQ := hide (fun w => (quorum_any n).draws w)
  by_cases hn : okN n = true
  · rw [hn] at C
    have e1 : cntN n V = cntV V := by rw [cntN, if_pos hn]
    have H : Hid (enB n V = decide (quorI n ≤ (cntV V : Int))) := by show _ = _; rw [enB, hn, Bool.true_and]
    rw [e1] at CC
    obtain ⟨g, rfl, c0, c1, f1⟩ := h.cells hn
    obtain ⟨y, hy⟩ : ∃ y, y = quorI n := ⟨_, rfl⟩
    rw [← hy] at CQ H
    clear h hn hV e1 hy
    go_enter Try.func26, Try.ntmps26
    go_wp2
    go_quiet (first | (go_at_call 36; exact Calls.quiet_of_same (C.out _)) | (go_at_call 25; exact Calls.quiet_of_same (CC.out _)) | (go_at_call 11; exact Calls.quiet_of_same (CQ.out _)))
    go_wp2
    go_ret
    exact ⟨ret_bool H.out.symm, _, rfl⟩
  · have hn : okN n = false := by simpa using hn
    have H : Hid (enB n V = false) := by show _ = _; rw [enB, hn, Bool.false_and]
    rw [hn] at C
    clear h hn hV
    go_enter Try.func26, Try.ntmps26
    go_wp2
    go_quiet (first | (go_at_call 36; exact Calls.quiet_of_same (C.out _)))
    go_wp2
    go_ret
    exact ⟨ret_bool H.out.symm, _, rfl⟩
end Go.Proofs.Ytnmkndnaomgmhaa
