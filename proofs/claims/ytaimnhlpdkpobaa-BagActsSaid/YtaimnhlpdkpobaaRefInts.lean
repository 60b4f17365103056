/- The walk over droverref01.Ints: are two lists of ints the same? -/
import Derived.Test.YtaimnhlpdkpobaaInts
import Derived.Test.YtaimnhlpdkpobaaOrder
import Derived.Deep.QuietTactic
import Derived.BigQuiet
namespace Go.Proofs.Ytaimnhlpdkpobaa
open Go.RowKit

/-- Are they the same? -/
def eqI (l m : List Int) : Bool := decide (l = m)
theorem eqI_self (l : List Int) : eqI l l = true := by simp [eqI]
theorem eqI_len {l m : List Int} (h : l.length ≠ m.length) : false = eqI l m := by
  unfold eqI
  symm
  rw [decide_eq_false_iff_not]
  intro e
  exact h (congrArg List.length e)
theorem eqI_no {l m : List Int} {i : Nat} (h : l.getD i 0 ≠ m.getD i 0) : false = eqI l m := by
  unfold eqI
  symm
  rw [decide_eq_false_iff_not]
  intro e
  exact h (by rw [e])
def SameUp (l m : List Int) (k : Nat) : Prop := ∀ i, i < k → l.getD i 0 = m.getD i 0
theorem SameUp.zero (l m : List Int) : SameUp l m 0 := fun i hi => by omega
theorem SameUp.next {l m : List Int} {k : Nat} (h : SameUp l m k) (he : l.getD k 0 = m.getD k 0) : SameUp l m (k + 1) := fun i hi => by
  by_cases hk : i = k
  · rw [hk, he]
  · exact h i (by omega)
theorem SameUp.all {l m : List Int} {k : Nat} (h : SameUp l m k) (h1 : l.length = k) (h2 : m.length = k) : true = eqI l m := by
  unfold eqI
  symm
  rw [decide_eq_true_eq]
  apply List.ext_getElem (by omega)
  intro i hi1 hi2
  have := h i (by omega)
  simpa [List.getD, hi1, hi2] using this

set_option maxHeartbeats 400000 in
theorem refints_any (A A2 : Option Addr) (n c m c2 B B2 : Nat) (l l2 : List Int) (w : World) (hl : IHolds w B A n l) (hl2 : IHolds w B2 A2 m l2) (hn : n ≤ 1099511627000) (hm : m ≤ 1099511627000) :
    Calls Try.prog 24 #[.slice A n c, .slice A2 m c2] w fun e w' => e = .returned (.bool (eqI l l2)) ∧ ∃ q, w' = w.drewN q := by
  have H1 := hide hl
  have H2 := hide hl2
  clear hl hl2
  by_cases hnm : n = m
  · subst hnm
    have ht : ((n : Int) != (n : Int)) = false := by simp
    go_enter Try.func24, Try.ntmps24
    go_wp2
    go_loopw [13] (fun i wr => ∃ k : Nat, k ≤ n ∧ i = .int .i64 (k : Int) ∧ SameUp l l2 k ∧ ∃ q, wr = w.drewN q) (fun i _ => n - (intOf i).toNat)
    case atStart => exact ⟨0, by omega, rfl, SameUp.zero _ _, 0, rfl⟩
    case round =>
      obtain ⟨k, hk, rfl, hup, q, rfl⟩ := hrel
      have HU := hide hup
      clear hup
      by_cases hkn : k < n
      · obtain ⟨b, off, rfl, _, hc⟩ := H1.out.at_ hkn
        obtain ⟨b2, off2, rfl, _, hc2⟩ := H2.out.at_ hkn
        obtain ⟨x, hx⟩ : ∃ x, x = l.getD k 0 := ⟨_, rfl⟩
        obtain ⟨y, hy⟩ : ∃ y, y = l2.getD k 0 := ⟨_, rfl⟩
        rw [← hx] at hc
        rw [← hy] at hc2
        have HX := hide hx
        have HY := hide hy
        clear hx hy
        by_cases he : x = y
        · subst he
          have ht2 : (x != x) = false := by simp
          go_wp2
          go_quiet (fail)
          go_wp2
          go_roundw
          case rel => exact ⟨k + 1, by omega, by go_num, HU.out.next (by rw [← HX.out, ← HY.out]), _, rfl⟩
          case measure => simp [intOf]; omega
        · have ht2 : (x != y) = true := by simpa using he
          have HE : Hid (l.getD k 0 ≠ l2.getD k 0) := by rw [← HX.out, ← HY.out]; exact he
          clear he
          go_wp2
          go_quiet (fail)
          go_wp2
          go_ret
          exact ⟨ret_bool (eqI_no HE.out), _, World.drewN_drewN _ _ _⟩
      · go_wp2
        go_ret
        exact ⟨ret_bool (HU.out.all (by have := H1.out.1; omega) (by have := H2.out.1; omega)), _, rfl⟩
  · have ht : ((n : Int) != (m : Int)) = true := by simp; omega
    go_enter Try.func24, Try.ntmps24
    go_wp2
    go_ret
    exact ⟨ret_bool (eqI_len (by rw [H1.out.1, H2.out.1]; exact hnm)), 0, rfl⟩
end Go.Proofs.Ytaimnhlpdkpobaa
