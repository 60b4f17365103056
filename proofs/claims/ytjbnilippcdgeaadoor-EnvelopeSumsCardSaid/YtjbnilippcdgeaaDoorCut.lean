/- Slices of slices of bytes; the walk over bytes.Clone. -/
import Derived.Test.YtjbnilippcdgeaaDoorPut
import Derived.Lib.SliceRun
namespace Go.Proofs.YtjbnilippcdgeaaDoor
open Go.RowKit

theorem sizeU8 (w : World) : (sizeOf 5).run Tryd.prog w = .ok 1 w := by kernel_rfl
theorem elemU8 : Tryd.prog.elem 22 = 5 := by kernel_rfl
theorem sliceU8 : Tryd.prog.underlying 22 = some (.slice (Tryd.prog.elem 22)) := by kernel_rfl

/-- What lies behind the first k of a slice's places. -/
theorem cut_from (A : Option Addr) (n c k : Nat) (hk : k ≤ n) : ∃ A' : Option Addr, (¬ c = k → A' = A.map (·.add k)) ∧
    ∀ w, (Instr.slice 22 (.slice A n c) (some (.int .i64 (k : Int))) none none).run Tryd.prog w = .ok (.slice A' (n - k) (c - k)) w := by
  refine ⟨if c = k then A else A.map (·.add k), fun h => by rw [if_neg h], fun w => ?_⟩
  rw [run_slice_l w _ _ _ _ sliceU8 .i64 _ (by omega) (by omega), elemU8, sizeU8]
  cases A with
  | none => simp [Result.andThen, sliced]
  | some a =>
    by_cases h : c = k
    · subst h
      simp [Result.andThen, sliced]
    · simp [Result.andThen, sliced, h]
/-- From the k-th place up to the h-th one. -/
theorem cut_mid (A : Option Addr) (n c k h : Nat) (hk : k ≤ h) (hc : h ≤ c) : ∃ A' : Option Addr, (¬ c = k → A' = A.map (·.add k)) ∧
    ∀ w, (Instr.slice 22 (.slice A n c) (some (.int .i64 (k : Int))) (some (.int .i64 (h : Int))) none).run Tryd.prog w = .ok (.slice A' (h - k) (c - k)) w := by
  refine ⟨if c = k then A else A.map (·.add k), fun h => by rw [if_neg h], fun w => ?_⟩
  rw [run_slice_lh w _ _ _ _ sliceU8 .i64 .i64 _ _ (by omega) (by omega) (by omega), elemU8, sizeU8]
  cases A with
  | none => simp [Result.andThen, sliced]
  | some a =>
    by_cases h : c = k
    · subst h
      simp [Result.andThen, sliced]
    · simp [Result.andThen, sliced, h]

/-- What lies from k up to h. -/
theorem Holds.mid {w : World} {B n cap k h : Nat} {A A' : Option Addr} {l : List Nat} (H : Holds w B A n l) (hk : k ≤ h) (hh : h ≤ n) (hc : n ≤ cap) (hA' : ¬ cap = k → A' = A.map (·.add k)) :
    Holds w B A' (h - k) ((l.drop k).take (h - k)) :=
  ((H.drop (by omega) hc A' hA').take (by omega))

set_option maxHeartbeats 400000 in
theorem clone_any (A : Option Addr) (n c B : Nat) (l : List Nat) (w : World) (hl : Holds w B A n l) (hB : B ≤ w.heap.size) (hn : n ≤ 1099511627000) :
    Calls Tryd.prog 20 #[.slice A n c] w (NewBytes w l) := by
  obtain ⟨i0, hi, hz0, hz1, hz2⟩ := info_parts Tryd.infoU8
  have Hl := hide hl
  clear hl
  have hnil := fun (w : World) (a : Option Addr) (n c n' c' : Nat) => Lib.run_eql_slice_nil (P := Tryd.prog) w 22 5 a n c n' c' Tryd.underlying22
  cases A with
  | none =>
    have H0 : Hid (n = 0 ∧ l = []) := by
      have h0 : n = 0 := by
        rcases Nat.eq_zero_or_pos n with h | h
        · exact h
        · obtain ⟨_, _, h, _⟩ := Hl.out.2.2 h
          cases h
      exact ⟨h0, List.eq_nil_of_length_eq_zero (by rw [Hl.out.1, h0])⟩
    go_enter Tryd.func20, Tryd.ntmps20
    go_wp2
    go_ret
    rw [H0.out.2]
    exact newBytes_of (n := 0) (World.ownsRow_nil _ _ _ _) (by simp) (Below.refl _ _)
  | some a =>
    go_enter Tryd.func20, Tryd.ntmps20
    go_wp2_with (at_builtin; refine wpList_append_bytes _ rfl (.tmp 5) (.tmp 6) 22 rfl w.heap.size 5 i0 (.int .u8 0) Tryd.underlying22 hi hz0 hz1 hz2 rfl _ 0 [] rfl (World.ownsRow_lit w #[] 0 (Nat.le_refl _) (by simp [maxLen]) rfl) B (some a) n c l rfl (Hl.out.below ((Below.refl _ _).alloc hB _)) (by omega) (by simp) ?_; intro v2 w2 o2 g2)
    have l2 : Hid (Below w.heap.size w w2) := ((Below.refl _ _).alloc (Nat.le_refl _) _).trans (g2.below (World.ownsRow_lit w #[] 0 (Nat.le_refl _) (by simp [maxLen]) rfl) (by simp))
    have o2' := hide o2
    clear o2 g2
    go_ret
    exact newBytes_of (n := 0 + n) (by simpa using o2'.out) Hl.out.2.1 l2.out
end Go.Proofs.YtjbnilippcdgeaaDoor
