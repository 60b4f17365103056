/- The walk over droverlaw01.FieldNumbers: a number comes back from its bytes, whatever stands behind; cut off, it is none; Zag undoes Zig. -/
import Derived.Test.YtjfcakpglbpeaaaLives
import Derived.Test.YtjfcakpglbpeaaaGet
namespace Go.Proofs.Ytjfcakpglbpeaaa
open Go.RowKit

theorem getuint_is (A : Option Addr) (n c B : Nat) (l : List Nat) (x k : Nat) (y : Nat) (w : World) (hl : Holds w B A n l) (hn : n ≤ 1099511627000) (h : num l 0 0 = (x, k, y)) :
    Calls Try.prog 10 #[.slice A n c] w fun e w' => e = .returned (.tuple #[.int .u64 x, .int .i64 k]) ∧ w = w' :=
  (getuint_any A n c B l w hl hn).mono fun e w' ⟨he, hw⟩ => ⟨by rw [he, h], hw⟩
theorem zag_of_zig (x : Int) (w : World) (h1 : -9223372036854775808 ≤ x) (h2 : x < 9223372036854775808) :
    Calls Try.prog 16 #[.int .u64 (zig x)] w fun e w' => e = .returned (.int .i64 x) ∧ w = w' :=
  (zag_any (zig x) w (zig_lt x h1 h2)).mono fun e w' ⟨he, hw⟩ => ⟨by rw [he, zag_zig], hw⟩
theorem zig_of_zag (V : Nat) (w : World) (h : V < 18446744073709551616) :
    Calls Try.prog 14 #[.int .i64 (zag V)] w fun e w' => e = .returned (.int .u64 V) ∧ w = w' :=
  (zig_any (zag V) w (zag_lt V h).1 (zag_lt V h).2).mono fun e w' ⟨he, hw⟩ => ⟨by rw [he, zig_zag], hw⟩

set_option maxHeartbeats 1000000 in
set_option maxRecDepth 100000 in
theorem numbers_any (V : Nat) (x : Int) (A : Option Addr) (n c : Nat) (l : List Nat) (w : World) (hV : V < 18446744073709551616) (hx1 : -9223372036854775808 ≤ x) (hx2 : x < 9223372036854775808)
    (hl : Holds w w.heap.size A n l) (hn : n ≤ maxLen) :
    Calls Try.prog 6 #[.int .u64 V, .int .i64 x, .slice A n c] w fun e w' => e = .returned (.bool true) ∧ Below w.heap.size w w' := by
  obtain ⟨i0, hi, hz0, hz1, hz2⟩ := info_parts Try.infoU8
  unfold maxLen at hn
  have HV := hide hV
  have H1 := hide hx1
  have H2 := hide hx2
  have HL := hide hl
  have henc := enc_len V
  clear hV hx1 hx2 hl
  by_cases hlong : 2000 < n
  · go_enter Try.func6, Try.ntmps6
    go_wp2_with (fail)
    refine (uint_new none 0 0 V [] 0 _ HV.out (by omega) (Holds.nil_ _ _) (Nat.zero_le _)).mono ?_
    rintro e w1 ⟨A1, n1, c1, rfl, o1, h1, hc1, b1⟩
    have Ho := hide o1
    have Hh := hide h1
    clear o1 h1
    go_wp2_with (go_at_call 9; refine (lives_any _).mono ?_; rintro e w2 ⟨rfl, b2⟩)
    go_ret
    exact ⟨rfl, b1.trans (b2.mono b1.size)⟩
  · go_enter Try.func6, Try.ntmps6
    go_wp2_with (fail)
    refine (uint_new none 0 0 V [] 0 _ HV.out (by omega) (Holds.nil_ _ _) (Nat.zero_le _)).mono ?_
    rintro e w1 ⟨A1, n1, c1, rfl, o1, h1, hc1, b1⟩
    have hl1 := h1.1
    simp only [List.nil_append] at hl1 h1
    have hn1 : 1 ≤ n1 ∧ n1 ≤ 10 := by omega
    have Hl1 := hide hl1
    have Hh := hide h1
    clear o1 h1 hl1
    have hs1 := b1.size
    go_wp2_with (first
      | (at_builtin; refine wpList_append_bytes _ rfl (.tmp 35) (.tmp 36) 22 rfl w1.heap.size 5 i0 (.int .u8 0) Try.underlying22 hi hz0 hz1 hz2 rfl _ 0 [] rfl (World.ownsRow_lit w1 #[] 0 (Nat.le_refl _) (by simp [maxLen]) rfl) w1.heap.size A1 n1 c1 (enc V) rfl (Hh.out.below ((Below.refl _ _).alloc (Nat.le_refl _) _)) (by omega) (by simp) ?_; intro v2 w2 o2 g2)
      | (at_builtin; refine wpList_append_bytes _ rfl (.tmp 37) (.tmp 38) 22 rfl w1.heap.size 5 i0 (.int .u8 0) Try.underlying22 hi hz0 hz1 hz2 rfl v2 (0 + n1) _ rfl o2 w.heap.size A n c l rfl (HL.out.below (b1.trans ((((Below.refl _ _).alloc (Nat.le_refl _) _).trans (g2.below (World.ownsRow_lit w1 #[] 0 (Nat.le_refl _) (by simp [maxLen]) rfl) (by simp))).mono hs1))) (by omega) (by have := g2.size; simp at this; omega) ?_; intro v3 w3 o3 g3))
    have l3 : Below w1.heap.size w1 w3 := by
      have q1 := (World.ownsRow_lit (base := w1.heap.size) (e := 5) (size := 1) w1 #[] 0 (Nat.le_refl _) (by simp [maxLen]) rfl)
      have q2 := g2.below q1 (by simp)
      have q3 := g3.below o2 (by have := g2.size; simp at this; omega)
      exact ((Below.refl _ _).alloc (Nat.le_refl _) _).trans (q2.trans q3)
    obtain ⟨A3, n3, c3, hv3, hc3, H3, Hn3⟩ := row_slice (l := enc V ++ l) (by rw [bvs_append]; simpa using o3) (fun y hy => by
      rcases List.mem_append.1 hy with h | h
      · exact enc_small V y h
      · exact HL.out.2.1 y h)
    have hn3 : n3 ≤ 2010 := by have := Hn3.out; omega
    have Hsum : Hid (num (enc V ++ l) 0 0 = (V, n1, 0)) := by
      show _ = _
      rw [num_enc l V HV.out, Hl1.out]
    have L3 := hide l3
    have B1 := hide b1
    have s3 := l3.size
    clear o2 g2 o3 g3 l3 b1
    subst hv3
    refine (getuint_is A3 n3 c3 _ _ V n1 0 w3 H3.out (by omega) Hsum.out).mono ?_
    rintro e w4 ⟨rfl, rfl⟩
    have e1 : ((V : Int) != (V : Int)) = false := by simp
    have e2 : ((n1 : Int) != (n1 : Int)) = false := by simp
    have e3 : (x != x) = false := by simp
    go_wp2_with (fail)
    refine (zig_any x w3 H1.out H2.out).mono ?_
    rintro e w5 ⟨rfl, rfl⟩
    go_wp2_with (fail)
    refine (zag_of_zig x w3 H1.out H2.out).mono ?_
    rintro e w6 ⟨rfl, rfl⟩
    go_wp2_with (fail)
    refine (zag_any V w3 HV.out).mono ?_
    rintro e w7 ⟨rfl, rfl⟩
    go_wp2_with (fail)
    refine (zig_of_zag V w3 HV.out).mono ?_
    rintro e w8 ⟨rfl, rfl⟩
    go_wp2_with (fail)
    go_loop [10] (fun i => ∃ k : Nat, k ≤ n1 ∧ i = .int .i64 k) (fun i => n1 - (intOf i).toNat)
    case atStart => exact ⟨0, by omega, rfl⟩
    case round =>
      obtain ⟨k, hk, rfl⟩ := hrel
      by_cases hlt : k < n1
      · have Hk : Hid (Holds w3 w1.heap.size A1 k ((enc V).take k)) := (Hh.out.below L3.out).take hk
        have Hcut : Hid (num ((enc V).take k) 0 0 = ((0 : Nat), (0 : Nat), 3)) := num_enc_cut V k HV.out (by have := Hl1.out; omega)
        go_wp2_with (fail)
        refine (getuint_is A1 k c1 _ _ 0 0 3 w3 Hk.out (by omega) Hcut.out).mono ?_
        rintro e w9 ⟨rfl, rfl⟩
        go_wp2
        go_round
        case rel => exact ⟨k + 1, by omega, by go_num⟩
        case measure => simp [intOf]; omega
      · go_wp2_with (go_at_call 9; refine (lives_any _).mono ?_; rintro e w9 ⟨rfl, b9⟩)
        go_ret
        exact ⟨rfl, B1.out.trans ((L3.out.mono hs1).trans (b9.mono (by omega)))⟩
end Go.Proofs.Ytjfcakpglbpeaaa
