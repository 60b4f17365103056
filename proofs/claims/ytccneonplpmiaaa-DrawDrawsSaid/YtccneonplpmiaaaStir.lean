/- The walks over what stirs numbers, and back: the code's and the document's. -/
import Derived.Test.YtccneonplpmiaaaMix
import Derived.Test.YtccneonplpmiaaaMem
import Derived.Test.YtccneonplpmiaaaRows
import Derived.Laws.BitsAllLaws
import Derived.Laws.BitsLemmas
import Derived.WalkLawsBesides
namespace Go.Proofs.Ytccneonplpmiaaa
open Go.RowKit

theorem shr_int (n x : Nat) : ((x : Int) / ((2 ^ n : Nat) : Int)) = ((x >>> n : Nat) : Int) := by
  rw [Nat.shiftRight_eq_div_pow]
  exact (Int.natCast_ediv x (2 ^ n)).symm
theorem shr12 (x : Nat) : (x : Int) / (4096 : Int) = ((x >>> 12 : Nat) : Int) := shr_int 12 x
theorem shr15 (x : Nat) : (x : Int) / (32768 : Int) = ((x >>> 15 : Nat) : Int) := shr_int 15 x
theorem xs15 {x : Nat} (h : x < 4294967296) : bits .xor .u32 (x : Int) ((x : Int) / (32768 : Int)) = ((xs 15 x : Nat) : Int) := by
  rw [shr15, u32_xor_nat x _ h (shr_lt _ h)]
  rfl
theorem xs12 {x : Nat} (h : x < 4294967296) : bits .xor .u32 (x : Int) ((x : Int) / (4096 : Int)) = ((xs 12 x : Nat) : Int) := by
  rw [shr12, u32_xor_nat x _ h (shr_lt _ h)]
  rfl
theorem mulm_int (x a : Nat) : (x : Int) * (a : Int) % 4294967296 = ((mulm x a : Nat) : Int) := by
  unfold mulm
  rw [← Int.natCast_mul]
  rfl

theorem times_any (x a : Nat) (w : World) (hx : x < 4294967296) (ha : a < 4294967296) :
    Calls Try.prog 24 #[.int .u32 x, .int .u32 a] w fun e w' => e = .returned (.int .u32 (mulm x a : Nat)) ∧ w = w' := by
  go_enter Try.func24, Try.ntmps24
  go_wp2
  go_ret
  refine ⟨ret_int ?_, rfl⟩
  rw [IntKind.wrap_u64, Int.emod_emod_of_dvd _ (by decide), mulm_int]

theorem refmix_any (x : Nat) (w : World) (hx : x < 4294967296) :
    Calls Try.prog 10 #[.int .u32 x] w fun e w' => e = .returned (.int .u32 (mix x : Nat)) ∧ w = w' := by
  obtain ⟨a, ha⟩ : ∃ a, a = xs 15 x := ⟨_, rfl⟩
  have e1 := xs15 hx
  have la : a < 4294967296 := by rw [ha]; exact xs_lt hx
  obtain ⟨b, hb⟩ : ∃ b, b = mulm a 739982445 := ⟨_, rfl⟩
  have e2 : (a : Int) * 739982445 % 4294967296 = _ := mulm_int a 739982445
  have lb : b < 4294967296 := by rw [hb]; exact mulm_lt _ _
  obtain ⟨c, hc⟩ : ∃ c, c = xs 12 b := ⟨_, rfl⟩
  have e3 := xs12 lb
  have lc : c < 4294967296 := by rw [hc]; exact xs_lt lb
  obtain ⟨d, hd⟩ : ∃ d, d = mulm c 695872825 := ⟨_, rfl⟩
  have e4 : (c : Int) * 695872825 % 4294967296 = _ := mulm_int c 695872825
  have ld : d < 4294967296 := by rw [hd]; exact mulm_lt _ _
  have e5 := xs15 ld
  rw [← ha] at e1
  rw [← hb] at e2
  rw [← hc] at e3
  rw [← hd] at e4
  have H : Hid (xs 15 d = mix x) := by rw [hd, hc, hb, ha]; rfl
  clear ha hb hc hd
  go_enter Try.func10, Try.ntmps10
  go_wp2
  go_ret
  exact ⟨by rw [← H.out]; rfl, rfl⟩

set_option maxHeartbeats 400000 in
theorem mix_any (x : Nat) (w : World) (hx : x < 4294967296) :
    Calls Try.prog 9 #[.int .u32 x] w fun e w' => e = .returned (.int .u32 (mix x : Nat)) ∧ w = w' := by
  obtain ⟨a, ha⟩ : ∃ a, a = xs 15 x := ⟨_, rfl⟩
  have e1 := xs15 hx
  have la : a < 4294967296 := by rw [ha]; exact xs_lt hx
  obtain ⟨b, hb⟩ : ∃ b, b = mulm a 739982445 := ⟨_, rfl⟩
  have e2 := fun w => times_any a 739982445 w la (by decide)
  have lb : b < 4294967296 := by rw [hb]; exact mulm_lt _ _
  obtain ⟨c, hc⟩ : ∃ c, c = xs 12 b := ⟨_, rfl⟩
  have e3 := xs12 lb
  have lc : c < 4294967296 := by rw [hc]; exact xs_lt lb
  obtain ⟨d, hd⟩ : ∃ d, d = mulm c 695872825 := ⟨_, rfl⟩
  have e4 := fun w => times_any c 695872825 w lc (by decide)
  have ld : d < 4294967296 := by rw [hd]; exact mulm_lt _ _
  have e5 := xs15 ld
  rw [← ha] at e1
  rw [← hb] at e2
  rw [← hc] at e3
  rw [← hd] at e4
  have H : Hid (xs 15 d = mix x) := by rw [hd, hc, hb, ha]; rfl
  clear ha hb hc hd
  have H2 := hide e2
  have H4 := hide e4
  clear e2 e4
  go_enter Try.func9, Try.ntmps9
  go_wp2_with (fail)
  refine (H2.out _).mono ?_
  rintro e w1 ⟨rfl, rfl⟩
  go_wp2_with (fail)
  refine (H4.out _).mono ?_
  rintro e w1 ⟨rfl, rfl⟩
  go_wp2
  go_ret
  exact ⟨by rw [← H.out]; rfl, rfl⟩

set_option maxHeartbeats 400000 in
theorem unshift15 (x : Nat) (w : World) (hx : x < 4294967296) :
    Calls Try.prog 25 #[.int .u32 x, .int .i64 15] w fun e w' => e = .returned (.int .u32 (un 15 x : Nat)) ∧ w = w' := by
  have H := hide (halves_end (n := 15) (by decide) hx 0)
  go_enter Try.func25, Try.ntmps25
  go_wp2
  go_loop [5, 6] (fun y r => ∃ k : Nat, k ≤ 2 ∧ r = .int .i64 ((15 * (k + 1) : Nat) : Int) ∧ y = .int .u32 ((halves 15 x k : Nat) : Int)) (fun _ r => 45 - (intOf r).toNat)
  case atStart => exact ⟨0, by omega, rfl, rfl⟩
  case round =>
    obtain ⟨k, hk, rfl, rfl⟩ := hrel
    obtain ⟨r, hr⟩ : ∃ r, r = 15 * (k + 1) := ⟨_, rfl⟩
    have hy := halves_lt (n := 15) hx k
    have he := u32_xor_nat x _ hx (shr_lt 15 hy)
    rw [← shr15] at he
    have Hh : Hid (x ^^^ halves 15 x k >>> 15 = halves 15 x (k + 1)) := rfl
    obtain ⟨z, hz⟩ : ∃ z, z = x ^^^ halves 15 x k >>> 15 := ⟨_, rfl⟩
    rw [← hz] at Hh he
    obtain ⟨y, hy2⟩ : ∃ y, y = halves 15 x k := ⟨_, rfl⟩
    rw [← hr, ← hy2]
    rw [← hy2] at he
    have Hr := hide hr
    have Hy := hide hy2
    clear hr hy2 hz
    by_cases h : r < 32
    · go_wp2
      go_round
      case rel =>
        have := Hr.out
        exact ⟨k + 1, by omega, by rw [show ((15 * (k + 1 + 1) : Nat) : Int) = (r : Int) + 15 by omega], by rw [Hh.out]⟩
      case measure => simp [intOf]; omega
    · have hk2 : k = 2 := by have := Hr.out; omega
      have Hk := hide hk2
      clear hk2
      go_wp2
      go_ret
      exact ⟨by rw [Hy.out, Hk.out, ← H.out]; rfl, rfl⟩

set_option maxHeartbeats 400000 in
theorem unshift12 (x : Nat) (w : World) (hx : x < 4294967296) :
    Calls Try.prog 25 #[.int .u32 x, .int .i64 12] w fun e w' => e = .returned (.int .u32 (un 12 x : Nat)) ∧ w = w' := by
  have H := hide (halves_end (n := 12) (by decide) hx 0)
  go_enter Try.func25, Try.ntmps25
  go_wp2
  go_loop [5, 6] (fun y r => ∃ k : Nat, k ≤ 2 ∧ r = .int .i64 ((12 * (k + 1) : Nat) : Int) ∧ y = .int .u32 ((halves 12 x k : Nat) : Int)) (fun _ r => 36 - (intOf r).toNat)
  case atStart => exact ⟨0, by omega, rfl, rfl⟩
  case round =>
    obtain ⟨k, hk, rfl, rfl⟩ := hrel
    obtain ⟨r, hr⟩ : ∃ r, r = 12 * (k + 1) := ⟨_, rfl⟩
    have hy := halves_lt (n := 12) hx k
    have he := u32_xor_nat x _ hx (shr_lt 12 hy)
    rw [← shr12] at he
    have Hh : Hid (x ^^^ halves 12 x k >>> 12 = halves 12 x (k + 1)) := rfl
    obtain ⟨z, hz⟩ : ∃ z, z = x ^^^ halves 12 x k >>> 12 := ⟨_, rfl⟩
    rw [← hz] at Hh he
    obtain ⟨y, hy2⟩ : ∃ y, y = halves 12 x k := ⟨_, rfl⟩
    rw [← hr, ← hy2]
    rw [← hy2] at he
    have Hr := hide hr
    have Hy := hide hy2
    clear hr hy2 hz
    by_cases h : r < 32
    · go_wp2
      go_round
      case rel =>
        have := Hr.out
        exact ⟨k + 1, by omega, by rw [show ((12 * (k + 1 + 1) : Nat) : Int) = (r : Int) + 12 by omega], by rw [Hh.out]⟩
      case measure => simp [intOf]; omega
    · have hk2 : k = 2 := by have := Hr.out; omega
      have Hk := hide hk2
      clear hk2
      go_wp2
      go_ret
      exact ⟨by rw [Hy.out, Hk.out, ← H.out]; rfl, rfl⟩

set_option maxHeartbeats 400000 in
theorem refhalf15 (x : Nat) (w : World) (hx : x < 4294967296) :
    Calls Try.prog 26 #[.int .u32 x, .int .u64 15] w fun e w' => e = .returned (.int .u32 (un 15 x : Nat)) ∧ w = w' := by
  have H := hide (halves_end (n := 15) (by decide) hx 30)
  go_enter Try.func26, Try.ntmps26
  go_wp2
  go_loop [5, 6] (fun y r => ∃ k : Nat, k ≤ 32 ∧ r = .int .i64 (k : Int) ∧ y = .int .u32 ((halves 15 x k : Nat) : Int)) (fun _ r => 32 - (intOf r).toNat)
  case atStart => exact ⟨0, by omega, rfl, rfl⟩
  case round =>
    obtain ⟨k, hk, rfl, rfl⟩ := hrel
    have hy := halves_lt (n := 15) hx k
    have he := u32_xor_nat x _ hx (shr_lt 15 hy)
    rw [← shr15] at he
    have Hh : Hid (x ^^^ halves 15 x k >>> 15 = halves 15 x (k + 1)) := rfl
    obtain ⟨z, hz⟩ : ∃ z, z = x ^^^ halves 15 x k >>> 15 := ⟨_, rfl⟩
    rw [← hz] at Hh he
    obtain ⟨y, hy2⟩ : ∃ y, y = halves 15 x k := ⟨_, rfl⟩
    rw [← hy2]
    rw [← hy2] at he
    have Hy := hide hy2
    clear hy2 hz
    by_cases h : k < 32
    · go_wp2
      go_round
      case rel => exact ⟨k + 1, by omega, by go_num, by rw [Hh.out]⟩
      case measure => simp [intOf]; omega
    · have hk2 : k = 32 := by omega
      have Hk := hide hk2
      clear hk2
      go_wp2
      go_ret
      exact ⟨by rw [Hy.out, Hk.out, ← H.out]; rfl, rfl⟩

set_option maxHeartbeats 400000 in
theorem refhalf12 (x : Nat) (w : World) (hx : x < 4294967296) :
    Calls Try.prog 26 #[.int .u32 x, .int .u64 12] w fun e w' => e = .returned (.int .u32 (un 12 x : Nat)) ∧ w = w' := by
  have H := hide (halves_end (n := 12) (by decide) hx 30)
  go_enter Try.func26, Try.ntmps26
  go_wp2
  go_loop [5, 6] (fun y r => ∃ k : Nat, k ≤ 32 ∧ r = .int .i64 (k : Int) ∧ y = .int .u32 ((halves 12 x k : Nat) : Int)) (fun _ r => 32 - (intOf r).toNat)
  case atStart => exact ⟨0, by omega, rfl, rfl⟩
  case round =>
    obtain ⟨k, hk, rfl, rfl⟩ := hrel
    have hy := halves_lt (n := 12) hx k
    have he := u32_xor_nat x _ hx (shr_lt 12 hy)
    rw [← shr12] at he
    have Hh : Hid (x ^^^ halves 12 x k >>> 12 = halves 12 x (k + 1)) := rfl
    obtain ⟨z, hz⟩ : ∃ z, z = x ^^^ halves 12 x k >>> 12 := ⟨_, rfl⟩
    rw [← hz] at Hh he
    obtain ⟨y, hy2⟩ : ∃ y, y = halves 12 x k := ⟨_, rfl⟩
    rw [← hy2]
    rw [← hy2] at he
    have Hy := hide hy2
    clear hy2 hz
    by_cases h : k < 32
    · go_wp2
      go_round
      case rel => exact ⟨k + 1, by omega, by go_num, by rw [Hh.out]⟩
      case measure => simp [intOf]; omega
    · have hk2 : k = 32 := by omega
      have Hk := hide hk2
      clear hk2
      go_wp2
      go_ret
      exact ⟨by rw [Hy.out, Hk.out, ← H.out]; rfl, rfl⟩

theorem over_int {a x : Nat} : (x : Int) * ((2 - (a : Int) * (x : Int)) % 4294967296) % 4294967296 = ((over1 a x : Nat) : Int) := by
  have e1 : (a : Int) * (x : Int) = ((a * x : Nat) : Int) := (Int.natCast_mul a x).symm
  have e2 : (2 - ((a * x : Nat) : Int)) % 4294967296 = (((2 + 4294967296 - a * x % 4294967296) % 4294967296 : Nat) : Int) := by
    generalize a * x = z
    omega
  rw [e1, e2]
  unfold over1
  rw [← Int.natCast_mul]
  rfl
set_option maxHeartbeats 400000 in
theorem refover_any (a : Nat) (w : World) (ha : a < 4294967296) :
    Calls Try.prog 27 #[.int .u32 a] w fun e w' => e = .returned (.int .u32 (overs a 6 : Nat)) ∧ w = w' := by
  go_enter Try.func27, Try.ntmps27
  go_wp2
  go_loop [3, 4] (fun y r => ∃ k : Nat, k ≤ 6 ∧ r = .int .i64 (k : Int) ∧ y = .int .u32 ((overs a k : Nat) : Int)) (fun _ r => 6 - (intOf r).toNat)
  case atStart => exact ⟨0, by omega, rfl, rfl⟩
  case round =>
    obtain ⟨k, hk, rfl, rfl⟩ := hrel
    have hy := overs_lt ha k
    have Hh : Hid (over1 a (overs a k) = overs a (k + 1)) := rfl
    obtain ⟨y, hy2⟩ : ∃ y, y = overs a k := ⟨_, rfl⟩
    rw [← hy2] at hy Hh
    rw [← hy2]
    have Hy := hide hy2
    clear hy2
    by_cases h : k < 6
    · go_wp2
      go_round
      case rel => exact ⟨k + 1, by omega, by go_num, by rw [← Hh.out, ← over_int]⟩
      case measure => simp [intOf]; omega
    · have hk2 : k = 6 := by omega
      have Hk := hide hk2
      clear hk2
      go_wp2
      go_ret
      exact ⟨by rw [Hy.out, Hk.out]; rfl, rfl⟩

set_option maxHeartbeats 400000 in
theorem unmix_any (x : Nat) (w : World) (hx : x < 4294967296) :
    Calls Try.prog 11 #[.int .u32 x] w fun e w' => e = .returned (.int .u32 (unmix x : Nat)) ∧ w = w' := by
  obtain ⟨a, ha⟩ : ∃ a, a = un 15 x := ⟨_, rfl⟩
  have e1 := fun w => unshift15 x w hx
  have la : a < 4294967296 := by rw [ha]; exact un_lt hx
  obtain ⟨b, hb⟩ : ∃ b, b = mulm a 217100553 := ⟨_, rfl⟩
  have e2 := fun w => times_any a 217100553 w la (by decide)
  have lb : b < 4294967296 := by rw [hb]; exact mulm_lt _ _
  obtain ⟨c, hc⟩ : ∃ c, c = un 12 b := ⟨_, rfl⟩
  have e3 := fun w => unshift12 b w lb
  have lc : c < 4294967296 := by rw [hc]; exact un_lt lb
  obtain ⟨d, hd⟩ : ∃ d, d = mulm c 1693068645 := ⟨_, rfl⟩
  have e4 := fun w => times_any c 1693068645 w lc (by decide)
  have ld : d < 4294967296 := by rw [hd]; exact mulm_lt _ _
  have e5 := fun w => unshift15 d w ld
  rw [← ha] at e1
  rw [← hb] at e2
  rw [← hc] at e3
  rw [← hd] at e4
  have H : Hid (un 15 d = unmix x) := by rw [hd, hc, hb, ha]; rfl
  clear ha hb hc hd
  have H1 := hide e1
  have H2 := hide e2
  have H3 := hide e3
  have H4 := hide e4
  have H5 := hide e5
  clear e1 e2 e3 e4 e5
  go_enter Try.func11, Try.ntmps11
  go_wp2_with (fail)
  refine (H1.out _).mono ?_
  rintro e w1 ⟨rfl, rfl⟩
  go_wp2_with (fail)
  refine (H2.out _).mono ?_
  rintro e w1 ⟨rfl, rfl⟩
  go_wp2_with (fail)
  refine (H3.out _).mono ?_
  rintro e w1 ⟨rfl, rfl⟩
  go_wp2_with (fail)
  refine (H4.out _).mono ?_
  rintro e w1 ⟨rfl, rfl⟩
  go_wp2_with (fail)
  refine (H5.out _).mono ?_
  rintro e w1 ⟨rfl, rfl⟩
  go_wp2
  go_ret
  exact ⟨by rw [← H.out]; rfl, rfl⟩

set_option maxHeartbeats 400000 in
theorem refunmix_any (x : Nat) (w : World) (hx : x < 4294967296) :
    Calls Try.prog 12 #[.int .u32 x] w fun e w' => e = .returned (.int .u32 (unmix x : Nat)) ∧ w = w' := by
  obtain ⟨a, ha⟩ : ∃ a, a = un 15 x := ⟨_, rfl⟩
  have e1 := fun w => refhalf15 x w hx
  have la : a < 4294967296 := by rw [ha]; exact un_lt hx
  obtain ⟨b, hb⟩ : ∃ b, b = mulm a 217100553 := ⟨_, rfl⟩
  have f2 := fun w => refover_any 695872825 w (by decide)
  have e2 : (a : Int) * 217100553 % 4294967296 = _ := mulm_int a 217100553
  have lb : b < 4294967296 := by rw [hb]; exact mulm_lt _ _
  obtain ⟨c, hc⟩ : ∃ c, c = un 12 b := ⟨_, rfl⟩
  have e3 := fun w => refhalf12 b w lb
  have lc : c < 4294967296 := by rw [hc]; exact un_lt lb
  obtain ⟨d, hd⟩ : ∃ d, d = mulm c 1693068645 := ⟨_, rfl⟩
  have f4 := fun w => refover_any 739982445 w (by decide)
  have e4 : (c : Int) * 1693068645 % 4294967296 = _ := mulm_int c 1693068645
  have ld : d < 4294967296 := by rw [hd]; exact mulm_lt _ _
  have e5 := fun w => refhalf15 d w ld
  rw [← ha] at e1
  rw [← hb] at e2
  rw [← hc] at e3
  rw [← hd] at e4
  rw [overs_second] at f2
  rw [overs_first] at f4
  have H : Hid (un 15 d = unmix x) := by rw [hd, hc, hb, ha]; rfl
  clear ha hb hc hd
  have H1 := hide e1
  have H2 := hide f2
  have H3 := hide e3
  have H4 := hide f4
  have H5 := hide e5
  clear e1 f2 e3 f4 e5
  go_enter Try.func12, Try.ntmps12
  go_wp2_with (fail)
  refine (H1.out _).mono ?_
  rintro e w1 ⟨rfl, rfl⟩
  go_wp2_with (fail)
  refine (H2.out _).mono ?_
  rintro e w1 ⟨rfl, rfl⟩
  go_wp2_with (fail)
  refine (H3.out _).mono ?_
  rintro e w1 ⟨rfl, rfl⟩
  go_wp2_with (fail)
  refine (H4.out _).mono ?_
  rintro e w1 ⟨rfl, rfl⟩
  go_wp2_with (fail)
  refine (H5.out _).mono ?_
  rintro e w1 ⟨rfl, rfl⟩
  go_wp2
  go_ret
  exact ⟨by rw [← H.out]; rfl, rfl⟩
end Go.Proofs.Ytccneonplpmiaaa
