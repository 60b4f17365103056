/- The walks over field.Zig and field.Zag: they only reckon, and undo each other. -/
import Derived.Test.YtjfcakpglbpeaaaBits
import Derived.Test.YtjfcakpglbpeaaaRows
import Derived.Test.YtjfcakpglbpeaaaMem
import Derived.WalkLawsBesides
namespace Go.Proofs.Ytjfcakpglbpeaaa
open Go.RowKit

/-- The number without a sign. -/
def zig (n : Int) : Nat := if n < 0 then 2 * (-n - 1).toNat + 1 else 2 * n.toNat
/-- And back. -/
def zag (v : Nat) : Int := if v % 2 = 1 then -((v / 2 : Nat) : Int) - 1 else ((v / 2 : Nat) : Int)

theorem zag_zig (n : Int) : zag (zig n) = n := by
  unfold zag zig
  split <;> split <;> omega
theorem zig_zag (v : Nat) : zig (zag v) = v := by
  unfold zag zig
  split <;> split <;> omega
theorem zig_lt (n : Int) (h1 : -9223372036854775808 ≤ n) (h2 : n < 9223372036854775808) : zig n < 18446744073709551616 := by
  unfold zig
  split <;> omega
theorem zag_lt (v : Nat) (h : v < 18446744073709551616) : -9223372036854775808 ≤ zag v ∧ zag v < 9223372036854775808 := by
  unfold zag
  split <;> omega

theorem zig_neg (n : Int) (h1 : -9223372036854775808 ≤ n) (h : n < 0) : bits .or .u64 (IntKind.u64.wrap (IntKind.u64.wrap (bits .xor .i64 (-1) n) * 2)) 1 = ((zig n : Nat) : Int) := by
  rw [zig_low n h1 h]
  unfold zig
  rw [if_pos h]
theorem zig_pos (n : Int) (h : 0 ≤ n) (h2 : n < 9223372036854775808) : IntKind.u64.wrap (IntKind.u64.wrap n * 2) = ((zig n : Nat) : Int) := by
  rw [zig_high n h h2]
  unfold zig
  rw [if_neg (by omega)]
theorem zag_odd (v : Nat) (h : v < 18446744073709551616) (hz : v % 2 = 1) : bits .xor .i64 (-1) (wrap64 ((v : Int) / 2)) = zag v := by
  rw [half v h, i64_turned _ (by omega) (by omega)]
  unfold zag
  rw [if_pos hz]
theorem zag_even (v : Nat) (h : v < 18446744073709551616) (hz : ¬ v % 2 = 1) : wrap64 ((v : Int) / 2) = zag v := by
  rw [half v h]
  unfold zag
  rw [if_neg hz]

set_option maxHeartbeats 400000 in
theorem zig_any (n : Int) (w : World) (h1 : -9223372036854775808 ≤ n) (h2 : n < 9223372036854775808) :
    Calls Try.prog 14 #[.int .i64 n] w fun e w' => e = .returned (.int .u64 (zig n)) ∧ w = w' := by
  have H1 := hide h1
  have H2 := hide h2
  by_cases hneg : n < 0
  · have H := hide hneg
    clear h1 h2
    go_enter Try.func14, Try.ntmps14
    go_wp2
    go_ret
    exact ⟨ret_int (zig_neg n H1.out H.out), rfl⟩
  · have H := hide hneg
    clear h1 h2
    go_enter Try.func14, Try.ntmps14
    go_wp2
    go_ret
    exact ⟨ret_int (zig_pos n (by have := H.out; omega) H2.out), rfl⟩

set_option maxHeartbeats 400000 in
theorem zag_any (v : Nat) (w : World) (h : v < 18446744073709551616) :
    Calls Try.prog 16 #[.int .u64 v] w fun e w' => e = .returned (.int .i64 (zag v)) ∧ w = w' := by
  have hand := u64_low1 v h
  obtain ⟨b, hb⟩ : ∃ b, b = v % 2 := ⟨_, rfl⟩
  rw [← hb] at hand
  have H := hide h
  have Hb := hide hb
  clear h hb
  by_cases hz : b = 1
  · have ht : ((b : Int) == 1) = true := by simp; omega
    have Hz := hide hz
    clear hz
    go_enter Try.func16, Try.ntmps16
    go_wp2
    go_ret
    exact ⟨ret_int (zag_odd v H.out (by rw [← Hb.out]; exact Hz.out)), rfl⟩
  · have ht : ((b : Int) == 1) = false := by simp; omega
    have Hz := hide hz
    clear hz
    go_enter Try.func16, Try.ntmps16
    go_wp2
    go_ret
    exact ⟨ret_int (zag_even v H.out (by rw [← Hb.out]; exact Hz.out)), rfl⟩
end Go.Proofs.Ytjfcakpglbpeaaa
