/- The walk over droverlaw01.FieldUints: numbers in bytes are the document's. -/
import Derived.Test.YtjfcakpglbpeaaaRefNum
import Derived.Test.YtjfcakpglbpeaaaNumbers
import Derived.Test.YtjfcakpglbpeaaaOrder
namespace Go.Proofs.Ytjfcakpglbpeaaa
open Go.RowKit

theorem refgetuint_is (A : Option Addr) (n c B : Nat) (l : List Nat) (x k : Nat) (y : Nat) (w : World) (hl : Holds w B A n l) (hn : n ≤ 1099511627000) (h : num l 0 0 = (x, k, y)) :
    Calls Try.prog 11 #[.slice A n c] w fun e w' => e = .returned (.tuple #[.int .u64 x, .int .i64 k]) ∧ w = w' :=
  (refgetuint_any A n c B l w hl hn).mono fun e w' ⟨he, hw⟩ => ⟨by rw [he, h], hw⟩
theorem zig_is (n : Int) (z : Nat) (w : World) (h1 : -9223372036854775808 ≤ n) (h2 : n < 9223372036854775808) (h : zig n = z) :
    Calls Try.prog 14 #[.int .i64 n] w fun e w' => e = .returned (.int .u64 z) ∧ w = w' :=
  (zig_any n w h1 h2).mono fun e w' ⟨he, hw⟩ => ⟨by rw [he, h], hw⟩
theorem refzig_is (n : Int) (z : Nat) (w : World) (h1 : -9223372036854775808 ≤ n) (h2 : n < 9223372036854775808) (h : zig n = z) :
    Calls Try.prog 15 #[.int .i64 n] w fun e w' => e = .returned (.int .u64 z) ∧ w = w' :=
  (refzig_any n w h1 h2).mono fun e w' ⟨he, hw⟩ => ⟨by rw [he, h], hw⟩
theorem zag_is (v : Nat) (z : Int) (w : World) (h1 : v < 18446744073709551616) (h : zag v = z) :
    Calls Try.prog 16 #[.int .u64 v] w fun e w' => e = .returned (.int .i64 z) ∧ w = w' :=
  (zag_any v w h1).mono fun e w' ⟨he, hw⟩ => ⟨by rw [he, h], hw⟩
theorem refzag_is (v : Nat) (z : Int) (w : World) (h1 : v < 18446744073709551616) (h : zag v = z) :
    Calls Try.prog 17 #[.int .u64 v] w fun e w' => e = .returned (.int .i64 z) ∧ w = w' :=
  (refzag_any v w h1).mono fun e w' ⟨he, hw⟩ => ⟨by rw [he, h], hw⟩

set_option maxHeartbeats 800000 in
set_option maxRecDepth 100000 in
theorem uints_any (A : Option Addr) (n c : Nat) (l : List Nat) (V : Nat) (x : Int) (w : World) (hl : Holds w w.heap.size A n l) (hn : n ≤ maxLen)
    (hV : V < 18446744073709551616) (hx1 : -9223372036854775808 ≤ x) (hx2 : x < 9223372036854775808) :
    Calls Try.prog 3 #[.slice A n c, .int .u64 V, .int .i64 x] w fun e w' => e = .returned (.bool true) ∧ Below w.heap.size w w' := by
  unfold maxLen at hn
  have HV := hide hV
  have H1 := hide hx1
  have H2 := hide hx2
  have HL := hide hl
  clear hV hx1 hx2 hl
  by_cases hlong : 5000 < n
  · go_enter Try.func3, Try.ntmps3
    go_wp2_with (go_at_call 9; refine (lives_any _).mono ?_; rintro e w2 ⟨rfl, b2⟩)
    go_ret
    exact ⟨rfl, b2⟩
  · obtain ⟨p, k, y, hnum⟩ : ∃ p k y, num l 0 0 = (p, k, y) := ⟨_, _, _, rfl⟩
    have HN := hide hnum
    obtain ⟨z, hz⟩ : ∃ z, zig x = z := ⟨_, rfl⟩
    have HZ := hide hz
    obtain ⟨g, hg⟩ : ∃ g, zag V = g := ⟨_, rfl⟩
    have HG := hide hg
    obtain ⟨L, hL⟩ : ∃ L, l ++ enc V = L := ⟨_, rfl⟩
    have e1 : ((p : Int) == (p : Int)) = true := by simp
    have e2 : ((k : Int) == (k : Int)) = true := by simp
    have e3 : ((z : Int) == (z : Int)) = true := by simp
    have e4 : (g == g) = true := by simp
    obtain ⟨SL, hSL⟩ : ∃ s : ByteArray, str L = s := ⟨_, rfl⟩
    have HS := hide hSL
    clear hSL
    have e5 : (SL.toList == SL.toList) = true := by simp
    have U1 := hide (fun w' hw => uint_new A n c V l w.heap.size w' HV.out (by omega) hw)
    have U2 := hide (fun w' hw => refuint_any A n c V l w.heap.size w' HV.out (by omega) hw)
    rw [hL] at U1 U2
    clear hnum hz hg hL
    go_enter Try.func3, Try.ntmps3
    go_wp2_with (first
      | (go_at_call 10; refine (getuint_is A n c _ _ p k y _ HL.out (by omega) HN.out).mono ?_; rintro e w1 ⟨rfl, rfl⟩)
      | (go_at_call 11; refine (refgetuint_is A n c _ _ p k y _ HL.out (by omega) HN.out).mono ?_; rintro e w1 ⟨rfl, rfl⟩))
    refine wp_region_L (by kernel_rfl) ?_
    refine wpAnyL_take (i := 0) (d := some 25) (v := ?va0) rfl rfl (by kernel_rfl) (by kernel_rfl) (by kernel_rfl) (fun _ _ _ h => h) (by rfl) ?ya0 ?_
    case ya0 => (intro w' hw'; go_simp; try (with_reducible rfl))
    simp only [Act.put, List.setIfInBounds_toArray, List.set_cons_zero, List.set_cons_succ]
    refine wpAnyL_take (i := 1) (d := some 26) (v := ?va1) rfl rfl (by kernel_rfl) (by kernel_rfl) (by kernel_rfl) (fun _ _ _ h => h) (by rfl) ?ya1 ?_
    case ya1 => (intro w' hw'; go_simp; try (with_reducible rfl))
    simp only [Act.put, List.setIfInBounds_toArray, List.set_cons_zero, List.set_cons_succ]
    refine wpAnyL_take (i := 4) (d := some 29) (v := ?va4) rfl rfl (by kernel_rfl) (by kernel_rfl) (by kernel_rfl) (fun _ _ _ h => h) (by rfl) ?ya4 ?_
    case ya4 => (intro w' hw'; go_simp; try (with_reducible rfl))
    simp only [Act.put, List.setIfInBounds_toArray, List.set_cons_zero, List.set_cons_succ]
    refine wpAnyL_take (i := 5) (d := some 30) (v := ?va5) rfl rfl (by kernel_rfl) (by kernel_rfl) (by kernel_rfl) (fun _ _ _ h => h) (by rfl) ?ya5 ?_
    case ya5 => (intro w' hw'; go_simp; try (with_reducible rfl))
    simp only [Act.put, List.setIfInBounds_toArray, List.set_cons_zero, List.set_cons_succ]
    refine wpAnyL_only (i := 2) rfl (by kernel_rfl) (by rfl) fun K hK => ?_
    go_simp
    refine (U1.out w.drew HL.out.drew (Nat.le_refl _)).mono ?_
    rintro e w1 ⟨A1, n1, c1, rfl, _, h1, _, b1⟩
    have Hh1 := hide h1
    have B1 := hide (show Later w.drew w1 from b1)
    have L1 := hide ((Later.drew w).trans b1)
    clear h1 b1
    refine hK.out _ _ B1.out ?_
    clear hK K
    try simp only [Act.put, List.setIfInBounds_toArray, List.set_cons_zero, List.set_cons_succ]
    refine wpAnyL_take (i := 3) (d := some 28) (v := ?va3) rfl rfl (by kernel_rfl) (by kernel_rfl) (by kernel_rfl) (fun _ _ _ h => h) (by rfl) ?ya3 ?_
    case ya3 => (intro w' hw'; have hc := run_str w' _ A1 n1 c1 _ (Hh1.out.below hw'); rw [HS.out] at hc; go_simp; try (with_reducible rfl))
    simp only [Act.put, List.setIfInBounds_toArray, List.set_cons_zero, List.set_cons_succ]
    refine wpAnyL_only (i := 6) rfl (by kernel_rfl) (by rfl) fun K hK => ?_
    go_simp
    refine (U2.out _ (HL.out.below L1.out) L1.out.size).mono ?_
    rintro e w2 ⟨A2, n2, c2, rfl, _, h2, _, b2⟩
    have Hh2 := hide h2
    have B2 := hide (show Later w1 w2 from b2)
    clear h2 b2
    refine hK.out _ _ B2.out ?_
    clear hK K
    try simp only [Act.put, List.setIfInBounds_toArray, List.set_cons_zero, List.set_cons_succ]
    refine wpAnyL_take (i := 7) (d := some 32) (v := ?va7) rfl rfl (by kernel_rfl) (by kernel_rfl) (by kernel_rfl) (fun _ _ _ h => h) (by rfl) ?ya7 ?_
    case ya7 => (intro w' hw'; have hc := run_str w' _ A2 n2 c2 _ (Hh2.out.below hw'); rw [HS.out] at hc; go_simp; try (with_reducible rfl))
    simp only [Act.put, List.setIfInBounds_toArray, List.set_cons_zero, List.set_cons_succ]
    refine wpAnyL_take (i := 8) (d := some 33) (v := ?va8) rfl rfl (by kernel_rfl) (by kernel_rfl) (by kernel_rfl) (fun _ _ _ h => h) (by rfl) ?ya8 ?_
    case ya8 => (intro w' hw'; go_simp; try (with_reducible rfl))
    simp only [Act.put, List.setIfInBounds_toArray, List.set_cons_zero, List.set_cons_succ]
    refine wpAnyL_take (i := 9) (d := some 34) (v := ?va9) rfl rfl (by kernel_rfl) (by kernel_rfl) (by kernel_rfl) (fun _ _ _ h => h) (by rfl) ?ya9 ?_
    case ya9 => (intro w' hw'; go_simp; try (with_reducible rfl))
    simp only [Act.put, List.setIfInBounds_toArray, List.set_cons_zero, List.set_cons_succ]
    refine wpAnyL_take (i := 10) (d := some 35) (v := ?va10) rfl rfl (by kernel_rfl) (by kernel_rfl) (by kernel_rfl) (fun _ _ _ h => h) (by rfl) ?ya10 ?_
    case ya10 => (intro w' hw'; go_simp; try (with_reducible rfl))
    simp only [Act.put, List.setIfInBounds_toArray, List.set_cons_zero, List.set_cons_succ]
    refine wpAnyL_take (i := 11) (d := some 36) (v := ?va11) rfl rfl (by kernel_rfl) (by kernel_rfl) (by kernel_rfl) (fun _ _ _ h => h) (by rfl) ?ya11 ?_
    case ya11 => (intro w' hw'; go_simp; try (with_reducible rfl))
    simp only [Act.put, List.setIfInBounds_toArray, List.set_cons_zero, List.set_cons_succ]
    refine wpAnyL_take (i := 12) (d := some 37) (v := ?va12) rfl rfl (by kernel_rfl) (by kernel_rfl) (by kernel_rfl) (fun _ _ _ h => h) (by rfl) ?ya12 ?_
    case ya12 => (intro w' hw'; go_simp; try (with_reducible rfl))
    simp only [Act.put, List.setIfInBounds_toArray, List.set_cons_zero, List.set_cons_succ]
    refine wpAnyL_take (i := 13) (d := some 38) (v := ?va13) rfl rfl (by kernel_rfl) (by kernel_rfl) (by kernel_rfl) (fun _ _ _ h => h) (by rfl) ?ya13 ?_
    case ya13 => (intro w' hw'; go_simp; try (with_reducible rfl))
    simp only [Act.put, List.setIfInBounds_toArray, List.set_cons_zero, List.set_cons_succ]
    refine wpAnyL_take (i := 14) (d := some 39) (v := ?va14) rfl rfl (by kernel_rfl) (by kernel_rfl) (by kernel_rfl) (fun _ _ _ h => h) (by rfl) ?ya14 ?_
    case ya14 => (intro w' hw'; go_simp; try (with_reducible rfl))
    simp only [Act.put, List.setIfInBounds_toArray, List.set_cons_zero, List.set_cons_succ]
    refine wpAnyL_take (i := 15) (d := some 40) (v := ?va15) rfl rfl (by kernel_rfl) (by kernel_rfl) (by kernel_rfl) (fun _ _ _ h => h) (by rfl) ?ya15 ?_
    case ya15 => (intro w' hw'; go_simp; try (with_reducible rfl))
    simp only [Act.put, List.setIfInBounds_toArray, List.set_cons_zero, List.set_cons_succ]
    refine wpAnyL_take (i := 16) (d := some 41) (v := ?va16) rfl rfl (by kernel_rfl) (by kernel_rfl) (by kernel_rfl) (fun _ _ _ h => h) (by rfl) ?ya16 ?_
    case ya16 => (intro w' hw'; go_simp; try (with_reducible rfl))
    simp only [Act.put, List.setIfInBounds_toArray, List.set_cons_zero, List.set_cons_succ]
    refine wpAnyL_take (i := 17) (d := some 42) (v := ?va17) rfl rfl (by kernel_rfl) (by kernel_rfl) (by kernel_rfl) (fun _ _ _ h => h) (by rfl) ?ya17 ?_
    case ya17 => (intro w' hw'; go_simp; try (with_reducible rfl))
    simp only [Act.put, List.setIfInBounds_toArray, List.set_cons_zero, List.set_cons_succ]
    refine wpAnyL_take (i := 18) (d := some 43) (v := ?va18) rfl rfl (by kernel_rfl) (by kernel_rfl) (by kernel_rfl) (fun _ _ _ h => h) (by rfl) ?ya18 ?_
    case ya18 => (intro w' hw'; go_simp; try (with_reducible rfl))
    simp only [Act.put, List.setIfInBounds_toArray, List.set_cons_zero, List.set_cons_succ]
    refine wpAnyL_take (i := 19) (d := some 44) (v := ?va19) rfl rfl (by kernel_rfl) (by kernel_rfl) (by kernel_rfl) (fun _ _ _ h => h) (by rfl) ?ya19 ?_
    case ya19 => (intro w' hw'; go_simp; try (with_reducible rfl))
    simp only [Act.put, List.setIfInBounds_toArray, List.set_cons_zero, List.set_cons_succ]
    refine wpAnyL_take (i := 20) (d := some 45) (v := ?va20) rfl rfl (by kernel_rfl) (by kernel_rfl) (by kernel_rfl) (fun _ _ _ h => h) (by rfl) ?ya20 ?_
    case ya20 => (intro w' hw'; go_simp; try (with_reducible rfl))
    simp only [Act.put, List.setIfInBounds_toArray, List.set_cons_zero, List.set_cons_succ]
    refine wpAnyL_take (i := 22) (d := some 47) (v := ?va22) rfl rfl (by kernel_rfl) (by kernel_rfl) (by kernel_rfl) (fun _ _ _ h => h) (by rfl) ?ya22 ?_
    case ya22 => (intro w' hw'; go_simp; try (with_reducible rfl))
    simp only [Act.put, List.setIfInBounds_toArray, List.set_cons_zero, List.set_cons_succ]
    refine wpAnyL_only (i := 21) rfl (by kernel_rfl) (by rfl) fun K hK => ?_
    go_simp
    refine (zig_is x z _ H1.out H2.out HZ.out).mono ?_
    rintro e w3 ⟨rfl, rfl⟩
    refine hK.out _ _ (Later.refl _) ?_
    clear hK K
    try simp only [Act.put, List.setIfInBounds_toArray, List.set_cons_zero, List.set_cons_succ]
    refine wpAnyL_only (i := 23) rfl (by kernel_rfl) (by rfl) fun K hK => ?_
    go_simp
    refine (refzig_is x z _ H1.out H2.out HZ.out).mono ?_
    rintro e w3 ⟨rfl, rfl⟩
    refine hK.out _ _ (Later.refl _) ?_
    clear hK K
    try simp only [Act.put, List.setIfInBounds_toArray, List.set_cons_zero, List.set_cons_succ]
    refine wpAnyL_take (i := 24) (d := some 49) (v := ?va24) rfl rfl (by kernel_rfl) (by kernel_rfl) (by kernel_rfl) (fun _ _ _ h => h) (by rfl) ?ya24 ?_
    case ya24 => (intro w' hw'; go_simp; try (with_reducible rfl))
    simp only [Act.put, List.setIfInBounds_toArray, List.set_cons_zero, List.set_cons_succ]
    refine wpAnyL_take (i := 25) (d := some 50) (v := ?va25) rfl rfl (by kernel_rfl) (by kernel_rfl) (by kernel_rfl) (fun _ _ _ h => h) (by rfl) ?ya25 ?_
    case ya25 => (intro w' hw'; go_simp; try (with_reducible rfl))
    simp only [Act.put, List.setIfInBounds_toArray, List.set_cons_zero, List.set_cons_succ]
    refine wpAnyL_take (i := 26) (d := some 51) (v := ?va26) rfl rfl (by kernel_rfl) (by kernel_rfl) (by kernel_rfl) (fun _ _ _ h => h) (by rfl) ?ya26 ?_
    case ya26 => (intro w' hw'; go_simp; try (with_reducible rfl))
    simp only [Act.put, List.setIfInBounds_toArray, List.set_cons_zero, List.set_cons_succ]
    refine wpAnyL_take (i := 27) (d := some 52) (v := ?va27) rfl rfl (by kernel_rfl) (by kernel_rfl) (by kernel_rfl) (fun _ _ _ h => h) (by rfl) ?ya27 ?_
    case ya27 => (intro w' hw'; go_simp; try (with_reducible rfl))
    simp only [Act.put, List.setIfInBounds_toArray, List.set_cons_zero, List.set_cons_succ]
    refine wpAnyL_take (i := 29) (d := some 54) (v := ?va29) rfl rfl (by kernel_rfl) (by kernel_rfl) (by kernel_rfl) (fun _ _ _ h => h) (by rfl) ?ya29 ?_
    case ya29 => (intro w' hw'; go_simp; try (with_reducible rfl))
    simp only [Act.put, List.setIfInBounds_toArray, List.set_cons_zero, List.set_cons_succ]
    refine wpAnyL_only (i := 28) rfl (by kernel_rfl) (by rfl) fun K hK => ?_
    go_simp
    refine (zag_is V g _ HV.out HG.out).mono ?_
    rintro e w3 ⟨rfl, rfl⟩
    refine hK.out _ _ (Later.refl _) ?_
    clear hK K
    try simp only [Act.put, List.setIfInBounds_toArray, List.set_cons_zero, List.set_cons_succ]
    refine wpAnyL_only (i := 30) rfl (by kernel_rfl) (by rfl) fun K hK => ?_
    go_simp
    refine (refzag_is V g _ HV.out HG.out).mono ?_
    rintro e w3 ⟨rfl, rfl⟩
    refine hK.out _ _ (Later.refl _) ?_
    clear hK K
    try simp only [Act.put, List.setIfInBounds_toArray, List.set_cons_zero, List.set_cons_succ]
    refine wpAnyL_take (i := 31) (d := some 56) (v := ?va31) rfl rfl (by kernel_rfl) (by kernel_rfl) (by kernel_rfl) (fun _ _ _ h => h) (by rfl) ?ya31 ?_
    case ya31 => (intro w' hw'; go_simp; try (with_reducible rfl))
    simp only [Act.put, List.setIfInBounds_toArray, List.set_cons_zero, List.set_cons_succ]
    refine wpAnyL_take (i := 32) (d := some 57) (v := ?va32) rfl rfl (by kernel_rfl) (by kernel_rfl) (by kernel_rfl) (fun _ _ _ h => h) (by rfl) ?ya32 ?_
    case ya32 => (intro w' hw'; go_simp; try (with_reducible rfl))
    simp only [Act.put, List.setIfInBounds_toArray, List.set_cons_zero, List.set_cons_succ]
    refine wpAnyL_take (i := 33) (d := some 58) (v := ?va33) rfl rfl (by kernel_rfl) (by kernel_rfl) (by kernel_rfl) (fun _ _ _ h => h) (by rfl) ?ya33 ?_
    case ya33 => (intro w' hw'; go_simp; try (with_reducible rfl))
    simp only [Act.put, List.setIfInBounds_toArray, List.set_cons_zero, List.set_cons_succ]
    refine wpAnyL_only (i := 34) rfl (by kernel_rfl) (by rfl) fun K hK => ?_
    go_simp
    refine (lives_any _).mono ?_
    rintro e w3 ⟨rfl, b3⟩
    have B3 := hide (show Later w2 w3 from b3)
    clear b3
    refine hK.out _ _ B3.out ?_
    clear hK K
    try simp only [Act.put, List.setIfInBounds_toArray, List.set_cons_zero, List.set_cons_succ]
    refine wpAnyL_take (i := 35) (d := some 60) (v := ?va35) rfl rfl (by kernel_rfl) (by kernel_rfl) (by kernel_rfl) (fun _ _ _ h => h) (by rfl) ?ya35 ?_
    case ya35 => (intro w' hw'; go_simp; try (with_reducible rfl))
    simp only [Act.put, List.setIfInBounds_toArray, List.set_cons_zero, List.set_cons_succ]
    refine wpAnyL_take (i := 36) (d := some 6) (v := ?va36) rfl rfl (by kernel_rfl) (by kernel_rfl) (by kernel_rfl) (fun _ _ _ h => h) (by rfl) ?ya36 ?_
    case ya36 => (intro w' hw'; go_simp; try (with_reducible rfl))
    simp only [Act.put, List.setIfInBounds_toArray, List.set_cons_zero, List.set_cons_succ]
    refine wpAnyL_done (by kernel_rfl) ?_ _
    go_wp2
    go_ret
    exact ⟨rfl, (L1.out.trans B2.out).trans B3.out⟩
end Go.Proofs.Ytjfcakpglbpeaaa
