/- The walk over droverlaw03.DrawNone: a draw that no call made draws as one of seed 0. -/
import Derived.Test.YtccneonplpmiaaaLives3
namespace Go.Proofs.Ytccneonplpmiaaa
open Go.RowKit

theorem keyOf_zero : keyOf 0 = 0 := by decide
theorem other_of {T : TypeId} {w w' : World} {g h k c : Nat} (hd : DrawAt T w g k c) (hg : w.grownBy w' (some h)) (hne : g ≠ h) : DrawAt T w' g k c :=
  hd.other hg (fun e => hne (Option.some.inj e))

/-- Two calls of Below that draw the same. -/
def Same2 (g h : Nat) (n : Int) (w : World) (r : Int) : Prop :=
  Calls Try.prog 18 #[.pointer (some ⟨g, 0, none⟩), .int .i64 n] w fun e w1 => e = .returned (.int .i64 r) ∧ w.grownBy w1 (some g) ∧
    Calls Try.prog 18 #[.pointer (some ⟨h, 0, none⟩), .int .i64 n] w1 fun e w2 => e = .returned (.int .i64 r) ∧ w1.grownBy w2 (some h)
theorem same2 (g h : Nat) (n : Int) (w : World) (k : Nat) (hk : k < 4294967296) (hn2 : n < 9223372036854775808) (h1 : DrawAt 43 w g k 0) (h2 : DrawAt 43 w h k 0) (hne : h ≠ g) :
    ∃ r, Hid (Same2 g h n w r) := by
  by_cases hn : 1 ≤ n
  · exact ⟨((raw k 0 : Nat) : Int) % n, (below_yes g k 0 n w h1 hk (by decide) hn hn2).mono fun e w1 ⟨he, a1, a2⟩ => ⟨he, a2, (below_yes h k 0 n w1 (other_of h2 a2 hne) hk (by decide) hn hn2).mono fun e w2 ⟨he2, b1, b2⟩ => ⟨he2, b2⟩⟩⟩
  · exact ⟨0, (below_no g n w hn).mono fun e w1 ⟨he, a1⟩ => ⟨he, by subst a1; exact World.grownBy.refl _ _, (below_no h n w1 hn).mono fun e w2 ⟨he2, b1⟩ => ⟨he2, by subst b1; exact World.grownBy.refl _ _⟩⟩⟩

set_option maxHeartbeats 1000000 in
set_option maxRecDepth 100000 in
theorem law_none (n : Int) (w : World) (_ : -9223372036854775808 ≤ n) (hn2 : n < 9223372036854775808) :
    Calls Try.prog 7 #[.int .i64 n] w fun e w' => e = .returned (.bool true) ∧ Below w.heap.size w w' := by
  have HN := hide hn2
  clear hn2
  go_enter Try.func7, Try.ntmps7
  go_wp2_with (fail)
  obtain ⟨w0, hw0⟩ : ∃ w0, w0 = (w.alloc (.cells #[.int .u32 0, .int .i64 0] 43)).alloc (.cells #[.int .u32 0, .int .i64 0] 43) := ⟨_, rfl⟩
  rw [← hw0]
  have b0 : Below w.heap.size w w0 := by rw [hw0]; exact ((Below.refl _ _).alloc (Nat.le_refl _) _).alloc (by simp) _
  have s0 : w0.heap.size = w.heap.size + 2 := by rw [hw0]; simp
  have z0 : DrawAt 43 w0 w.heap.size 0 0 := by
    rw [hw0]
    exact DrawAt.kept (w := w.alloc (.cells #[.int .u32 0, .int .i64 0] 43)) (heap_alloc_new _ _) (Below.heap_alloc _ _ _ (by simp))
  have y0 : DrawAt 43 w0 (w.heap.size + 1) 0 0 := by
    have h := heap_alloc_new (w.alloc (.cells #[.int .u32 0, .int .i64 0] 43)) (.cells #[.int .u32 0, .int .i64 0] 43)
    rw [show (w.alloc (.cells #[.int .u32 0, .int .i64 0] 43)).heap.size = w.heap.size + 1 by simp] at h
    rw [hw0]
    exact h
  obtain ⟨G, hG⟩ : ∃ G, G = w.heap.size := ⟨_, rfl⟩
  rw [← hG] at b0 s0 z0 y0
  have B0 := hide b0
  have Z0 := hide z0
  have Y0 := hide y0
  have EG := hide hG
  have S0 := hide s0
  clear b0 z0 y0 hw0 s0
  refine (new_any 0 w0 (by decide)).mono ?_
  rintro e w1 ⟨a, rfl, ha, da, la⟩
  rw [keyOf_zero] at da
  have HA := hide ha
  have DA := hide da
  have LA := hide (show Below w0.heap.size w0 w1 from la)
  clear ha da la
  go_wp2_with (fail)
  refine (new_any 0 w1 (by decide)).mono ?_
  rintro e w2 ⟨b, rfl, hb, db, lb⟩
  rw [keyOf_zero] at db
  have HB := hide hb
  have DB := hide db
  have LB := hide (show Below w1.heap.size w1 w2 from lb)
  clear hb db lb
  have Z2 : Hid (DrawAt 43 w2 G 0 0) := (Z0.out.later LA.out).later LB.out
  have Y2 : Hid (DrawAt 43 w2 (G + 1) 0 0) := (Y0.out.later LA.out).later LB.out
  have A2 : Hid (DrawAt 43 w2 a 0 0) := DA.out.later LB.out
  have N : Hid (G + 2 ≤ a ∧ a < b ∧ G + 2 ≤ w2.heap.size) := by
    have h1 := HA.out
    have h2 := HB.out
    have h3 := DA.out.lt
    have h4 := S0.out
    have h5 := LA.out.size
    have h6 := LB.out.size
    exact ⟨by omega, by omega, by omega⟩
  have B2 : Hid (Below G w w2) := (B0.out.trans (LA.out.mono (by have := S0.out; omega))).trans (LB.out.mono (by have := S0.out; have := LA.out.size; omega))
  have C1 := hide (nonce_any G 0 0 w2 Z2.out (by decide) (by decide))
  have r1 := raw_lt 0 0
  have r2 := raw_lt 0 1
  obtain ⟨x1, hx1⟩ : ∃ x, x = raw 0 0 := ⟨_, rfl⟩
  rw [← hx1] at C1 r1
  go_wp2_with (fail)
  rw [← hG]
  refine C1.out.mono ?_
  rintro e w3 ⟨rfl, h1, h2⟩
  have Z3 := hide h1
  have G3 := hide h2
  clear h1 h2
  have A3 : Hid (DrawAt 43 w3 a 0 0) := other_of A2.out G3.out (by have := N.out; omega)
  have C2 := hide (nonce_any a 0 0 w3 A3.out (by decide) (by decide))
  rw [← hx1] at C2
  clear hx1
  go_wp2_with (fail)
  refine C2.out.mono ?_
  rintro e w4 ⟨rfl, h1, h2⟩
  have A4 := hide h1
  have G4 := hide h2
  clear h1 h2
  have Z4 : Hid (DrawAt 43 w4 G 0 1) := other_of Z3.out G4.out (by have := N.out; omega)
  have Y4 : Hid (DrawAt 43 w4 (G + 1) 0 0) := other_of (other_of Y2.out G3.out (by omega)) G4.out (by have := N.out; omega)
  have D4 : Hid (DrawAt 43 w4 b 0 0) := other_of (other_of DB.out G3.out (by have := N.out; omega)) G4.out (by have := N.out; omega)
  obtain ⟨r, C3⟩ := same2 (G + 1) b n w4 0 (by decide) HN.out Y4.out D4.out (by have := N.out; omega)
  go_wp2_with (fail)
  rw [← hG]
  refine C3.out.mono ?_
  rintro e w5 ⟨rfl, h1, h2⟩
  have G5 := hide h1
  have C4 := hide h2
  clear h1 h2
  go_wp2_with (fail)
  refine C4.out.mono ?_
  rintro e w6 ⟨rfl, h1⟩
  have G6 := hide h1
  clear h1
  have Z6 : Hid (DrawAt 43 w6 G 0 1) := other_of (other_of Z4.out G5.out (by omega)) G6.out (by have := N.out; omega)
  have A6 : Hid (DrawAt 43 w6 a 0 1) := other_of (other_of A4.out G5.out (by have := N.out; omega)) G6.out (by have := N.out; omega)
  obtain ⟨x2, hx2⟩ : ∃ x, x = raw 0 1 := ⟨_, rfl⟩
  rw [← hx2] at r2
  have C5 := hide (nonce_any G 0 1 w6 Z6.out (by decide) (by decide))
  rw [← hx2] at C5
  go_wp2_with (fail)
  rw [← hG]
  refine C5.out.mono ?_
  rintro e w7 ⟨rfl, h1, h2⟩
  have Z7 := hide h1
  have G7 := hide h2
  clear h1 h2
  have C6 := hide (nonce_any a 0 1 w7 (other_of A6.out G7.out (by have := N.out; omega)) (by decide) (by decide))
  rw [← hx2] at C6
  clear hx2
  go_wp2_with (fail)
  refine C6.out.mono ?_
  rintro e w8 ⟨rfl, _, h2⟩
  have G8 := hide h2
  clear h2
  have C7 := hide (count_any G 0 2 w8 (other_of Z7.out G8.out (by have := N.out; omega)))
  go_wp2_with (fail)
  rw [← hG]
  refine C7.out.mono ?_
  rintro e w9 ⟨rfl, rfl⟩
  go_wp2_with (fail)
  refine (lives_any _).mono ?_
  rintro e w9 ⟨rfl, h⟩
  have B9 := hide h
  clear h
  go_wp2
  go_ret
  refine ⟨rfl, ?_⟩
  have n0 := N.out
  have n3 := G3.out.size
  have n4 := G4.out.size
  have n5 := G5.out.size
  have n6 := G6.out.size
  have n7 := G7.out.size
  have n8 := G8.out.size
  rw [← hG]
  exact (((((((B2.out.trans (below_grown G3.out (by omega) (by omega))).trans (below_grown G4.out (by omega) (by omega))).trans (below_grown G5.out (by omega) (by omega))).trans (below_grown G6.out (by omega) (by omega))).trans (below_grown G7.out (by omega) (by omega))).trans (below_grown G8.out (by omega) (by omega))).trans (B9.out.mono (by omega)))
end Go.Proofs.Ytccneonplpmiaaa
