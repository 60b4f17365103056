/- The walks over droverlaw03.lives (the document's examples) and DrawMixes: any number stirred, and back. -/
import Derived.Test.YtccneonplpmiaaaObj
namespace Go.Proofs.Ytccneonplpmiaaa
open Go.RowKit

/-- Both ways, at one number. -/
def StirAt (x m : Nat) : Prop := (∀ w : World, Calls Try.prog 9 #[.int .u32 (x : Int)] w fun e w' => e = .returned (.int .u32 (m : Int)) ∧ w = w') ∧
  (∀ w : World, Calls Try.prog 11 #[.int .u32 (m : Int)] w fun e w' => e = .returned (.int .u32 (x : Int)) ∧ w = w')
theorem stir_at {x : Nat} (h : x < 4294967296) : ∃ m, m < 4294967296 ∧ m = mix x ∧ Hid (StirAt x m) :=
  ⟨mix x, mix_lt _, rfl, fun w => mix_any x w h, fun w => by
    have := unmix_any (mix x) w (mix_lt _)
    rw [unmix_mix h] at this
    exact this⟩
theorem stir_back {y : Nat} (h : y < 4294967296) : ∃ m, m < 4294967296 ∧ m = unmix y ∧ Hid (StirAt m y) :=
  ⟨unmix y, unmix_lt _, rfl, fun w => by
    have := mix_any (unmix y) w (unmix_lt _)
    rw [mix_unmix h] at this
    exact this, fun w => unmix_any y w h⟩

set_option maxHeartbeats 400000 in
theorem lives_any (w : World) : Calls Try.prog 13 #[] w fun e w' => e = .returned (.bool true) ∧ Below w.heap.size w w' := by
  obtain ⟨m1, l1, h1, H1⟩ := stir_at (x := 12345) (by decide)
  obtain ⟨m2, l2, h2, H2⟩ := stir_at (x := 4294967295) (by decide)
  clear h1 h2
  go_enter Try.func13, Try.ntmps13
  go_wp2_with (fail)
  refine (H1.out.1 _).mono ?_
  rintro e w1 ⟨rfl, rfl⟩
  go_wp2_with (fail)
  refine (H1.out.2 _).mono ?_
  rintro e w1 ⟨rfl, rfl⟩
  go_wp2_with (fail)
  refine (H2.out.1 _).mono ?_
  rintro e w1 ⟨rfl, rfl⟩
  go_wp2_with (fail)
  refine (H2.out.2 _).mono ?_
  rintro e w1 ⟨rfl, rfl⟩
  go_wp2_with (fail)
  refine (new_any 1 _ (by decide)).mono ?_
  rintro e w1 ⟨g, rfl, hg, hd, hl⟩
  have HL := hide hl
  have HG := hide hg
  have HD := hide hd
  have hr := raw_lt (keyOf 1) 0
  clear hl hg hd
  go_wp2_with (fail)
  refine (nonce_any g _ 0 w1 HD.out (keyOf_lt (by decide)) (by decide)).mono ?_
  rintro e w2 ⟨rfl, h1, h2⟩
  have HW := hide h2
  clear h1 h2
  have hpos : decide ((0 : Int) < ((raw (keyOf 1) 0 : Nat) : Int) + 1) = true := by simp only [decide_eq_true_eq]; omega
  go_wp2
  go_ret
  exact ⟨rfl, Below.trans (show Below w.heap.size w w1 from HL.out) (below_grown HW.out HG.out HL.out.size)⟩

set_option maxHeartbeats 400000 in
theorem law_mixes (x : Nat) (w : World) (hx : x < 4294967296) :
    Calls Try.prog 3 #[.int .u32 x] w fun e w' => e = .returned (.bool true) ∧ Below w.heap.size w w' := by
  obtain ⟨m1, l1, h1, H1⟩ := stir_at hx
  obtain ⟨m2, l2, h2, H2⟩ := stir_back hx
  have R1 : Hid (∀ w : World, Calls Try.prog 10 #[.int .u32 (x : Int)] w fun e w' => e = .returned (.int .u32 (m1 : Int)) ∧ w = w') := fun w => by rw [h1]; exact refmix_any x w hx
  have R2 : Hid (∀ w : World, Calls Try.prog 12 #[.int .u32 (x : Int)] w fun e w' => e = .returned (.int .u32 (m2 : Int)) ∧ w = w') := fun w => by rw [h2]; exact refunmix_any x w hx
  clear h1 h2
  go_enter Try.func3, Try.ntmps3
  go_wp2_with (fail)
  refine (H1.out.1 _).mono ?_
  rintro e w1 ⟨rfl, rfl⟩
  go_wp2_with (fail)
  refine (R1.out _).mono ?_
  rintro e w1 ⟨rfl, rfl⟩
  go_wp2_with (fail)
  refine (H2.out.2 _).mono ?_
  rintro e w1 ⟨rfl, rfl⟩
  go_wp2_with (fail)
  refine (R2.out _).mono ?_
  rintro e w1 ⟨rfl, rfl⟩
  go_wp2_with (fail)
  refine (H1.out.1 _).mono ?_
  rintro e w1 ⟨rfl, rfl⟩
  go_wp2_with (fail)
  refine (H1.out.2 _).mono ?_
  rintro e w1 ⟨rfl, rfl⟩
  go_wp2_with (fail)
  refine (H2.out.2 _).mono ?_
  rintro e w1 ⟨rfl, rfl⟩
  go_wp2_with (fail)
  refine (H2.out.1 _).mono ?_
  rintro e w1 ⟨rfl, rfl⟩
  go_wp2_with (fail)
  refine (lives_any _).mono ?_
  rintro e w1 ⟨rfl, b⟩
  go_wp2
  go_ret
  exact ⟨rfl, b⟩
end Go.Proofs.Ytccneonplpmiaaa
