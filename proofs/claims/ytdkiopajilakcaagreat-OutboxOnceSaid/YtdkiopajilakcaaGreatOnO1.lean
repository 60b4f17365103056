/- Whatever the view and whatever is done: of each thing that a saga wants the log is told once at most, and what is asked is wanted, with the view of the box; no condition. -/
import Derived.Test.YtdkiopajilakcaaGreatBaseO1
import Derived.Test.YtdkiopajilakcaaGreatBaseO2
import Derived.Test.YtdkiopajilakcaaGreatBaseO3
import Derived.Test.YtdkiopajilakcaaGreatBaseO4
import Derived.Test.YtdkiopajilakcaaGreatBaseO5
import Derived.Test.YtdkiopajilakcaaGreatBaseO6
import Derived.Deep.CutBlock
import Derived.Deep.DeepCutAuto
import Derived.Test.YtdkiopajilakcaaGreatRows
import Derived.ProofKit
import Derived.OpenShut
import Derived.ShutString
import Derived.ChangeOld
/- From what a row says of a message that came in to what the walks are told of it. -/
namespace Go.Proofs.YtdkiopajilakcaaGreat
open Go.ChangeShapes Go.WideShapes Go.ChangeAt Go.RowKit
section
variable {H : Type} {enc : TypeId × Value → H} {W : World}
set_option maxRecDepth 100000
theorem open_incs {n : Nat} {v : Value} {x : DataW H × List MemPlace} (h : Rdg enc W n 44 [v] x) (hs : Sm 44 x.1) : ∃ l, IncsAt (· < W.heap.size) W v l ∧ ∀ a ∈ l, I64 a := by
  obtain ⟨ys, h1, h2⟩ := open_elems (fun a : Int => [.int .i64 a]) I64 1 (by decide) (fun _ => rfl) Tryz.underlying44 (by kernel_rfl) (fun n cs x h hs => by
    obtain ⟨a, h0, _, w0⟩ := DataW.trod_int Tryz.underlying3 h
    have b0 := bounds_i64 w0
    exact ⟨a, h0, by unfold I64; omega⟩) (fun y _ u hu => by obtain rfl : u = .int .i64 y := by simpa using hu
                                                             rfl) h hs
  refine ⟨ys, ?_, h2⟩
  unfold IncsAt
  rw [List.map_eq_flatMap]
  exact h1

theorem open_reply {n : Nat} {cs : List Value} {x : DataW H × List MemPlace} (h : Rdg enc W n 40 cs x) (hs : Sm 40 x.1) :
    ∃ a b c d : Int, cs = [.int .i64 a, .int .i64 b, .int .i64 c, .int .i64 d] ∧ I64 a ∧ I64 b ∧ I64 c ∧ I64 d := by
  obtain ⟨m, hl, hf⟩ := open_fields Tryz.underlying40 h hs
  have hl : cs.length = 4 := hl
  match cs, hl with
  | [c0, c1, c2, c3], _ =>
    obtain ⟨y0, g0, s0⟩ := hf 0 _ rfl
    have g0 : Rdg enc W m 38 [c0] y0 := (congrArg (fun q => DataW.trod enc Tryz.prog W 0 (fun _ => true) true m 38 q) (show ([c0, c1, c2, c3].drop 0).take (Tryz.prog.cellsOf 38) = [c0] from by rw [show Tryz.prog.cellsOf 38 = 1 from by kernel_rfl]; rfl)).symm.trans g0
    obtain ⟨a0, e0, w0⟩ := open_int1 Tryz.underlying38 g0
    obtain ⟨y1, g1, s1⟩ := hf 1 _ rfl
    have g1 : Rdg enc W m 3 [c1] y1 := (congrArg (fun q => DataW.trod enc Tryz.prog W 0 (fun _ => true) true m 3 q) (show ([c0, c1, c2, c3].drop 1).take (Tryz.prog.cellsOf 3) = [c1] from by rw [show Tryz.prog.cellsOf 3 = 1 from by kernel_rfl]; rfl)).symm.trans g1
    obtain ⟨a1, e1, w1⟩ := open_int1 Tryz.underlying3 g1
    obtain ⟨y2, g2, s2⟩ := hf 2 _ rfl
    have g2 : Rdg enc W m 3 [c2] y2 := (congrArg (fun q => DataW.trod enc Tryz.prog W 0 (fun _ => true) true m 3 q) (show ([c0, c1, c2, c3].drop 2).take (Tryz.prog.cellsOf 3) = [c2] from by rw [show Tryz.prog.cellsOf 3 = 1 from by kernel_rfl]; rfl)).symm.trans g2
    obtain ⟨a2, e2, w2⟩ := open_int1 Tryz.underlying3 g2
    obtain ⟨y3, g3, s3⟩ := hf 3 _ rfl
    have g3 : Rdg enc W m 3 [c3] y3 := (congrArg (fun q => DataW.trod enc Tryz.prog W 0 (fun _ => true) true m 3 q) (show ([c0, c1, c2, c3].drop 3).take (Tryz.prog.cellsOf 3) = [c3] from by rw [show Tryz.prog.cellsOf 3 = 1 from by kernel_rfl]; rfl)).symm.trans g3
    obtain ⟨a3, e3, w3⟩ := open_int1 Tryz.underlying3 g3
    subst e0 e1 e2 e3
    exact ⟨a0, a1, a2, a3, rfl, w0, w1, w2, w3⟩

theorem open_command {n : Nat} {cs : List Value} {x : DataW H × List MemPlace} (h : Rdg enc W n 42 cs x) (hs : Sm 42 x.1) :
    ∃ (a b c d e : Int) (f : Bool), cs = [.int .i64 a, .int .i64 b, .int .i64 c, .int .i64 d, .int .i64 e, .bool f] ∧ I64 a ∧ I64 b ∧ I64 c ∧ I64 d ∧ I64 e := by
  obtain ⟨m, hl, hf⟩ := open_fields Tryz.underlying42 h hs
  have hl : cs.length = 6 := hl
  match cs, hl with
  | [c0, c1, c2, c3, c4, c5], _ =>
    obtain ⟨y0, g0, s0⟩ := hf 0 _ rfl
    have g0 : Rdg enc W m 3 [c0] y0 := (congrArg (fun q => DataW.trod enc Tryz.prog W 0 (fun _ => true) true m 3 q) (show ([c0, c1, c2, c3, c4, c5].drop 0).take (Tryz.prog.cellsOf 3) = [c0] from by rw [show Tryz.prog.cellsOf 3 = 1 from by kernel_rfl]; rfl)).symm.trans g0
    obtain ⟨a0, e0, w0⟩ := open_int1 Tryz.underlying3 g0
    obtain ⟨y1, g1, s1⟩ := hf 1 _ rfl
    have g1 : Rdg enc W m 3 [c1] y1 := (congrArg (fun q => DataW.trod enc Tryz.prog W 0 (fun _ => true) true m 3 q) (show ([c0, c1, c2, c3, c4, c5].drop 1).take (Tryz.prog.cellsOf 3) = [c1] from by rw [show Tryz.prog.cellsOf 3 = 1 from by kernel_rfl]; rfl)).symm.trans g1
    obtain ⟨a1, e1, w1⟩ := open_int1 Tryz.underlying3 g1
    obtain ⟨y2, g2, s2⟩ := hf 2 _ rfl
    have g2 : Rdg enc W m 3 [c2] y2 := (congrArg (fun q => DataW.trod enc Tryz.prog W 0 (fun _ => true) true m 3 q) (show ([c0, c1, c2, c3, c4, c5].drop 2).take (Tryz.prog.cellsOf 3) = [c2] from by rw [show Tryz.prog.cellsOf 3 = 1 from by kernel_rfl]; rfl)).symm.trans g2
    obtain ⟨a2, e2, w2⟩ := open_int1 Tryz.underlying3 g2
    obtain ⟨y3, g3, s3⟩ := hf 3 _ rfl
    have g3 : Rdg enc W m 3 [c3] y3 := (congrArg (fun q => DataW.trod enc Tryz.prog W 0 (fun _ => true) true m 3 q) (show ([c0, c1, c2, c3, c4, c5].drop 3).take (Tryz.prog.cellsOf 3) = [c3] from by rw [show Tryz.prog.cellsOf 3 = 1 from by kernel_rfl]; rfl)).symm.trans g3
    obtain ⟨a3, e3, w3⟩ := open_int1 Tryz.underlying3 g3
    obtain ⟨y4, g4, s4⟩ := hf 4 _ rfl
    have g4 : Rdg enc W m 3 [c4] y4 := (congrArg (fun q => DataW.trod enc Tryz.prog W 0 (fun _ => true) true m 3 q) (show ([c0, c1, c2, c3, c4, c5].drop 4).take (Tryz.prog.cellsOf 3) = [c4] from by rw [show Tryz.prog.cellsOf 3 = 1 from by kernel_rfl]; rfl)).symm.trans g4
    obtain ⟨a4, e4, w4⟩ := open_int1 Tryz.underlying3 g4
    obtain ⟨y5, g5, s5⟩ := hf 5 _ rfl
    have g5 : Rdg enc W m 4 [c5] y5 := (congrArg (fun q => DataW.trod enc Tryz.prog W 0 (fun _ => true) true m 4 q) (show ([c0, c1, c2, c3, c4, c5].drop 5).take (Tryz.prog.cellsOf 4) = [c5] from by rw [show Tryz.prog.cellsOf 4 = 1 from by kernel_rfl]; rfl)).symm.trans g5
    obtain ⟨a5, e5⟩ := open_bool1 Tryz.underlying4 g5
    subst e0 e1 e2 e3 e4 e5
    exact ⟨a0, a1, a2, a3, a4, a5, rfl, w0, w1, w2, w3, w4⟩

theorem open_msg {n : Nat} {cs : List Value} {x : DataW H × List MemPlace} (h : Rdg enc W n 46 cs x) (hs : Sm 46 x.1) :
    ∃ (m : MsgD) (s o i : Value), cs = m.cells s o i ∧ Lists (· < W.heap.size) W m s o i ∧ m.wf := by
  obtain ⟨m, hl, hf⟩ := open_fields Tryz.underlying46 h hs
  have hl : cs.length = 34 := hl
  rcases cs with _ | ⟨c0, cs⟩
  · simp at hl
  rcases cs with _ | ⟨c1, cs⟩
  · simp at hl
  rcases cs with _ | ⟨c2, cs⟩
  · simp at hl
  rcases cs with _ | ⟨c3, cs⟩
  · simp at hl
  rcases cs with _ | ⟨c4, cs⟩
  · simp at hl
  rcases cs with _ | ⟨c5, cs⟩
  · simp at hl
  rcases cs with _ | ⟨c6, cs⟩
  · simp at hl
  rcases cs with _ | ⟨c7, cs⟩
  · simp at hl
  rcases cs with _ | ⟨c8, cs⟩
  · simp at hl
  rcases cs with _ | ⟨c9, cs⟩
  · simp at hl
  rcases cs with _ | ⟨c10, cs⟩
  · simp at hl
  rcases cs with _ | ⟨c11, cs⟩
  · simp at hl
  rcases cs with _ | ⟨c12, cs⟩
  · simp at hl
  rcases cs with _ | ⟨c13, cs⟩
  · simp at hl
  rcases cs with _ | ⟨c14, cs⟩
  · simp at hl
  rcases cs with _ | ⟨c15, cs⟩
  · simp at hl
  rcases cs with _ | ⟨c16, cs⟩
  · simp at hl
  rcases cs with _ | ⟨c17, cs⟩
  · simp at hl
  rcases cs with _ | ⟨c18, cs⟩
  · simp at hl
  rcases cs with _ | ⟨c19, cs⟩
  · simp at hl
  rcases cs with _ | ⟨c20, cs⟩
  · simp at hl
  rcases cs with _ | ⟨c21, cs⟩
  · simp at hl
  rcases cs with _ | ⟨c22, cs⟩
  · simp at hl
  rcases cs with _ | ⟨c23, cs⟩
  · simp at hl
  rcases cs with _ | ⟨c24, cs⟩
  · simp at hl
  rcases cs with _ | ⟨c25, cs⟩
  · simp at hl
  rcases cs with _ | ⟨c26, cs⟩
  · simp at hl
  rcases cs with _ | ⟨c27, cs⟩
  · simp at hl
  rcases cs with _ | ⟨c28, cs⟩
  · simp at hl
  rcases cs with _ | ⟨c29, cs⟩
  · simp at hl
  rcases cs with _ | ⟨c30, cs⟩
  · simp at hl
  rcases cs with _ | ⟨c31, cs⟩
  · simp at hl
  rcases cs with _ | ⟨c32, cs⟩
  · simp at hl
  rcases cs with _ | ⟨c33, cs⟩
  · simp at hl
  obtain rfl : cs = [] := List.eq_nil_of_length_eq_zero (by simp only [List.length_cons] at hl; omega)
  · skip
    obtain ⟨y0, g0, s0⟩ := hf 0 _ rfl
    have g0 : Rdg enc W m 3 [c0] y0 := (congrArg (fun q => DataW.trod enc Tryz.prog W 0 (fun _ => true) true m 3 q) (show ([c0, c1, c2, c3, c4, c5, c6, c7, c8, c9, c10, c11, c12, c13, c14, c15, c16, c17, c18, c19, c20, c21, c22, c23, c24, c25, c26, c27, c28, c29, c30, c31, c32, c33].drop 0).take (Tryz.prog.cellsOf 3) = [c0] from by rw [show Tryz.prog.cellsOf 3 = 1 from by kernel_rfl]; rfl)).symm.trans g0
    obtain ⟨a0, e0, w0⟩ := open_int1 Tryz.underlying3 g0
    obtain ⟨y1, g1, s1⟩ := hf 1 _ rfl
    have g1 : Rdg enc W m 3 [c1] y1 := (congrArg (fun q => DataW.trod enc Tryz.prog W 0 (fun _ => true) true m 3 q) (show ([c0, c1, c2, c3, c4, c5, c6, c7, c8, c9, c10, c11, c12, c13, c14, c15, c16, c17, c18, c19, c20, c21, c22, c23, c24, c25, c26, c27, c28, c29, c30, c31, c32, c33].drop 1).take (Tryz.prog.cellsOf 3) = [c1] from by rw [show Tryz.prog.cellsOf 3 = 1 from by kernel_rfl]; rfl)).symm.trans g1
    obtain ⟨a1, e1, w1⟩ := open_int1 Tryz.underlying3 g1
    obtain ⟨y2, g2, s2⟩ := hf 2 _ rfl
    have g2 : Rdg enc W m 3 [c2] y2 := (congrArg (fun q => DataW.trod enc Tryz.prog W 0 (fun _ => true) true m 3 q) (show ([c0, c1, c2, c3, c4, c5, c6, c7, c8, c9, c10, c11, c12, c13, c14, c15, c16, c17, c18, c19, c20, c21, c22, c23, c24, c25, c26, c27, c28, c29, c30, c31, c32, c33].drop 2).take (Tryz.prog.cellsOf 3) = [c2] from by rw [show Tryz.prog.cellsOf 3 = 1 from by kernel_rfl]; rfl)).symm.trans g2
    obtain ⟨a2, e2, w2⟩ := open_int1 Tryz.underlying3 g2
    obtain ⟨y3, g3, s3⟩ := hf 3 _ rfl
    have g3 : Rdg enc W m 3 [c3] y3 := (congrArg (fun q => DataW.trod enc Tryz.prog W 0 (fun _ => true) true m 3 q) (show ([c0, c1, c2, c3, c4, c5, c6, c7, c8, c9, c10, c11, c12, c13, c14, c15, c16, c17, c18, c19, c20, c21, c22, c23, c24, c25, c26, c27, c28, c29, c30, c31, c32, c33].drop 3).take (Tryz.prog.cellsOf 3) = [c3] from by rw [show Tryz.prog.cellsOf 3 = 1 from by kernel_rfl]; rfl)).symm.trans g3
    obtain ⟨a3, e3, w3⟩ := open_int1 Tryz.underlying3 g3
    obtain ⟨y4, g4, s4⟩ := hf 4 _ rfl
    have g4 : Rdg enc W m 3 [c4] y4 := (congrArg (fun q => DataW.trod enc Tryz.prog W 0 (fun _ => true) true m 3 q) (show ([c0, c1, c2, c3, c4, c5, c6, c7, c8, c9, c10, c11, c12, c13, c14, c15, c16, c17, c18, c19, c20, c21, c22, c23, c24, c25, c26, c27, c28, c29, c30, c31, c32, c33].drop 4).take (Tryz.prog.cellsOf 3) = [c4] from by rw [show Tryz.prog.cellsOf 3 = 1 from by kernel_rfl]; rfl)).symm.trans g4
    obtain ⟨a4, e4, w4⟩ := open_int1 Tryz.underlying3 g4
    obtain ⟨y5, g5, s5⟩ := hf 5 _ rfl
    have g5 : Rdg enc W m 3 [c5] y5 := (congrArg (fun q => DataW.trod enc Tryz.prog W 0 (fun _ => true) true m 3 q) (show ([c0, c1, c2, c3, c4, c5, c6, c7, c8, c9, c10, c11, c12, c13, c14, c15, c16, c17, c18, c19, c20, c21, c22, c23, c24, c25, c26, c27, c28, c29, c30, c31, c32, c33].drop 5).take (Tryz.prog.cellsOf 3) = [c5] from by rw [show Tryz.prog.cellsOf 3 = 1 from by kernel_rfl]; rfl)).symm.trans g5
    obtain ⟨a5, e5, w5⟩ := open_int1 Tryz.underlying3 g5
    obtain ⟨y6, g6, s6⟩ := hf 6 _ rfl
    have g6 : Rdg enc W m 3 [c6] y6 := (congrArg (fun q => DataW.trod enc Tryz.prog W 0 (fun _ => true) true m 3 q) (show ([c0, c1, c2, c3, c4, c5, c6, c7, c8, c9, c10, c11, c12, c13, c14, c15, c16, c17, c18, c19, c20, c21, c22, c23, c24, c25, c26, c27, c28, c29, c30, c31, c32, c33].drop 6).take (Tryz.prog.cellsOf 3) = [c6] from by rw [show Tryz.prog.cellsOf 3 = 1 from by kernel_rfl]; rfl)).symm.trans g6
    obtain ⟨a6, e6, w6⟩ := open_int1 Tryz.underlying3 g6
    obtain ⟨y7, g7, s7⟩ := hf 7 _ rfl
    have g7 : Rdg enc W m 3 [c7] y7 := (congrArg (fun q => DataW.trod enc Tryz.prog W 0 (fun _ => true) true m 3 q) (show ([c0, c1, c2, c3, c4, c5, c6, c7, c8, c9, c10, c11, c12, c13, c14, c15, c16, c17, c18, c19, c20, c21, c22, c23, c24, c25, c26, c27, c28, c29, c30, c31, c32, c33].drop 7).take (Tryz.prog.cellsOf 3) = [c7] from by rw [show Tryz.prog.cellsOf 3 = 1 from by kernel_rfl]; rfl)).symm.trans g7
    obtain ⟨a7, e7, w7⟩ := open_int1 Tryz.underlying3 g7
    obtain ⟨y8, g8, s8⟩ := hf 8 _ rfl
    have g8 : Rdg enc W m 3 [c8] y8 := (congrArg (fun q => DataW.trod enc Tryz.prog W 0 (fun _ => true) true m 3 q) (show ([c0, c1, c2, c3, c4, c5, c6, c7, c8, c9, c10, c11, c12, c13, c14, c15, c16, c17, c18, c19, c20, c21, c22, c23, c24, c25, c26, c27, c28, c29, c30, c31, c32, c33].drop 8).take (Tryz.prog.cellsOf 3) = [c8] from by rw [show Tryz.prog.cellsOf 3 = 1 from by kernel_rfl]; rfl)).symm.trans g8
    obtain ⟨a8, e8, w8⟩ := open_int1 Tryz.underlying3 g8
    obtain ⟨y9, g9, s9⟩ := hf 9 _ rfl
    have g9 : Rdg enc W m 4 [c9] y9 := (congrArg (fun q => DataW.trod enc Tryz.prog W 0 (fun _ => true) true m 4 q) (show ([c0, c1, c2, c3, c4, c5, c6, c7, c8, c9, c10, c11, c12, c13, c14, c15, c16, c17, c18, c19, c20, c21, c22, c23, c24, c25, c26, c27, c28, c29, c30, c31, c32, c33].drop 9).take (Tryz.prog.cellsOf 4) = [c9] from by rw [show Tryz.prog.cellsOf 4 = 1 from by kernel_rfl]; rfl)).symm.trans g9
    obtain ⟨a9, e9⟩ := open_bool1 Tryz.underlying4 g9
    obtain ⟨y10, g10, s10⟩ := hf 10 _ rfl
    have g10 : Rdg enc W m 4 [c10] y10 := (congrArg (fun q => DataW.trod enc Tryz.prog W 0 (fun _ => true) true m 4 q) (show ([c0, c1, c2, c3, c4, c5, c6, c7, c8, c9, c10, c11, c12, c13, c14, c15, c16, c17, c18, c19, c20, c21, c22, c23, c24, c25, c26, c27, c28, c29, c30, c31, c32, c33].drop 10).take (Tryz.prog.cellsOf 4) = [c10] from by rw [show Tryz.prog.cellsOf 4 = 1 from by kernel_rfl]; rfl)).symm.trans g10
    obtain ⟨a10, e10⟩ := open_bool1 Tryz.underlying4 g10
    obtain ⟨y11, g11, s11⟩ := hf 11 _ rfl
    have g11 : Rdg enc W m 4 [c11] y11 := (congrArg (fun q => DataW.trod enc Tryz.prog W 0 (fun _ => true) true m 4 q) (show ([c0, c1, c2, c3, c4, c5, c6, c7, c8, c9, c10, c11, c12, c13, c14, c15, c16, c17, c18, c19, c20, c21, c22, c23, c24, c25, c26, c27, c28, c29, c30, c31, c32, c33].drop 11).take (Tryz.prog.cellsOf 4) = [c11] from by rw [show Tryz.prog.cellsOf 4 = 1 from by kernel_rfl]; rfl)).symm.trans g11
    obtain ⟨a11, e11⟩ := open_bool1 Tryz.underlying4 g11
    obtain ⟨y12, g12, s12⟩ := hf 12 _ rfl
    have g12 : Rdg enc W m 37 [c12, c13, c14, c15, c16, c17, c18, c19, c20, c21] y12 := (congrArg (fun q => DataW.trod enc Tryz.prog W 0 (fun _ => true) true m 37 q) (show ([c0, c1, c2, c3, c4, c5, c6, c7, c8, c9, c10, c11, c12, c13, c14, c15, c16, c17, c18, c19, c20, c21, c22, c23, c24, c25, c26, c27, c28, c29, c30, c31, c32, c33].drop 12).take (Tryz.prog.cellsOf 37) = [c12, c13, c14, c15, c16, c17, c18, c19, c20, c21] from by rw [show Tryz.prog.cellsOf 37 = 10 from by kernel_rfl]; rfl)).symm.trans g12
    obtain ⟨⟨op, s⟩, f12, st, wop⟩ := open_op g12 s12
    obtain ⟨y13, g13, s13⟩ := hf 13 _ rfl
    have g13 : Rdg enc W m 40 [c22, c23, c24, c25] y13 := (congrArg (fun q => DataW.trod enc Tryz.prog W 0 (fun _ => true) true m 40 q) (show ([c0, c1, c2, c3, c4, c5, c6, c7, c8, c9, c10, c11, c12, c13, c14, c15, c16, c17, c18, c19, c20, c21, c22, c23, c24, c25, c26, c27, c28, c29, c30, c31, c32, c33].drop 22).take (Tryz.prog.cellsOf 40) = [c22, c23, c24, c25] from by rw [show Tryz.prog.cellsOf 40 = 4 from by kernel_rfl]; rfl)).symm.trans g13
    obtain ⟨r0, r1, r2, r3, f13, v0, v1, v2, v3⟩ := open_reply g13 s13
    obtain ⟨y14, g14, s14⟩ := hf 14 _ rfl
    have g14 : Rdg enc W m 42 [c26, c27, c28, c29, c30, c31] y14 := (congrArg (fun q => DataW.trod enc Tryz.prog W 0 (fun _ => true) true m 42 q) (show ([c0, c1, c2, c3, c4, c5, c6, c7, c8, c9, c10, c11, c12, c13, c14, c15, c16, c17, c18, c19, c20, c21, c22, c23, c24, c25, c26, c27, c28, c29, c30, c31, c32, c33].drop 26).take (Tryz.prog.cellsOf 42) = [c26, c27, c28, c29, c30, c31] from by rw [show Tryz.prog.cellsOf 42 = 6 from by kernel_rfl]; rfl)).symm.trans g14
    obtain ⟨k0, k1, k2, k3, k4, k5, f14, u0, u1, u2, u3, u4⟩ := open_command g14 s14
    obtain ⟨y15, g15, s15⟩ := hf 15 _ rfl
    have g15 : Rdg enc W m 43 [c32] y15 := (congrArg (fun q => DataW.trod enc Tryz.prog W 0 (fun _ => true) true m 43 q) (show ([c0, c1, c2, c3, c4, c5, c6, c7, c8, c9, c10, c11, c12, c13, c14, c15, c16, c17, c18, c19, c20, c21, c22, c23, c24, c25, c26, c27, c28, c29, c30, c31, c32, c33].drop 32).take (Tryz.prog.cellsOf 43) = [c32] from by rw [show Tryz.prog.cellsOf 43 = 1 from by kernel_rfl]; rfl)).symm.trans g15
    obtain ⟨ops, hops, wops⟩ := open_ops g15 s15
    obtain ⟨y16, g16, s16⟩ := hf 16 _ rfl
    have g16 : Rdg enc W m 44 [c33] y16 := (congrArg (fun q => DataW.trod enc Tryz.prog W 0 (fun _ => true) true m 44 q) (show ([c0, c1, c2, c3, c4, c5, c6, c7, c8, c9, c10, c11, c12, c13, c14, c15, c16, c17, c18, c19, c20, c21, c22, c23, c24, c25, c26, c27, c28, c29, c30, c31, c32, c33].drop 33).take (Tryz.prog.cellsOf 44) = [c33] from by rw [show Tryz.prog.cellsOf 44 = 1 from by kernel_rfl]; rfl)).symm.trans g16
    obtain ⟨incs, hincs, wincs⟩ := open_incs g16 s16
    subst e0 e1 e2 e3 e4 e5 e6 e7 e8 e9 e10 e11
    unfold OpD.cells at f12
    simp only [List.cons.injEq, and_true] at f12 f13 f14
    obtain ⟨rfl, rfl, rfl, rfl, rfl, rfl, rfl, rfl, rfl, rfl⟩ := f12
    obtain ⟨rfl, rfl, rfl, rfl⟩ := f13
    obtain ⟨rfl, rfl, rfl, rfl, rfl, rfl⟩ := f14
    exact ⟨⟨a0, a1, a2, a3, a4, a5, a6, a7, a8, a9, a10, a11, op, r0, r1, r2, r3, k0, k1, k2, k3, k4, k5, ops, incs⟩, _, c32, c33, rfl, ⟨st, hops, hincs⟩, w0, w1, w2, w3, w4, w5, w6, w7, w8, wop, v0, v1, v2, v3, u0, u1, u2, u3, u4, wops, wincs⟩
theorem arg_msg {cs : Array Value} {d : DataW H} {p : List MemPlace} (h : DataW.Trod enc Tryz.prog W 0 (fun _ => true) true 46 (.agg cs) d p) (hs : Sm 46 d) : ∃ (m : MsgD) (s o i : Value), cs = (m.cells s o i).toArray ∧ Lists (· < W.heap.size) W m s o i ∧ m.wf := by
  obtain ⟨fuel, hf⟩ := h
  obtain ⟨m, s, o, i, e, hl, wf⟩ := open_msg (n := fuel) (x := (d, p)) hf hs
  refine ⟨m, s, o, i, ?_, hl, wf⟩
  have e2 : cs.toList = m.cells s o i := e
  rw [← e2]
end
end Go.Proofs.YtdkiopajilakcaaGreat
/- Acts on a box and its book; from what a row says of acts that came in to what the walks are told of them. -/
namespace Go.Proofs.YtdkiopajilakcaaGreat
open Go.ChangeShapes Go.WideShapes Go.ChangeAt Go.RowKit
/-- An act, and the values of its lists. -/
structure ActV where
  kind : Int
  n : Int
  o : OpD
  os : Value
  m : MsgD
  ms : Value
  mo : Value
  mi : Value
def ActV.cells (p : ActV) : List Value := [.int .i64 p.kind, .int .i64 p.n] ++ p.o.cells p.os ++ p.m.cells p.ms p.mo p.mi
theorem ActV.len (p : ActV) : p.cells.length = 46 := rfl
def ActV.Lists (F : Nat → Prop) (w : World) (p : ActV) : Prop := StepsAt F w p.os p.o.steps ∧ Proofs.YtdkiopajilakcaaGreat.Lists F w p.m p.ms p.mo p.mi
def ActV.wf (p : ActV) : Prop := I64 p.kind ∧ I64 p.n ∧ p.o.wf ∧ p.m.wf
theorem ActV.one (p : ActV) (h0 : p.os.oneCell' = true) (h1 : p.ms.oneCell' = true) (h2 : p.mo.oneCell' = true) (h3 : p.mi.oneCell' = true) : ∀ u ∈ p.cells, u.oneCell' = true := by
  intro u hu
  unfold ActV.cells at hu
  rcases List.mem_append.1 hu with hu | hu
  · rcases List.mem_append.1 hu with hu | hu
    · simp only [List.mem_cons, List.not_mem_nil, or_false] at hu
      rcases hu with rfl | rfl <;> rfl
    · exact p.o.one h0 u hu
  · exact p.m.one h1 h2 h3 u hu
/-- The slice v holds these acts. -/
def ActsIn (F : Nat → Prop) (w : World) (v : Value) (ps : List ActV) : Prop := FlatAt F w 46 v ps.length (ps.flatMap ActV.cells) ∧ ∀ p ∈ ps, p.Lists F w
theorem Lists.kept_ {F : Nat → Prop} {w w' : World} {m : MsgD} {s o i : Value} (h : Lists F w m s o i) (hk : Kept F w w') : Lists F w' m s o i := ⟨h.1.kept hk, h.2.1.kept hk, h.2.2.kept hk⟩
theorem Lists.ones {F : Nat → Prop} {w : World} {m : MsgD} {s o i : Value} (h : Lists F w m s o i) : s.oneCell' = true ∧ o.oneCell' = true ∧ i.oneCell' = true := by
  obtain ⟨h1, ⟨ps, _, h2, _⟩, h3⟩ := h
  exact ⟨FlatAt.oneCell h1, FlatAt.oneCell h2, FlatAt.oneCell h3⟩
theorem ActsIn.kept {F : Nat → Prop} {w w' : World} {v : Value} {ps : List ActV} (h : ActsIn F w v ps) (hk : Kept F w w') : ActsIn F w' v ps := ⟨h.1.kept hk, fun p hp => ⟨(h.2 p hp).1.kept hk, (h.2 p hp).2.kept_ hk⟩⟩
theorem ActsIn.at_ {F : Nat → Prop} {w : World} {v : Value} {ps : List ActV} (h : ActsIn F w v ps) {i : Nat} (hi : i < ps.length) : ∃ p b off c, ps[i]? = some p ∧ v = .slice (some ⟨b, off, none⟩) ps.length c ∧ w.rangeAt b (off + i * 46) p.cells ∧ p.Lists F w := by
  obtain ⟨b, off, c, hv, hc, hf, hb, hr⟩ := FlatAt.elem h.1 hi
  have hs : ps[i]? = some ps[i] := List.getElem?_eq_getElem hi
  refine ⟨ps[i], b, off, c, hs, hv, ?_, h.2 _ (List.getElem_mem hi)⟩
  rwa [flat_get ActV.cells 46 ps i _ (fun y _ => y.len) hs] at hr
instance : Inhabited ActV := ⟨⟨0, 0, .zero, .slice none 0 0, .zero, .slice none 0 0, .slice none 0 0, .slice none 0 0⟩⟩
section
variable {H : Type} {enc : TypeId × Value → H} {W : World}
set_option maxRecDepth 100000
theorem open_act18 {n : Nat} {cs : List Value} {x : DataW H × List MemPlace} (h : Rdg enc W n 48 cs x) (hs : Sm 48 x.1) : ∃ p : ActV, cs = p.cells ∧ p.Lists (· < W.heap.size) W ∧ p.wf := by
  obtain ⟨m, hl, hf⟩ := open_fields Tryz.underlying48 h hs
  have hl : cs.length = 46 := hl
  rcases cs with _ | ⟨c0, cs⟩
  · simp at hl
  rcases cs with _ | ⟨c1, cs⟩
  · simp at hl
  rcases cs with _ | ⟨c2, cs⟩
  · simp at hl
  rcases cs with _ | ⟨c3, cs⟩
  · simp at hl
  rcases cs with _ | ⟨c4, cs⟩
  · simp at hl
  rcases cs with _ | ⟨c5, cs⟩
  · simp at hl
  rcases cs with _ | ⟨c6, cs⟩
  · simp at hl
  rcases cs with _ | ⟨c7, cs⟩
  · simp at hl
  rcases cs with _ | ⟨c8, cs⟩
  · simp at hl
  rcases cs with _ | ⟨c9, cs⟩
  · simp at hl
  rcases cs with _ | ⟨c10, cs⟩
  · simp at hl
  rcases cs with _ | ⟨c11, cs⟩
  · simp at hl
  rcases cs with _ | ⟨c12, cs⟩
  · simp at hl
  rcases cs with _ | ⟨c13, cs⟩
  · simp at hl
  rcases cs with _ | ⟨c14, cs⟩
  · simp at hl
  rcases cs with _ | ⟨c15, cs⟩
  · simp at hl
  rcases cs with _ | ⟨c16, cs⟩
  · simp at hl
  rcases cs with _ | ⟨c17, cs⟩
  · simp at hl
  rcases cs with _ | ⟨c18, cs⟩
  · simp at hl
  rcases cs with _ | ⟨c19, cs⟩
  · simp at hl
  rcases cs with _ | ⟨c20, cs⟩
  · simp at hl
  rcases cs with _ | ⟨c21, cs⟩
  · simp at hl
  rcases cs with _ | ⟨c22, cs⟩
  · simp at hl
  rcases cs with _ | ⟨c23, cs⟩
  · simp at hl
  rcases cs with _ | ⟨c24, cs⟩
  · simp at hl
  rcases cs with _ | ⟨c25, cs⟩
  · simp at hl
  rcases cs with _ | ⟨c26, cs⟩
  · simp at hl
  rcases cs with _ | ⟨c27, cs⟩
  · simp at hl
  rcases cs with _ | ⟨c28, cs⟩
  · simp at hl
  rcases cs with _ | ⟨c29, cs⟩
  · simp at hl
  rcases cs with _ | ⟨c30, cs⟩
  · simp at hl
  rcases cs with _ | ⟨c31, cs⟩
  · simp at hl
  rcases cs with _ | ⟨c32, cs⟩
  · simp at hl
  rcases cs with _ | ⟨c33, cs⟩
  · simp at hl
  rcases cs with _ | ⟨c34, cs⟩
  · simp at hl
  rcases cs with _ | ⟨c35, cs⟩
  · simp at hl
  rcases cs with _ | ⟨c36, cs⟩
  · simp at hl
  rcases cs with _ | ⟨c37, cs⟩
  · simp at hl
  rcases cs with _ | ⟨c38, cs⟩
  · simp at hl
  rcases cs with _ | ⟨c39, cs⟩
  · simp at hl
  rcases cs with _ | ⟨c40, cs⟩
  · simp at hl
  rcases cs with _ | ⟨c41, cs⟩
  · simp at hl
  rcases cs with _ | ⟨c42, cs⟩
  · simp at hl
  rcases cs with _ | ⟨c43, cs⟩
  · simp at hl
  rcases cs with _ | ⟨c44, cs⟩
  · simp at hl
  rcases cs with _ | ⟨c45, cs⟩
  · simp at hl
  obtain rfl : cs = [] := List.eq_nil_of_length_eq_zero (by simp only [List.length_cons] at hl; omega)
  · skip
    obtain ⟨y0, g0, s0⟩ := hf 0 _ rfl
    have g0 : Rdg enc W m 3 [c0] y0 := (congrArg (fun q => DataW.trod enc Tryz.prog W 0 (fun _ => true) true m 3 q) (show ([c0, c1, c2, c3, c4, c5, c6, c7, c8, c9, c10, c11, c12, c13, c14, c15, c16, c17, c18, c19, c20, c21, c22, c23, c24, c25, c26, c27, c28, c29, c30, c31, c32, c33, c34, c35, c36, c37, c38, c39, c40, c41, c42, c43, c44, c45].drop 0).take (Tryz.prog.cellsOf 3) = [c0] from by rw [show Tryz.prog.cellsOf 3 = 1 from by kernel_rfl]; rfl)).symm.trans g0
    obtain ⟨a0, e0, w0⟩ := open_int1 Tryz.underlying3 g0
    obtain ⟨y1, g1, s1⟩ := hf 1 _ rfl
    have g1 : Rdg enc W m 3 [c1] y1 := (congrArg (fun q => DataW.trod enc Tryz.prog W 0 (fun _ => true) true m 3 q) (show ([c0, c1, c2, c3, c4, c5, c6, c7, c8, c9, c10, c11, c12, c13, c14, c15, c16, c17, c18, c19, c20, c21, c22, c23, c24, c25, c26, c27, c28, c29, c30, c31, c32, c33, c34, c35, c36, c37, c38, c39, c40, c41, c42, c43, c44, c45].drop 1).take (Tryz.prog.cellsOf 3) = [c1] from by rw [show Tryz.prog.cellsOf 3 = 1 from by kernel_rfl]; rfl)).symm.trans g1
    obtain ⟨a1, e1, w1⟩ := open_int1 Tryz.underlying3 g1
    obtain ⟨y2, g2, s2⟩ := hf 2 _ rfl
    have g2 : Rdg enc W m 37 [c2, c3, c4, c5, c6, c7, c8, c9, c10, c11] y2 := (congrArg (fun q => DataW.trod enc Tryz.prog W 0 (fun _ => true) true m 37 q) (show ([c0, c1, c2, c3, c4, c5, c6, c7, c8, c9, c10, c11, c12, c13, c14, c15, c16, c17, c18, c19, c20, c21, c22, c23, c24, c25, c26, c27, c28, c29, c30, c31, c32, c33, c34, c35, c36, c37, c38, c39, c40, c41, c42, c43, c44, c45].drop 2).take (Tryz.prog.cellsOf 37) = [c2, c3, c4, c5, c6, c7, c8, c9, c10, c11] from by rw [show Tryz.prog.cellsOf 37 = 10 from by kernel_rfl]; rfl)).symm.trans g2
    obtain ⟨p2, f2, l2, wf2⟩ := open_op g2 s2
    obtain ⟨y3, g3, s3⟩ := hf 3 _ rfl
    have g3 : Rdg enc W m 46 [c12, c13, c14, c15, c16, c17, c18, c19, c20, c21, c22, c23, c24, c25, c26, c27, c28, c29, c30, c31, c32, c33, c34, c35, c36, c37, c38, c39, c40, c41, c42, c43, c44, c45] y3 := (congrArg (fun q => DataW.trod enc Tryz.prog W 0 (fun _ => true) true m 46 q) (show ([c0, c1, c2, c3, c4, c5, c6, c7, c8, c9, c10, c11, c12, c13, c14, c15, c16, c17, c18, c19, c20, c21, c22, c23, c24, c25, c26, c27, c28, c29, c30, c31, c32, c33, c34, c35, c36, c37, c38, c39, c40, c41, c42, c43, c44, c45].drop 12).take (Tryz.prog.cellsOf 46) = [c12, c13, c14, c15, c16, c17, c18, c19, c20, c21, c22, c23, c24, c25, c26, c27, c28, c29, c30, c31, c32, c33, c34, c35, c36, c37, c38, c39, c40, c41, c42, c43, c44, c45] from by rw [show Tryz.prog.cellsOf 46 = 34 from by kernel_rfl]; rfl)).symm.trans g3
    obtain ⟨m3, s3v, o3, i3, f3, l3, wf3⟩ := open_msg g3 s3
    subst e0 e1
    refine ⟨⟨a0, a1, p2.1, p2.2, m3, s3v, o3, i3⟩, ?_, ⟨l2, l3⟩, w0, w1, wf2, wf3⟩
    show _ = [.int .i64 a0, .int .i64 a1] ++ p2.1.cells p2.2 ++ m3.cells s3v o3 i3
    rw [← f2, ← f3]
    rfl
theorem arg_acts {A : Option Addr} {len cap : Nat} {d : DataW H} {p : List MemPlace} (h : DataW.Trod enc Tryz.prog W 0 (fun _ => true) true 22 (.slice A len cap) d p) (hs : Sm 22 d) : ∃ ps : List ActV, ActsIn (· < W.heap.size) W (.slice A len cap) ps ∧ ∀ p ∈ ps, p.wf := by
  obtain ⟨fuel, hf⟩ := h
  obtain ⟨ys, h1, h2⟩ := open_elems ActV.cells (fun p => p.Lists (· < W.heap.size) W ∧ p.wf) 46 (by decide) ActV.len Tryz.underlying22 (by kernel_rfl) (fun n cs x h hs => open_act18 h hs) (fun y hy => y.one (FlatAt.oneCell hy.1.1) hy.1.2.ones.1 hy.1.2.ones.2.1 hy.1.2.ones.2.2) (n := fuel) (x := (d, p)) hf hs
  exact ⟨ys, ⟨h1, fun p hp => (h2 p hp).1⟩, fun p hp => (h2 p hp).2⟩
end
end Go.Proofs.YtdkiopajilakcaaGreat
/- light and wanted of the laws of package outbox. -/
namespace Go.Proofs.YtdkiopajilakcaaGreat
open Go.RowKit Go.Maps
def ABox (y : Nat) (p : ActV) (w : World) : Prop := w.heap[y]? = some (.cells p.cells.toArray 48 (0, 0))
def ActV.nil : ActV := ⟨0, 0, .zero, .slice none 0 0, .zero, .slice none 0 0, .slice none 0 0, .slice none 0 0⟩
theorem ABox.below {y : Nat} {p : ActV} {w w' : World} (h : ABox y p w) (hl : Later w w') : ABox y p w' := (Below.block hl y (lt_of_block h)).trans h
theorem ABox.turned {Q : Nat → Prop} {y : Nat} {p : ActV} {w w' : World} (h : ABox y p w) (ht : Turned Q w w') (hq : ¬ Q y) : ABox y p w' := (ht.block y (lt_of_block h) hq).trans h
theorem ABox.c0 {y : Nat} {p : ActV} {w : World} (h : ABox y p w) : w.cell? ⟨y, 0, none⟩ = some (.int .i64 p.kind) := (cell_of_row w y 0 _ _ _ h).trans rfl
theorem ABox.c1 {y : Nat} {p : ActV} {w : World} (h : ABox y p w) : w.cell? ⟨y, 1, none⟩ = some (.int .i64 p.n) := (cell_of_row w y 1 _ _ _ h).trans rfl
theorem ABox.cg {y : Nat} {p : ActV} {w : World} (h : ABox y p w) : w.cell? ⟨y, 22, none⟩ = some (.bool p.m.good) := (cell_of_row w y 22 _ _ _ h).trans rfl
theorem ABox.cf {y : Nat} {p : ActV} {w : World} (h : ABox y p w) : w.cell? ⟨y, 23, none⟩ = some (.bool p.m.fenced) := (cell_of_row w y 23 _ _ _ h).trans rfl
theorem act_put (x y : ActV) : putAt x.cells.toArray 0 y.cells = y.cells.toArray := by
  simp [putAt, ActV.cells, OpD.cells, MsgD.cells]
theorem msg_put (x y : MsgD) (s o i s' o' i' : Value) : putAt (x.cells s o i).toArray 0 (y.cells s' o' i') = (y.cells s' o' i').toArray := by
  simp [putAt, MsgD.cells]
section
variable {ops : Array Oper} {rest : List Oper} {op : Oper} {a : Act} {W : World} {Q : Exit → Act → World → Prop} {y : Nat} {p z : ActV} {m mz : MsgD} {s o i sz oz iz : Value}
theorem exec_load_arow (x : Operand) (ho : op.op = .load 48 x) {b off : Nat} (hx : a.eval x = .pointer (some ⟨b, off, none⟩)) (hr : W.rangeAt b off p.cells) : (execOp a.eval op).run Tryz.prog W = .ok (.value (.agg p.cells.toArray)) W :=
  exec_load_range 48 x ho b off hx p.cells hr _ Tryz.underlying48 (by rfl) (by kernel_rfl)
theorem exec_load_act (x : Operand) (ho : op.op = .load 48 x) (hx : a.eval x = .pointer (some ⟨y, 0, none⟩)) (hg : ABox y p W) : (execOp a.eval op).run Tryz.prog W = .ok (.value (.agg p.cells.toArray)) W :=
  exec_load_box 48 x ho y 0 hx _ _ hg 46 _ Tryz.underlying48 (by rfl) (by kernel_rfl) p.cells (by rfl) (by rfl)
theorem exec_load_aop (x : Operand) (ho : op.op = .load 37 x) (hx : a.eval x = .pointer (some ⟨y, 2, none⟩)) (hg : ABox y p W) : (execOp a.eval op).run Tryz.prog W = .ok (.value (.agg (p.o.cells p.os).toArray)) W :=
  exec_load_box 37 x ho y 2 hx _ _ hg 10 _ Tryz.underlying37 (by rfl) (by kernel_rfl) (p.o.cells p.os) (by rfl) (by rfl)
theorem exec_load_amsg (x : Operand) (ho : op.op = .load 46 x) (hx : a.eval x = .pointer (some ⟨y, 12, none⟩)) (hg : ABox y p W) : (execOp a.eval op).run Tryz.prog W = .ok (.value (.agg (p.m.cells p.ms p.mo p.mi).toArray)) W :=
  exec_load_box 46 x ho y 12 hx _ _ hg 34 _ Tryz.underlying46 (by rfl) (by kernel_rfl) (p.m.cells p.ms p.mo p.mi) (by rfl) (by rfl)
theorem wpList_store_act (hgd : op.guard = none) (x v : Operand) (ho : op.op = .store 48 x v) (hx : a.eval x = .pointer (some ⟨y, 0, none⟩)) (hg : ABox y z W) (h1 : ∀ u ∈ p.cells, u.oneCell' = true) (hy : a.eval v = .agg p.cells.toArray)
    (h : ∀ w', ABox y p w' → W.grownBy w' (some y) → wpList Tryz.prog ops Q rest (a.put op.dst undef) w') : wpList Tryz.prog ops Q (op :: rest) a W :=
  wpList_store_box hgd 48 x v ho y 0 p.cells.toArray hx hy _ _ hg (by kernel_rfl) (by exact Nat.le_of_ble_eq_true rfl) (by exact h1) (fun w' hb hg' => h w' (by rw [show p.cells.toArray.toList = p.cells from rfl, act_put] at hb; exact hb) hg')
theorem wpList_store_msg (hgd : op.guard = none) (x v : Operand) (ho : op.op = .store 46 x v) (hx : a.eval x = .pointer (some ⟨y, 0, none⟩)) (hg : MsB y mz sz oz iz W) (h1 : ∀ u ∈ m.cells s o i, u.oneCell' = true) (hy : a.eval v = .agg (m.cells s o i).toArray)
    (h : ∀ w', MsB y m s o i w' → W.grownBy w' (some y) → wpList Tryz.prog ops Q rest (a.put op.dst undef) w') : wpList Tryz.prog ops Q (op :: rest) a W :=
  wpList_store_box hgd 46 x v ho y 0 (m.cells s o i).toArray hx hy _ _ hg (by kernel_rfl) (by exact Nat.le_of_ble_eq_true rfl) (by exact h1) (fun w' hb hg' => h w' (by rw [show (m.cells s o i).toArray.toList = m.cells s o i from rfl, msg_put] at hb; exact hb) hg')
end
def mO (o : OpD) : MsgD := { MsgD.zero with op := o }
theorem mO_wf {o : OpD} (h : o.wf) : (mO o).wf := by
  unfold MsgD.wf mO MsgD.zero
  have z : I64 0 := ⟨by decide, by decide⟩
  exact ⟨z, z, z, z, z, z, z, z, z, h, z, z, z, z, z, z, z, z, z, by simp, by simp⟩
def LightA (ps : List ActV) (w : World) (e : Ending) (w' : World) : Prop := ∃ q : Bool, e = .returned (.bool q) ∧ (q = true → ps.length ≤ 60) ∧ Later w w'
section
variable {w : World}
set_option maxHeartbeats 8000000 in
set_option maxRecDepth 100000 in
theorem light18_any {F : Nat → Prop} {v : Value} {ps : List ActV} (h : ActsIn F w v ps) (hw : ∀ p ∈ ps, p.wf) : Calls Tryz.prog 8 #[v] w (LightA ps w) := by
  obtain ⟨A, cp, rfl, _, _, _⟩ := FlatAt.shape h.1
  have hsm : ps.length ≤ 9223372036854775807 := by
    obtain ⟨A', c', _, h1, h2, _⟩ := FlatAt.shape h.1
    unfold maxLen at h2
    omega
  have HA := hide h
  have HW := hide hw
  obtain ⟨n, hn⟩ : ∃ n, ps.length = n := ⟨_, rfl⟩
  have HN := hide hn
  unfold LightA
  rw [hn] at hsm ⊢
  clear h hw hn
  by_cases h60 : 60 < n
  · have d60 : decide (60 < (n : Int)) = true := by simp; omega
    go_enter Tryz.func8, Tryz.ntmps8
    go_wp2
    go_ret
    exact ⟨false, rfl, (fun h => by cases h), Later.refl _⟩
  · have d60 : decide (60 < (n : Int)) = false := by simp; omega
    go_enter Tryz.func8, Tryz.ntmps8
    go_wp2_with (fail)
    go_loopw [10] (fun s wr => ∃ q : Nat, q ≤ n ∧ s = .int .i64 (q : Int) ∧ Hid (Later w wr)) (fun s _ => n - (Go.RowKit.intOf s).toNat)
    case atStart => exact ⟨0, by omega, rfl, Later.refl _⟩
    case round =>
      obtain ⟨q, hq, rfl, LR⟩ := hrel
      by_cases hqn : q < n
      · obtain ⟨p, xb, off, c', hx, hv, hr, hli⟩ := (HA.out.kept (Kept.of_below LR.out _)).at_ (i := q) (by rw [HN.out]; exact hqn)
        rw [HN.out] at hv
        obtain ⟨rfl, rfl⟩ : A = some ⟨xb, off, none⟩ ∧ cp = c' := by injection hv with e1 _ e3; exact ⟨e1, e3⟩
        have HPW := hide (HW.out p (List.mem_of_getElem? hx))
        have HR := hide hr
        have HLI := hide hli
        have O5 : Hid (ABox wr.heap.size ActV.nil (wr.alloc (.cells #[.int .i64 0, .int .i64 0, .int .i64 0, .int .i64 0, .int .i64 0, .string ⟨#[]⟩, .slice none 0 0, .int .i64 0, .int .i64 0, .int .i64 0, .bool false, .bool false, .int .i64 0, .int .i64 0, .int .i64 0, .int .i64 0, .int .i64 0, .int .i64 0, .int .i64 0, .int .i64 0, .int .i64 0, .bool false, .bool false, .bool false, .int .i64 0, .int .i64 0, .int .i64 0, .string ⟨#[]⟩, .slice none 0 0, .int .i64 0, .int .i64 0, .int .i64 0, .bool false, .bool false, .int .i64 0, .int .i64 0, .int .i64 0, .int .i64 0, .int .i64 0, .int .i64 0, .int .i64 0, .int .i64 0, .int .i64 0, .bool false, .slice none 0 0, .slice none 0 0] 48 (0, 0)))) := heap_alloc_new _ _
        have L5a : Hid (Later wr (wr.alloc (.cells #[.int .i64 0, .int .i64 0, .int .i64 0, .int .i64 0, .int .i64 0, .string ⟨#[]⟩, .slice none 0 0, .int .i64 0, .int .i64 0, .int .i64 0, .bool false, .bool false, .int .i64 0, .int .i64 0, .int .i64 0, .int .i64 0, .int .i64 0, .int .i64 0, .int .i64 0, .int .i64 0, .int .i64 0, .bool false, .bool false, .bool false, .int .i64 0, .int .i64 0, .int .i64 0, .string ⟨#[]⟩, .slice none 0 0, .int .i64 0, .int .i64 0, .int .i64 0, .bool false, .bool false, .int .i64 0, .int .i64 0, .int .i64 0, .int .i64 0, .int .i64 0, .int .i64 0, .int .i64 0, .int .i64 0, .int .i64 0, .bool false, .slice none 0 0, .slice none 0 0] 48 (0, 0)))) := (Below.refl _ _).alloc (Nat.le_refl _) _
        clear hx hv hr hli
        go_wp2_with (first
          | (refine wpList_val rfl (by rfl) (exec_load_arow _ (by rfl) (by rfl) HR.out) ?_)
          | (refine wpList_store_act (p := p) (by rfl) _ _ (by rfl) (by rfl) O5.out (p.one (FlatAt.oneCell HLI.out.1) HLI.out.2.ones.1 HLI.out.2.ones.2.1 HLI.out.2.ones.2.2) (by rfl) ?_))
        intro w4 X4 G4
        have HX4 := hide X4
        have L4 : Hid (Later wr w4) := L5a.out.grown G4 (by simp) (fun k hk => by have b1 := Option.some.inj hk; omega)
        have CS := hide (stepsn_any 60 (by decide) (by decide) F (mO p.o) p.os (.slice none 0 0) (.slice none 0 0) w4 (mO_wf HPW.out.2.2.1) ⟨HLI.out.1.kept (Kept.of_below L4.out _), OpsAt.nil_ _ _, IncsAt.nil_ _ _⟩)
        clear X4 G4 O5 L5a
        go_wp2_with (first
          | (refine wpList_val rfl (by rfl) (exec_load_aop _ (by rfl) (by rfl) HX4.out) ?_)
          | (refine wpList_build_parts (by rfl) 46 _ (by rfl) [(12, .agg (p.o.cells p.os).toArray)] (by rfl) ((mO p.o).cells p.os (.slice none 0 0) (.slice none 0 0)).toArray (by kernel_rfl) ?_))
        refine CS.out.mono ?_
        rintro e w5 ⟨qs, rfl, _, hl5⟩
        have L5 : Hid (Later w w5) := Later.trans (Later.trans (show Later w wr from LR.out) L4.out) hl5
        clear hl5 CS
        by_cases h6 : 60 < qs
        · have d6 : decide (60 < qs) = true := by simpa using h6
          go_wp2
          go_ret
          exact ⟨false, rfl, (fun h => by cases h), L5.out⟩
        · have d6 : decide (60 < qs) = false := by simpa using h6
          go_wp2
          go_roundw
          case rel => exact ⟨q + 1, by omega, by go_num, L5.out⟩
          case measure => simp [Go.RowKit.intOf]; omega
      · obtain rfl : q = n := by omega
        go_wp2
        go_ret
        exact ⟨true, rfl, fun _ => by omega, LR.out⟩
def mR (c : ComD) (g f : Bool) : MsgD := { MsgD.zero with kind := 14, good := g, fenced := f, cview := c.view, cstub := c.stub, csaga := c.saga, cstep := c.step, ctry := c.tr, cback := c.back }
def MsgOut (w : World) (e : Ending) (w' : World) : Prop := ∃ (m : MsgD) (s o i : Value), e = .returned (.agg (m.cells s o i).toArray) ∧ I64 m.csaga ∧ (∀ u ∈ m.cells s o i, u.oneCell' = true) ∧ Later w w'
variable {F : Nat → Prop} {kg kb kk : Nat} {most : Int} {t : BkS}
set_option maxHeartbeats 8000000 in
set_option maxRecDepth 100000 in
theorem wanted18_any (hk : BookAt F w kg kb kk most t) (hn : t.L.length ≤ 1000000) (p : ActV) (hpw : p.wf) (h1 : ∀ u ∈ p.m.cells p.ms p.mo p.mi, u.oneCell' = true) (v : Int) :
    Calls Tryz.prog 22 #[.pointer (some ⟨kg, 0, none⟩), .agg p.cells.toArray, .int .i64 v] w (MsgOut w) := by
  obtain ⟨W2, hW2⟩ : ∃ W2, W2 = (w.alloc (.cells p.cells.toArray 48 (0, 0))).alloc (.cells #[.int .i64 0, .int .i64 0, .int .i64 0, .int .i64 0, .int .i64 0, .int .i64 0, .int .i64 0, .int .i64 0, .int .i64 0, .bool false, .bool false, .bool false, .int .i64 0, .int .i64 0, .int .i64 0, .string ⟨#[]⟩, .slice none 0 0, .int .i64 0, .int .i64 0, .int .i64 0, .bool false, .bool false, .int .i64 0, .int .i64 0, .int .i64 0, .int .i64 0, .int .i64 0, .int .i64 0, .int .i64 0, .int .i64 0, .int .i64 0, .bool false, .slice none 0 0, .slice none 0 0] 46 (0, 0)) := ⟨_, rfl⟩
  obtain ⟨y, hy⟩ : ∃ y, y = w.heap.size := ⟨_, rfl⟩
  have X2 : Hid (ABox y p W2) := by rw [hW2, hy]; exact (heap_alloc_old _ _ (by simp)).trans (heap_alloc_new _ _)
  have Y2 : Hid (MsB (y + 1) MsgD.zero (.slice none 0 0) (.slice none 0 0) (.slice none 0 0) W2) := by rw [hW2, hy]; exact heap_second _ _ _
  have L2 : Hid (Later w W2) := by rw [hW2]; exact ((Below.refl _ _).alloc (Nat.le_refl _) _).alloc (by simp) _
  have HY : Hid (w.heap.size ≤ y) := Nat.le_of_eq hy.symm
  have HK := hide (hk.later L2.out)
  have CI := hide (ids_any HK.out hn)
  have HW2 := hide hW2.symm
  have HG := hide hy.symm
  have HPW := hide hpw
  have H1 := hide h1
  obtain ⟨n, hln⟩ : ∃ n, t.L.length = n := ⟨_, rfl⟩
  have HN := hide hln
  have HSL : Hid ((idsOf t.L).length = n) := by show _ = _; rw [← hln]; exact idsOf_len _
  rw [hln] at hn
  clear hk hW2 hy hpw h1 hln
  go_enter Tryz.func22, Tryz.ntmps22
  go_wp2_with (fail)
  simp only [HW2.out, HG.out]
  refine CI.out.mono ?_
  rintro e w3 hi3
  obtain ⟨A, c, rfl, h3, h4⟩ := hi3.row
  rw [HSL.out] at h3 ⊢
  have IDS := hide h3
  have L23 := hide h4
  have X3 := hide (X2.out.below h4)
  have Y3 : Hid (MsB (y + 1) MsgD.zero (.slice none 0 0) (.slice none 0 0) (.slice none 0 0) w3) := Y2.out.below h4
  have HK3 := hide (HK.out.later h4)
  have L3 : Hid (Later w w3) := Later.trans (show Later w W2 from L2.out) h4
  clear hi3 h3 h4 CI
  by_cases h0 : n = 0
  · subst h0
    go_wp2_with (first
      | (refine wpList_val rfl (by rfl) (exec_load_amsg _ (by rfl) (by rfl) X3.out) ?_)
      | (refine wpList_store_msg (m := p.m) (s := p.ms) (o := p.mo) (i := p.mi) (by rfl) _ _ (by rfl) (by rfl) Y3.out H1.out (by rfl) ?_; intro w4 Z4 G4))
    have HZ4 := hide Z4
    have HLF : Hid (Later w w4) := (show Later w w3 from L3.out).grown G4 (Below.size L3.out) (fun k hk => by have := Option.some.inj hk; have := HY.out; omega)
    refine bodyPost_ret (results_cell_row Tryz.results22 _ _ (y + 1) 46 _ (0, 0) _ (by rfl) HZ4.out Tryz.underlying46 (by rfl) (by kernel_rfl)) (by rfl) ?_
    exact ⟨p.m, p.ms, p.mo, p.mi, rfl, by have h := HPW.out.2.2.2; unfold MsgD.wf at h; exact h.2.2.2.2.2.2.2.2.2.2.2.2.2.2.2.2.1, H1.out, HLF.out⟩
  · have n0 : ¬ ((n : Int) = 0) := by omega
    have d1 := X3.out.c1
    obtain ⟨pn, hpn⟩ : ∃ pn, p.n = pn := ⟨_, rfl⟩
    rw [hpn] at d1
    obtain ⟨pg, hpg⟩ : ∃ pg, p.m.good = pg := ⟨_, rfl⟩
    obtain ⟨pf, hpf⟩ : ∃ pf, p.m.fenced = pf := ⟨_, rfl⟩
    have HPG := hide hpg
    have HPF := hide hpf
    clear hpn hpg hpf
    have hu : IntKind.u64.wrap pn = pn % 18446744073709551616 := rfl
    obtain ⟨r, hr, hrn⟩ : ∃ r : Nat, wrap64 ((IntKind.u64.wrap pn).tmod (n : Int)) = (r : Int) ∧ r < n := by
      have h1 : 0 ≤ IntKind.u64.wrap pn := by rw [hu]; omega
      have h2 : (IntKind.u64.wrap pn).tmod (n : Int) = (IntKind.u64.wrap pn) % (n : Int) := Int.tmod_eq_emod_of_nonneg h1
      have h3 : 0 ≤ (IntKind.u64.wrap pn) % (n : Int) := Int.emod_nonneg _ (by omega)
      have h4 : (IntKind.u64.wrap pn) % (n : Int) < (n : Int) := Int.emod_lt_of_pos _ (by omega)
      refine ⟨((IntKind.u64.wrap pn) % (n : Int)).toNat, ?_, by omega⟩
      rw [h2]
      unfold wrap64
      omega
    obtain ⟨xi, ub, uo, uc, hx, hvv, _, hub, _, hcell⟩ := IncsAt.at_ IDS.out (i := r) (by rw [HSL.out]; exact hrn)
    rw [HSL.out] at hvv
    obtain ⟨rfl, rfl⟩ : A = some ⟨ub, uo, none⟩ ∧ c = uc := by injection hvv with e1 _ e3; exact ⟨e1, e3⟩
    obtain ⟨x, hp, rfl⟩ := idsOf_at hx
    have hxe := entAt_get HK3.out.ok.1 hp
    obtain ⟨hok, hid62⟩ := HK3.out.ok.2.1 x (entAt_mem hxe).1
    have hid1 := hok.2.2.2
    have HID : Hid (I64 x.id) := ⟨by omega, by omega⟩
    have CS := hide (saga_any HK3.out (id := x.id) HID.out)
    rw [show atS t x.id = x.s from by unfold atS; rw [hxe], show atL t x.id = x.l from by unfold atL; rw [hxe]] at CS
    have HOK := hide hok
    clear hu hx hvv hp hxe hok hid62 hid1
    go_wp2_with (fail)
    refine CS.out.mono ?_
    rintro e w4 ⟨sp, sn, sc, rfl, hs, hl4⟩
    obtain ⟨s2, hs2⟩ : ∃ s2, x.s.withV sp sn sc = s2 := ⟨_, rfl⟩
    have hv : s2.v = .slice sp sn sc := by rw [← hs2]; rfl
    rw [← hv] at hs
    rw [hs2]
    have I2 : Hid (I64 s2.step) := by show I64 _; rw [← hs2]; have := HOK.out.2.2.1; exact ⟨by show _ ≤ x.s.step; omega, by show x.s.step < _; omega⟩
    have T4 : Hid (SBox 72 w4.heap.size SagaD.zero (w4.alloc (.cells #[.string ⟨#[]⟩, .slice none 0 0, .int .i64 0, .int .i64 0, .int .i64 0, .bool false, .bool false, .bool false, .bool false, .bool false, .bool false, .bool false, .bool false] 72 (0, 0)))) := heap_alloc_new _ _
    have L4a : Hid (Later w4 (w4.alloc (.cells #[.string ⟨#[]⟩, .slice none 0 0, .int .i64 0, .int .i64 0, .int .i64 0, .bool false, .bool false, .bool false, .bool false, .bool false, .bool false, .bool false, .bool false] 72 (0, 0)))) := (Below.refl _ _).alloc (Nat.le_refl _) _
    have HS := hide hs
    have L34 := hide hl4
    clear hs hl4 CS hv hs2 hcell d1 hr
    go_wp2_with (refine wpList_store_saga (s := s2) (by rfl) _ _ (by rfl) (by rfl) T4.out (by rfl) ?_)
    intro w5 X5 G5
    have L45 : Hid (Later w4 w5) := L4a.out.grown G5 (by simp) (fun k hk => by have := Option.some.inj hk; omega)
    have HX5 := hide X5
    have CW := hide (wants_any (StepsAt.kept HS.out (Kept.of_below L45.out _)) HOK.out.1 I2.out)
    unfold Wanted at CW
    obtain ⟨cm, hcm⟩ : ∃ cm, wantsC x.l s2 = cm := ⟨_, rfl⟩
    rw [hcm] at CW
    have L35 : Hid (Later w3 w5) := Later.trans (show Later w3 w4 from L34.out) L45.out
    clear X5 G5 hcm T4 L4a
    go_wp2_with (refine wpList_load_saga (by rfl) _ (by rfl) (by rfl) HX5.out ?_)
    refine CW.out.mono ?_
    rintro e w6 ⟨rfl, hl6⟩
    have L36 : Hid (Later w3 w6) := Later.trans (show Later w3 w5 from L35.out) hl6
    have T6 : Hid (MBox w6.heap.size ComD.zero (w6.alloc (.cells #[.int .i64 0, .int .i64 0, .int .i64 0, .int .i64 0, .int .i64 0, .bool false] 42 (0, 0)))) := heap_alloc_new _ _
    have LA6 : Hid (Later w6 (w6.alloc (.cells #[.int .i64 0, .int .i64 0, .int .i64 0, .int .i64 0, .int .i64 0, .bool false] 42 (0, 0)))) := (Below.refl _ _).alloc (Nat.le_refl _) _
    clear hl6 CW
    go_wp2_with (refine wpList_store_com (c := ⟨0, cm.stub, 0, cm.step, cm.tr, cm.back⟩) (by rfl) _ _ (by rfl) (by rfl) T6.out (by rfl) ?_)
    intro w7 X7 G7
    have L67 : Hid (Later w6 w7) := LA6.out.grown G7 (by simp) (fun k hk => by have := Option.some.inj hk; omega)
    obtain ⟨z, hz⟩ : ∃ z, w6.heap.size = z := ⟨_, rfl⟩
    rw [hz] at X7 ⊢
    have HX7 := hide X7
    have L37 : Hid (Later w3 w7) := Later.trans (show Later w3 w6 from L36.out) L67.out
    have HZ : Hid (y + 1 < z ∧ w.heap.size ≤ z) := by
      have h1 := lt_of_block (Y3.out.below L36.out)
      have h2 := HY.out
      rw [hz] at h1
      exact ⟨h1, by omega⟩
    obtain ⟨k0, _, k2, _, _, _, kf⟩ := X7.cells
    have kf0 := kf 0
    have kf2 := kf 2
    obtain ⟨w8, hw8⟩ : ∃ w8, w8 = (w7.setCell ⟨z, 2, none⟩ (.int .i64 x.id)).setCell ⟨z, 0, none⟩ (.int .i64 v) := ⟨_, rfl⟩
    have X8 : Hid (MBox z ⟨v, cm.stub, x.id, cm.step, cm.tr, cm.back⟩ w8) := by rw [hw8]; exact MBox.tagged HX7.out v x.id
    have G8 : w7.grownBy w8 (some z) := by rw [hw8]; exact grown_trans (grown_set w7 z 2 _) (grown_set _ z 0 _)
    have L8 : Hid (Later w3 w8) := (show Later w3 w7 from L37.out).grown G8 (Below.size L37.out) (fun k hk => by have := Option.some.inj hk; have h1 := Below.size L36.out; omega)
    have HW8 := hide hw8.symm
    have xe := X8.out
    rw [← HW8.out] at xe
    have XE := hide xe
    have Y8 : Hid (MsB (y + 1) MsgD.zero (.slice none 0 0) (.slice none 0 0) (.slice none 0 0) w8) := Y3.out.below L8.out
    have eg := (X3.out.below L8.out).cg
    have ef := (X3.out.below L8.out).cf
    rw [HPG.out] at eg
    rw [HPF.out] at ef
    clear X7 G7 G8 hw8 kf xe T6 LA6 hz
    go_wp2_with (first
      | (refine wpList_val rfl (by rfl) (exec_load_com _ (by rfl) (by rfl) XE.out) ?_; simp only [HW8.out])
      | (refine wpList_build_parts (by rfl) 46 _ (by rfl) [(0, .int .i64 14), (14, (ComD.mk v cm.stub x.id cm.step cm.tr cm.back).val), (10, .bool pg), (11, .bool pf)] (by rfl) ((mR ⟨v, cm.stub, x.id, cm.step, cm.tr, cm.back⟩ pg pf).cells (.slice none 0 0) (.slice none 0 0) (.slice none 0 0)).toArray (by kernel_rfl) ?_)
      | (refine wpList_store_msg (m := mR ⟨v, cm.stub, x.id, cm.step, cm.tr, cm.back⟩ pg pf) (s := .slice none 0 0) (o := .slice none 0 0) (i := .slice none 0 0) (by rfl) _ _ (by rfl) (by rfl) Y8.out (MsgD.one _ rfl rfl rfl) (by rfl) ?_; intro w9 Z9 G9))
    have HZ9 := hide Z9
    have L9a : Later w w8 := Later.trans (show Later w w3 from L3.out) L8.out
    have HLF : Hid (Later w w9) := L9a.grown G9 (Below.size L9a) (fun k hk => by have := Option.some.inj hk; have := HY.out; omega)
    refine bodyPost_ret (results_cell_row Tryz.results22 _ _ (y + 1) 46 _ (0, 0) _ (by rfl) HZ9.out Tryz.underlying46 (by rfl) (by kernel_rfl)) (by rfl) ?_
    exact ⟨mR ⟨v, cm.stub, x.id, cm.step, cm.tr, cm.back⟩ pg pf, _, _, _, rfl, HID.out, MsgD.one _ rfl rfl rfl, HLF.out⟩
end
end Go.Proofs.YtdkiopajilakcaaGreat
/- How much a book grows with an operation. -/
namespace Go.Proofs.YtdkiopajilakcaaGreat
open Go.RowKit
theorem oroom_len (L : List Ent) : (roomF L).length ≤ L.length := by
  unfold roomF
  split
  · omega
  · split
    · omega
    · exact List.length_filter_le _ _
/-- One operation: the last number and how many there are go up by one at most. -/
theorem oapply_grow (most : Int) (t : BkS) (o : OpD) : (applyS most t o).last ≤ t.last + 1 ∧ t.last ≤ (applyS most t o).last ∧ (applyS most t o).L.length ≤ t.L.length + 1 := by
  have hev : ∀ ev id, (eventS ev t id).last ≤ t.last + 1 ∧ t.last ≤ (eventS ev t id).last ∧ (eventS ev t id).L.length ≤ t.L.length + 1 := fun ev id => by
    unfold eventS
    split
    · exact ⟨by omega, by omega, by omega⟩
    · split
      · exact ⟨by omega, by omega, by omega⟩
      · exact ⟨by show t.last ≤ _; omega, Int.le_refl _, putE_len _ _⟩
  unfold applyS
  split
  · unfold startS
    split
    · exact ⟨by omega, by omega, by omega⟩
    · split
      · exact ⟨by omega, by omega, by omega⟩
      · refine ⟨Int.le_refl _, by show t.last ≤ t.last + 1; omega, ?_⟩
        have h1 := putE_len (newE (t.last + 1) o.name o.steps) (roomF t.L)
        have h2 := oroom_len t.L
        show (putE _ _).length ≤ _
        omega
  · split
    · exact hev _ _
    · split
      · exact hev _ _
      · split
        · exact hev _ _
        · exact ⟨by omega, by omega, by omega⟩
end Go.Proofs.YtdkiopajilakcaaGreat
/- A book, a box and a row of what was told, side by side. -/
namespace Go.Proofs.YtdkiopajilakcaaGreat
open Go.RowKit Go.Maps
/-- A book and a box, made since W0; of blocks of which X does not hold the book knows nothing. -/
structure BQ (X : Nat → Prop) (W0 w : World) (kg kb og ob : Nat) (most v : Int) (t : BkS) (B : List PlD) (kk ok a : Nat) : Prop where
  book : BookAt (fun i => FF kg kb og ob i ∧ X i) w kg kb kk most t
  box : BoxAt w og ob ok v a B
  new : W0.heap.size ≤ kg ∧ W0.heap.size ≤ kb ∧ W0.heap.size ≤ og ∧ W0.heap.size ≤ ob
  ne : og ≠ kg ∧ og ≠ kb ∧ ob ≠ kg ∧ ob ≠ kb
  bel : Later W0 w
section
variable {X X' : Nat → Prop} {W0 w w' : World} {kg kb og ob : Nat} {most v : Int} {t : BkS} {B : List PlD} {kk ok a : Nat}
theorem BQ.later (h : BQ X W0 w kg kb og ob most v t B kk ok a) (hl : Later w w') : BQ X W0 w' kg kb og ob most v t B kk ok a := ⟨h.book.later hl, h.box.later hl, h.new, h.ne, Later.trans h.bel hl⟩
theorem BQ.blocks (h : BQ X W0 w kg kb og ob most v t B kk ok a) : kg < w.heap.size ∧ kb < w.heap.size ∧ og < w.heap.size ∧ ob < w.heap.size := ⟨h.book.lt.1, h.book.lt.2, h.box.lt.1, h.box.lt.2⟩
theorem BQ.mono (h : BQ X W0 w kg kb og ob most v t B kk ok a) (hx : ∀ i, i < w.heap.size → X i → X' i) : BQ X' W0 w kg kb og ob most v t B kk ok a :=
  ⟨h.book.mono (fun i hi hf => ⟨hf.1, hx i hi hf.2⟩) (fun e => e.1.1 rfl) (fun e => e.1.2.1 rfl), h.box, h.new, h.ne, h.bel⟩
theorem BQ.turned {S : Nat → Prop} (h : BQ X W0 w kg kb og ob most v t B kk ok a) (ht : Turned S w w') (hs : ∀ i, S i → ¬ X i ∧ FF kg kb og ob i ∧ W0.heap.size ≤ i) : BQ X W0 w' kg kb og ob most v t B kk ok a :=
  ⟨h.book.turned ht (fun e => (hs _ e).2.1.1 rfl) (fun e => (hs _ e).2.1.2.1 rfl) (fun i hi e => (hs i e).1 hi.2), h.box.turned ht (fun e => (hs _ e).2.1.2.2.1 rfl) (fun e => (hs _ e).2.1.2.2.2 rfl), h.new, h.ne, below_of h.bel rfl ht (fun i hi => (hs i hi).2.2)⟩
theorem qbook_moved {S : Nat → Prop} {b' : Nat} (h : BookAt (fun i => FF kg kb og ob i ∧ X i) w kg kb kk most t) (ht : Turned S w w') (hs : ∀ i, S i → i = og ∨ i = ob) (hb : w.heap.size ≤ b') (hne : og ≠ kg ∧ og ≠ kb ∧ ob ≠ kg ∧ ob ≠ kb) : BookAt (fun i => FF kg kb og b' i ∧ X i) w' kg kb kk most t := by
  have hl := h.lt
  have h1 : BookAt (fun i => (FF kg kb og ob i ∧ X i) ∧ i ≠ b') w kg kb kk most t := h.mono (fun i hi hf => ⟨hf, by omega⟩) (fun e => e.1.1.1 rfl) (fun e => e.1.1.2.1 rfl)
  have h2 := h1.turned ht (fun e => by have := hs _ e; omega) (fun e => by have := hs _ e; omega) (fun i hi e => by have := hs _ e; have := hi.1.1; unfold FF at this; omega)
  exact h2.mono (fun i _ hi => ⟨⟨hi.1.1.1, hi.1.1.2.1, hi.1.1.2.2.1, hi.2⟩, hi.1.2⟩) (fun e => e.1.1 rfl) (fun e => e.1.2.1 rfl)
def QSync (X : Nat → Prop) (W0 : World) (kg kb og : Nat) (most v : Int) (t : BkS) (B : List PlD) (kk a : Nat) (w : World) (e : Ending) (w' : World) : Prop :=
  ∃ sv ob', e = .returned sv ∧ w.heap.size ≤ ob' ∧ w'.ownsRow w.heap.size 42 6 sv (syncA v B t.L).length (coms (syncA v B t.L)) ∧ BQ X W0 w' kg kb og ob' most v t (syncL v B t.L) kk t.L.length a ∧ Turned (fun i => i = og) w w'
theorem bq_sync (h : BQ X W0 w kg kb og ob most v t B kk ok a) (hn : t.L.length ≤ 1000000) : Calls Tryz.prog 17 #[.pointer (some ⟨og, 0, none⟩), .pointer (some ⟨kg, 0, none⟩)] w (QSync X W0 kg kb og most v t B kk a w) := by
  refine (sync_any h.box h.book hn).mono ?_
  rintro e w' ⟨sv, b', rfl, hb, hr, hB, hT⟩
  have hl := h.blocks
  have hs := Below.size h.bel
  refine ⟨sv, b', rfl, hb, own_down hr (by omega), ⟨qbook_moved h.book hT (fun i hi => .inl hi) hb h.ne, hB, ⟨h.new.1, h.new.2.1, h.new.2.2.1, by omega⟩, ⟨h.ne.1, h.ne.2.1, by omega, by omega⟩, below_of h.bel rfl hT (fun i hi => by have := h.new.2.2.1; omega)⟩, hT⟩
def QTick (X : Nat → Prop) (W0 : World) (kg kb og ob : Nat) (most v : Int) (t : BkS) (A0 : List ComD) (B2 : List PlD) (kk a : Nat) (w : World) (e : Ending) (w' : World) : Prop :=
  ∃ sv ov ob', e = .returned (.tuple #[sv, ov]) ∧ w.heap.size ≤ ob' ∧ w'.ownsRow w.heap.size 42 6 sv (A0 ++ tickA B2).length (coms (A0 ++ tickA B2)) ∧ w'.ownsRow w.heap.size 37 10 ov (tickO B2).length (opsC (tickO B2)) ∧
    BQ X W0 w' kg kb og ob' most v t (tickL B2) kk (t.L.length + t.L.length) (a + 1) ∧ Turned (fun i => i = og ∨ i = ob) w w'
theorem bq_tick (h : BQ X W0 w kg kb og ob most v t B kk ok a) (hn : t.L.length ≤ 1000000) (hk : ok ≤ 100000000) (ha : a ≤ 1000000) :
    Calls Tryz.prog 19 #[.pointer (some ⟨og, 0, none⟩), .pointer (some ⟨kg, 0, none⟩)] w (QTick X W0 kg kb og ob most v t (syncA v (growL B) t.L) (syncL v (growL B) t.L) kk a w) := by
  refine (otick_any h.box h.book hn hk ha ⟨h.ne.1, h.ne.2.2.1, h.ne.2.1, h.ne.2.2.2, fun e => e.1.2.2.1 rfl, fun e => e.1.2.2.2 rfl⟩).mono ?_
  rintro e w' ⟨sv, ov, b', rfl, hb, hr, hr2, hB, hT⟩
  have hl := h.blocks
  have hs := Below.size h.bel
  refine ⟨sv, ov, b', rfl, hb, hr, hr2, ⟨qbook_moved h.book hT (fun i hi => hi) hb h.ne, hB, ⟨h.new.1, h.new.2.1, h.new.2.2.1, by omega⟩, ⟨h.ne.1, h.ne.2.1, by omega, by omega⟩, below_of h.bel rfl hT (fun i hi => by have := h.new; omega)⟩, hT⟩
def QApply (X : Nat → Prop) (W0 : World) (kg kb og ob : Nat) (most v : Int) (r : RepD) (t : BkS) (B : List PlD) (kk ok a : Nat) (w : World) (e : Ending) (w' : World) : Prop :=
  e = .returned r.val ∧ BQ X W0 w' kg kb og ob most v t B kk ok a ∧ Turned (fun i => i = kg ∨ i = kb) w w'
theorem bq_apply {F0 : Nat → Prop} {o : OpD} {A : Option Addr} {n c : Nat} (h : BQ X W0 w kg kb og ob most v t B kk ok a) (hx : ∀ i, w.heap.size ≤ i → X i) (hk : kk ≤ 1000000) (hn : t.L.length ≤ 1000000) (hst : StepsAt F0 w (.slice A n c) o.steps) (hw : o.wf) (hla : t.last < 4611686018427387904) :
    Calls Tryz.prog 14 #[.pointer (some ⟨kg, 0, none⟩), .agg (o.cells (.slice A n c)).toArray] w (QApply X W0 kg kb og ob most v (applyR most t o) (applyS most t o) B (kk + 1) ok a w) := by
  have hl := h.blocks
  refine (apply_any h.book hk hn hst hw hla (fun i hi => ⟨⟨by omega, by omega, by omega, by omega⟩, hx i hi⟩)).mono ?_
  rintro e w' ⟨rfl, hB, hT⟩
  exact ⟨rfl, ⟨hB, h.box.turned hT (by have := h.ne; omega) (by have := h.ne; omega), h.new, h.ne, below_of h.bel rfl hT (fun i hi => by have := h.new; omega)⟩, hT⟩
def QRes (X : Nat → Prop) (W0 : World) (kg kb og ob : Nat) (most v : Int) (t : BkS) (B : List PlD) (m : MsgD) (kk ok a : Nat) (w : World) (e : Ending) (w' : World) : Prop :=
  match resF B m with
  | none => e = .returned (.tuple #[.agg (OpD.zero.cells (.slice none 0 0)).toArray, .bool false]) ∧ Later w w'
  | some p => e = .returned (.tuple #[.agg ((opP 4 m.good p).cells (.slice none 0 0)).toArray, .bool true]) ∧ BQ X W0 w' kg kb og ob most v t (tellL B m.csaga) kk (ok + 1) a ∧ Turned (fun i => i = ob) w w'
theorem bq_result {m : MsgD} {s o i : Value} (h : BQ X W0 w kg kb og ob most v t B kk ok a) (hk6 : ok ≤ 100000000) (hI : I64 m.csaga) :
    Calls Tryz.prog 23 #[.pointer (some ⟨og, 0, none⟩), .agg (m.cells s o i).toArray] w (QRes X W0 kg kb og ob most v t B m kk ok a w) := by
  refine (oresult_any h.box hk6 hI).mono ?_
  intro e w' hr
  unfold Resulted at hr
  unfold QRes
  cases hres : resF B m with
  | none => rw [hres] at hr; exact hr
  | some p =>
    rw [hres] at hr
    obtain ⟨rfl, hB, hT⟩ := hr
    exact ⟨rfl, ⟨h.book.turned hT (fun e => h.ne.2.2.1 e.symm) (fun e => h.ne.2.2.2 e.symm) (fun i hi e => hi.1.2.2.2 e), hB, h.new, h.ne, below_of h.bel rfl hT (fun i hi => by have := h.new; omega)⟩, hT⟩
theorem BQ.start {w1 : World} (hx : ∀ i, X i) (h1 : W0.heap.size ≤ kg ∧ W0.heap.size ≤ kb) (h2 : W0.heap.size ≤ og ∧ W0.heap.size ≤ ob) (hl1 : Later W0 w1) (hB : BoxAt w1 og ob 0 v 0 []) (h3 : w1.heap.size ≤ kg ∧ w1.heap.size ≤ kb) (hl2 : Later w1 w) (hb : ∀ F : Nat → Prop, ¬ F kg → ¬ F kb → BookAt F w kg kb 0 most ⟨0, []⟩) : BQ X W0 w kg kb og ob most v ⟨0, []⟩ [] 0 0 0 := by
  have hl := hB.lt
  exact ⟨hb (fun i => FF kg kb og ob i ∧ X i) (fun e => e.1.1 rfl) (fun e => e.1.2.1 rfl), hB.later hl2, ⟨h1.1, h1.2, h2.1, h2.2⟩, ⟨by omega, by omega, by omega, by omega⟩, Later.trans hl1 hl2⟩
end
/-- Slices of commands and of operations without steps. -/
def CmsAt (F : Nat → Prop) (w : World) (v : Value) (l : List ComD) : Prop := FlatAt F w 6 v l.length (coms l)
def OpcAt (F : Nat → Prop) (w : World) (v : Value) (l : List OpD) : Prop := FlatAt F w 10 v l.length (opsC l)
theorem qcoms_one (l : List ComD) : ∀ u ∈ coms l, u.oneCell' = true := by
  intro u hu
  obtain ⟨c, _, hc⟩ := List.mem_flatMap.1 hu
  exact c.one u hc
theorem qops_one (l : List OpD) : ∀ u ∈ opsC l, u.oneCell' = true := by
  intro u hu
  obtain ⟨c, _, hc⟩ := List.mem_flatMap.1 hu
  exact oop_one c rfl u hc
theorem CmsAt.at_ {F : Nat → Prop} {w : World} {v : Value} {l : List ComD} (h : CmsAt F w v l) {i : Nat} (hi : i < l.length) : ∃ c b off cap, l[i]? = some c ∧ v = .slice (some ⟨b, off, none⟩) l.length cap ∧ F b ∧ b < w.heap.size ∧ w.rangeAt b (off + i * 6) c.cells := by
  obtain ⟨b, off, cap, hv, hc, hf, hb, hr⟩ := FlatAt.elem h hi
  have hs : l[i]? = some l[i] := List.getElem?_eq_getElem hi
  refine ⟨l[i], b, off, cap, hs, hv, hf, hb, ?_⟩
  unfold coms at hr
  rwa [flat_get ComD.cells 6 l i _ (fun y _ => rfl) hs] at hr
theorem OpcAt.at_ {F : Nat → Prop} {w : World} {v : Value} {l : List OpD} (h : OpcAt F w v l) {i : Nat} (hi : i < l.length) : ∃ c b off cap, l[i]? = some c ∧ v = .slice (some ⟨b, off, none⟩) l.length cap ∧ F b ∧ b < w.heap.size ∧ w.rangeAt b (off + i * 10) (c.cells (.slice none 0 0)) := by
  obtain ⟨b, off, cap, hv, hc, hf, hb, hr⟩ := FlatAt.elem h hi
  have hs : l[i]? = some l[i] := List.getElem?_eq_getElem hi
  refine ⟨l[i], b, off, cap, hs, hv, hf, hb, ?_⟩
  unfold opsC at hr
  rwa [flat_get (fun o : OpD => o.cells (.slice none 0 0)) 10 l i _ (fun y _ => rfl) hs] at hr
theorem exec_load_qcom {op : Oper} {a : Act} {W : World} {c : ComD} (x : Operand) (ho : op.op = .load 42 x) {b off : Nat} (hx : a.eval x = .pointer (some ⟨b, off, none⟩)) (hr : W.rangeAt b off c.cells) : (execOp a.eval op).run Tryz.prog W = .ok (.value c.val) W :=
  exec_load_range 42 x ho b off hx c.cells hr _ Tryz.underlying42 (by rfl) (by kernel_rfl)
theorem exec_load_qop {op : Oper} {a : Act} {W : World} {o : OpD} {s : Value} (x : Operand) (ho : op.op = .load 37 x) {b off : Nat} (hx : a.eval x = .pointer (some ⟨b, off, none⟩)) (hr : W.rangeAt b off (o.cells s)) : (execOp a.eval op).run Tryz.prog W = .ok (.value (.agg (o.cells s).toArray)) W :=
  exec_load_range 37 x ho b off hx (o.cells s) hr _ Tryz.underlying37 (by rfl) (by kernel_rfl)
theorem exec_load_qmsg {op : Oper} {a : Act} {W : World} {y : Nat} {m : MsgD} {s o i : Value} (x : Operand) (ho : op.op = .load 46 x) (hx : a.eval x = .pointer (some ⟨y, 0, none⟩)) (hg : MsB y m s o i W) : (execOp a.eval op).run Tryz.prog W = .ok (.value (.agg (m.cells s o i).toArray)) W :=
  exec_load_box 46 x ho y 0 hx _ _ hg 34 _ Tryz.underlying46 (by rfl) (by kernel_rfl) (m.cells s o i) (by rfl) (by rfl)
/-- Of the new ones none was told, nor are two alike. -/
def Fresh18 (T O : List OpD) : Prop := ∀ j o, O[j]? = some o → ∀ r ∈ T ++ O.take j, ¬ (r.saga = o.saga ∧ r.step = o.step ∧ r.try_ = o.try_ ∧ r.back = o.back)
theorem fresh_nil (T : List OpD) : Fresh18 T [] := fun j o h => by simp at h
theorem fresh_tell {v : Int} {t : BkS} {B : List PlD} {T : List OpD} (h : OnceI v t B T) (f : PlD → Bool) (kind : Int) (good : Bool) (hf : ∀ p ∈ B, f p = true → p.told = false) : Fresh18 T ((B.filter f).map (opP kind good)) := by
  intro j o ho r hr he
  rw [List.getElem?_map] at ho
  cases hp : (B.filter f)[j]? with
  | none => rw [hp] at ho; cases ho
  | some p =>
    rw [hp] at ho
    obtain rfl : opP kind good p = o := Option.some.inj ho
    have hm := List.mem_filter.1 (List.mem_of_getElem? hp)
    rcases List.mem_append.1 hr with hr | hr
    · exact h.open_ p hm.1 (hf p hm.1 hm.2) r hr ⟨he.1, he.2.1, he.2.2.1, he.2.2.2⟩
    · rw [← List.map_take] at hr
      obtain ⟨q, hq, rfl⟩ := List.mem_map.1 hr
      have h1 := split_at hp
      have hrise : RiseP (B.filter f) := List.Pairwise.filter _ h.rise
      unfold RiseP at hrise
      rw [h1] at hrise
      have := (List.pairwise_append.1 hrise).2.2 q hq p (by simp)
      have h2 : q.c.saga = p.c.saga := he.1
      omega
theorem syncA_now {v : Int} {t : BkS} {B : List PlD} (hr : RiseE t.L) : ∀ c ∈ syncA v B t.L, NowC t v c := by
  intro c hc
  obtain ⟨x, hx, rfl⟩ := List.mem_map.1 hc
  obtain ⟨hm, hw⟩ := List.mem_filter.1 hx
  rw [Bool.and_eq_true] at hw
  exact ⟨x, entAt_in hr hm, hw.1, rfl⟩
theorem tickA_now {v : Int} {t : BkS} {B : List PlD} (hr : RiseE t.L) : ∀ c ∈ tickA (syncL v B t.L), NowC t v c := by
  intro c hc
  obtain ⟨p, hp, rfl⟩ := List.mem_map.1 hc
  exact sync_now hr B p (List.mem_filter.1 hp).1
theorem tickL_tell (B : List PlD) : tickL B = B.map fun p => if lapsed p then p.tell else p := rfl
theorem lapsed_open {p : PlD} (h : lapsed p = true) : p.told = false := by
  unfold lapsed at h
  simp only [Bool.and_eq_true, Bool.not_eq_true', decide_eq_false_iff_not, decide_eq_true_eq] at h
  exact h.2.1
/-- What a result does to the box and to what was told. -/
theorem OnceI.res {v : Int} {t : BkS} {B : List PlD} {T : List OpD} {m : MsgD} {p : PlD} (h : OnceI v t B T) (hr : resF B m = some p) : OnceI v t (tellL B m.csaga) (T ++ [opP 4 m.good p]) ∧ Fresh18 T [opP 4 m.good p] := by
  unfold resF at hr
  split at hr
  · unfold resP at hr
    cases hpl : plAt B (comM m).saga with
    | none => rw [hpl] at hr; cases hr
    | some q =>
      rw [hpl] at hr
      simp only at hr
      split at hr
      · rename_i hq
        obtain rfl : q = p := Option.some.inj hr
        rw [Bool.and_eq_true] at hq
        have hq1 : q.told = false := by simpa using hq.1
        obtain ⟨hm, hs⟩ := plAt_mem hpl
        have hs : q.c.saga = m.csaga := hs
        have hone : ∀ x ∈ B, decide (x.c.saga = m.csaga) = true → x = q := fun x hx hd => by
          have e1 := plAt_of h.rise hx
          rw [show x.c.saga = (comM m).saga from of_decide_eq_true hd, hpl] at e1
          exact (Option.some.inj e1).symm
        have hf : ∀ x ∈ B, decide (x.c.saga = m.csaga) = true → x.told = false := fun x hx hd => by rw [hone x hx hd]; exact hq1
        have e2 : B.filter (fun x => decide (x.c.saga = m.csaga)) = [q] := by
          obtain ⟨B1, B2, rfl⟩ := List.append_of_mem hm
          obtain ⟨_, r2, r3⟩ := List.pairwise_append.1 h.rise
          obtain ⟨r4, _⟩ := List.pairwise_cons.1 r2
          rw [List.filter_append, List.filter_cons_of_pos (by simp [hs]), List.filter_eq_nil_iff.2 (fun x hx => by have := r3 x hx q (by simp); simp; omega), List.filter_eq_nil_iff.2 (fun x hx => by have := r4 x hx; simp; omega)]
          rfl
        have h1 := h.tell (fun x => decide (x.c.saga = m.csaga)) 4 m.good hf
        have h2 := fresh_tell h (fun x => decide (x.c.saga = m.csaga)) 4 m.good hf
        rw [e2] at h1 h2
        refine ⟨?_, h2⟩
        have e3 : tellL B m.csaga = B.map fun x => if decide (x.c.saga = m.csaga) = true then x.tell else x := by
          unfold tellL
          exact List.map_congr_left fun x _ => by simp
        rw [e3]
        exact h1
      · cases hr
  · cases hr
end Go.Proofs.YtdkiopajilakcaaGreat
/- OutboxOnce. -/
namespace Go.Proofs.YtdkiopajilakcaaGreat
open Go.RowKit Go.Maps
def LawTrueO (w : World) (e : Ending) (w' : World) : Prop := e = .returned (.bool true) ∧ Later w w'
/-- How a row of what was told lies. -/
def TRow (w : World) (base kg kb og ob : Nat) (tv : Value) (T : List OpD) : Prop := w.ownsRow base 37 10 tv T.length (opsC T) ∧ ∀ i, tv.ownBlock = some i → FF kg kb og ob i ∧ i < w.heap.size
theorem TRow.turned {S : Nat → Prop} {w w' : World} {base kg kb og ob ob' : Nat} {tv : Value} {T : List OpD} (h : TRow w base kg kb og ob tv T) (ht : Turned S w w') (hs : ∀ i, S i → ¬ FF kg kb og ob i) (ho : ob' = ob ∨ w.heap.size ≤ ob') : TRow w' base kg kb og ob' tv T := by
  refine ⟨?_, fun i e => ?_⟩
  · rcases h.1.2 with ⟨e1, e2⟩ | ⟨g, cap, cur, e1, hb, hg, rest⟩
    · exact ⟨h.1.1, .inl ⟨e1, e2⟩⟩
    · have hf := h.2 g (by rw [e1]; rfl)
      exact ⟨h.1.1, .inr ⟨g, cap, cur, e1, hb, (ht.block g (lt_of_block hg) (fun hS => hs g hS hf.1)).trans hg, rest⟩⟩
  · obtain ⟨h1, h2⟩ := h.2 i e
    refine ⟨⟨h1.1, h1.2.1, h1.2.2.1, ?_⟩, Nat.lt_of_lt_of_le h2 ht.size⟩
    rcases ho with rfl | ho
    · exact h1.2.2.2
    · omega
theorem TRow.later {w w' : World} {base kg kb og ob : Nat} {tv : Value} {T : List OpD} (h : TRow w base kg kb og ob tv T) (hl : Later w w') : TRow w' base kg kb og ob tv T :=
  h.turned (Turned.of_below hl (fun _ => False)) (fun _ hi => hi.elim) (.inl rfl)
section
variable {w : World}
set_option maxHeartbeats 32000000 in
set_option maxRecDepth 100000 in
theorem law_once {F0 : Nat → Prop} {va : Value} {ps : List ActV} (u : Int) (hu0 : 0 ≤ u) (_hu1 : u < 18446744073709551616) (hps : ActsIn F0 w va ps) (hwf : ∀ p ∈ ps, p.wf) :
    Calls Tryz.prog 4 #[.int .u64 u, va] w (LawTrueO w) := by
  obtain ⟨i0, hi, hz0, hz1, hz2⟩ := info_parts op_info
  have HJ := hide hi
  have HJ0 := hide hz0
  have HJ1 := hide hz1
  have HJ2 := hide hz2
  obtain ⟨N, hN⟩ : ∃ N : Nat, u % 1000 = (N : Int) := ⟨(u % 1000).toNat, by omega⟩
  have hN9 : N ≤ 999 := by omega
  obtain ⟨A, cp, rfl, _, _, _⟩ := FlatAt.shape hps.1
  have CN := hide (onew_yes (N : Int) w (by omega))
  have HA := hide hps
  have HWF := hide hwf
  have hsm : ps.length ≤ 9223372036854775807 := by
    obtain ⟨A', c', _, h1, h2, _⟩ := FlatAt.shape hps.1
    unfold maxLen at h2
    omega
  obtain ⟨n, hn⟩ : ∃ n, ps.length = n := ⟨_, rfl⟩
  have HN := hide hn
  rw [hn] at HA hsm ⊢
  clear hi hz0 hz1 hz2 hps hwf hn
  go_enter Tryz.func4, Tryz.ntmps4
  go_wp2_with (fail)
  refine CN.out.mono ?_
  rintro e w1 ⟨og, ob0, rfl, ho1, ho2, hl1, hbx⟩
  have HO := hide (And.intro ho1 ho2)
  have L1 : Hid (Later w w1) := hl1
  have HB1 := hide hbx
  have CB := hide (new_yes 8 w1 (by decide) (by decide))
  clear ho1 ho2 hl1 hbx CN
  go_wp2_with (fail)
  refine CB.out.mono ?_
  rintro e w2 ⟨kg, kb, rfl, hk1, hk2, hl2, hbk⟩
  have P2 : Hid (BQ (fun _ => True) w w2 kg kb og ob0 8 (N : Int) ⟨0, []⟩ [] 0 0 0) := BQ.start (fun _ => trivial) ⟨by have := Below.size L1.out; omega, by have := Below.size L1.out; omega⟩ HO.out L1.out HB1.out ⟨hk1, hk2⟩ hl2 hbk
  have CL := hide (light18_any (HA.out.kept (Kept.of_below P2.out.bel _)) HWF.out)
  unfold LightA at CL
  rw [HN.out] at CL
  clear hk1 hk2 hl2 hbk CB
  go_wp2_with (fail)
  refine CL.out.mono ?_
  rintro e w3 ⟨ql, rfl, hql, hl3⟩
  have P3 := hide (P2.out.later hl3)
  have HQL := hide hql
  clear hl3 hql CL
  cases ql with
  | false =>
    go_wp2_with (fail)
    refine (olives_any (w := w3)).mono ?_
    rintro e w9 ⟨rfl, hl⟩
    have L9 : Hid (Later w w9) := Later.trans P3.out.bel hl
    clear hl
    go_wp2
    go_ret
    exact ⟨rfl, L9.out⟩
  | true =>
    have hn60 : n ≤ 60 := HQL.out rfl
    go_wp2_with (fail)
    go_loopw [8, 47] (fun s8 s47 wr => ∃ (q ob kk ok a : Nat) (t : BkS) (B : List PlD) (T : List OpD) (tv : Value), q ≤ n ∧ s47 = .int .i64 (q : Int) ∧ tv = s8 ∧ kk ≤ q ∧ ok ≤ 130 + q ∧ a ≤ q ∧ Hid (t.last ≤ (q : Int) ∧ t.L.length ≤ q ∧ T.length ≤ 60 * q) ∧ Hid (BQ (fun i => tv.ownBlock ≠ some i) w wr kg kb og ob 8 (N : Int) t B kk ok a) ∧ Hid (OnceI (N : Int) t B T) ∧ Hid (TRow wr w.heap.size kg kb og ob tv T)) (fun _ s _ => n - (Go.RowKit.intOf s).toNat)
    case atStart => exact ⟨0, ob0, 0, 0, 0, ⟨0, []⟩, [], [], _, by omega, rfl, rfl, by omega, by omega, by omega, ⟨by decide, by decide, by decide⟩, P3.out.mono (fun _ _ _ => nofun), OnceI.start _, ⟨World.ownsRow_nil _ _ _ _, fun i e => nomatch e⟩⟩
    case round =>
      obtain ⟨q, ob, kk, ok, a, t, B, T, tv, hq, rfl, htv, hkk, hok, ha, HT, HQ, HOI, HTR⟩ := hrel
      obtain ⟨wa, rfl⟩ : ∃ wa, wa = wr := ⟨_, rfl⟩
      by_cases hqn : q < n
      · obtain ⟨p, xb, off, c', hx, hv, hr, hli⟩ := (HA.out.kept (Kept.of_below HQ.out.bel _)).at_ (i := q) (by rw [HN.out]; exact hqn)
        rw [HN.out] at hv
        obtain ⟨rfl, rfl⟩ : A = some ⟨xb, off, none⟩ ∧ cp = c' := by injection hv with e1 _ e3; exact ⟨e1, e3⟩
        have HPW := hide (HWF.out p (List.mem_of_getElem? hx))
        have HR := hide hr
        have HLI := hide hli
        have H1M : Hid (∀ u ∈ p.m.cells p.ms p.mo p.mi, u.oneCell' = true) := p.m.one HLI.out.2.ones.1 HLI.out.2.ones.2.1 HLI.out.2.ones.2.2
        have H1A : Hid (∀ u ∈ p.cells, u.oneCell' = true) := p.one (FlatAt.oneCell HLI.out.1) HLI.out.2.ones.1 HLI.out.2.ones.2.1 HLI.out.2.ones.2.2
        have O5 : Hid (ABox wa.heap.size ActV.nil (wa.alloc (.cells #[.int .i64 0, .int .i64 0, .int .i64 0, .int .i64 0, .int .i64 0, .string ⟨#[]⟩, .slice none 0 0, .int .i64 0, .int .i64 0, .int .i64 0, .bool false, .bool false, .int .i64 0, .int .i64 0, .int .i64 0, .int .i64 0, .int .i64 0, .int .i64 0, .int .i64 0, .int .i64 0, .int .i64 0, .bool false, .bool false, .bool false, .int .i64 0, .int .i64 0, .int .i64 0, .string ⟨#[]⟩, .slice none 0 0, .int .i64 0, .int .i64 0, .int .i64 0, .bool false, .bool false, .int .i64 0, .int .i64 0, .int .i64 0, .int .i64 0, .int .i64 0, .int .i64 0, .int .i64 0, .int .i64 0, .int .i64 0, .bool false, .slice none 0 0, .slice none 0 0] 48 (0, 0)))) := heap_alloc_new _ _
        have L5a : Hid (Later wa (wa.alloc (.cells #[.int .i64 0, .int .i64 0, .int .i64 0, .int .i64 0, .int .i64 0, .string ⟨#[]⟩, .slice none 0 0, .int .i64 0, .int .i64 0, .int .i64 0, .bool false, .bool false, .int .i64 0, .int .i64 0, .int .i64 0, .int .i64 0, .int .i64 0, .int .i64 0, .int .i64 0, .int .i64 0, .int .i64 0, .bool false, .bool false, .bool false, .int .i64 0, .int .i64 0, .int .i64 0, .string ⟨#[]⟩, .slice none 0 0, .int .i64 0, .int .i64 0, .int .i64 0, .bool false, .bool false, .int .i64 0, .int .i64 0, .int .i64 0, .int .i64 0, .int .i64 0, .int .i64 0, .int .i64 0, .int .i64 0, .int .i64 0, .bool false, .slice none 0 0, .slice none 0 0] 48 (0, 0)))) := (Below.refl _ _).alloc (Nat.le_refl _) _
        clear hx hv hr hli
        go_wp2_with (first
          | (refine wpList_val rfl (by rfl) (exec_load_arow _ (by rfl) (by rfl) HR.out) ?_)
          | (refine wpList_store_act (p := p) (by rfl) _ _ (by rfl) (by rfl) O5.out H1A.out (by rfl) ?_))
        intro w4 X4 G4
        have L4 : Hid (Later wa w4) := L5a.out.grown G4 (by simp) (fun k hk => by have b1 := Option.some.inj hk; omega)
        obtain ⟨y, hy⟩ : ∃ y, wa.heap.size = y := ⟨_, rfl⟩
        rw [hy] at X4 ⊢
        have HX4 := hide X4
        have HYL : Hid (y < w4.heap.size ∧ wa.heap.size ≤ y) := ⟨lt_of_block X4, Nat.le_of_eq hy⟩
        have HQ4 := hide (HQ.out.later L4.out)
        have HTR4 := hide (HTR.out.later L4.out)
        have HYF : Hid (FF kg kb og ob y ∧ tv.ownBlock ≠ some y) := by
          have h1 := HQ.out.blocks
          have h2 := HYL.out.2
          exact ⟨⟨by omega, by omega, by omega, by omega⟩, fun e => by have := (HTR.out.2 y e).2; omega⟩
        have d0 := X4.c0
        obtain ⟨kd, hkd⟩ : ∃ kd, p.kind = kd := ⟨_, rfl⟩
        rw [hkd] at d0
        have HKD := hide hkd
        clear X4 G4 O5 L5a hy hkd
        by_cases h0 : kd = 0
        · subst h0
          obtain ⟨oA, oc, hos, _, _, _⟩ := FlatAt.shape HLI.out.1
          have hst : StepsAt F0 w4 (.slice oA p.o.steps.length oc) p.o.steps := by
            have := HLI.out.1.kept (Kept.of_below L4.out _)
            rw [hos] at this
            exact this
          have CA := hide (bq_apply (o := p.o) HQ4.out (fun i hi e => by have := (HTR4.out.2 i e).2; omega) (by omega) (by have := HT.out; omega) hst HPW.out.2.2.1 (by have := HT.out; omega))
          rw [← hos] at CA
          have hgrow := oapply_grow 8 t p.o
          have HT2 : Hid ((applyS 8 t p.o).last ≤ ((q + 1 : Nat) : Int) ∧ (applyS 8 t p.o).L.length ≤ q + 1 ∧ T.length ≤ 60 * (q + 1)) := by have := HT.out; exact ⟨by omega, by omega, by omega⟩
          have HOI2 := hide (HOI.out.apply (most := 8) HQ4.out.book.ok.1 p.o)
          clear hgrow hst hos
          go_wp2_with (refine wpList_val rfl (by rfl) (exec_load_aop _ (by rfl) (by rfl) HX4.out) ?_)
          refine CA.out.mono ?_
          rintro e w5 ⟨rfl, hb5, ht5⟩
          have HQ5 := hide hb5
          have HTR5 := hide (HTR4.out.turned ht5 (fun i hi e => by rcases hi with rfl | rfl; exact e.1 rfl; exact e.2.1 rfl) (.inl rfl))
          clear hb5 ht5 CA d0
          go_wp2_with (fail)
          go_roundw
          case rel => exact ⟨q + 1, ob, kk + 1, ok, a, _, B, T, tv, by omega, by go_num, htv, by omega, by omega, by omega, HT2.out, HQ5.out, HOI2.out, HTR5.out⟩
          case measure => simp [Go.RowKit.intOf]; omega
        · have e0 : (kd == 0) = false := by simp [h0]
          go_upto_block 2 with (fail)
          go_cut [11, 12] from 48 to 171 (fun s11 s12 wx => ∃ (ob2 ok2 a2 : Nat) (B2 : List PlD) (C : List ComD) (O : List OpD) (cv ov : Value), s12 = cv ∧ s11 = ov ∧ ok2 ≤ 131 + q ∧ a2 ≤ q + 1 ∧ Hid (C.length ≤ 200 ∧ O.length ≤ 60) ∧ Hid (CmsAt (fun i => w4.heap.size ≤ i ∧ i < wx.heap.size) wx cv C) ∧ Hid (OpcAt (fun i => w4.heap.size ≤ i ∧ i < wx.heap.size) wx ov O) ∧ Hid (BQ (fun i => tv.ownBlock ≠ some i) w wx kg kb og ob2 8 (N : Int) t B2 kk ok2 a2) ∧ Hid (OnceI (N : Int) t B2 (T ++ O)) ∧ Hid (∀ c ∈ C, NowC t (N : Int) c) ∧ Hid (Fresh18 T O) ∧ Hid (TRow wx w.heap.size kg kb og ob2 tv T) ∧ Hid (w4.heap.size ≤ wx.heap.size))
          case first =>
            by_cases h1 : kd = 1
            · subst h1
              have CSy := hide (bq_sync HQ4.out (by have := HT.out; omega))
              unfold QSync at CSy
              clear h0
              go_wp2_with (fail)
              refine CSy.out.mono ?_
              rintro e w5 ⟨sv, ob5, rfl, hb5, hr5, hq5, ht5⟩
              have C5 : Hid (CmsAt (fun i => w4.heap.size ≤ i ∧ i < w5.heap.size) w5 sv (syncA (N : Int) B t.L)) := (FlatAt.of_own hr5 (qcoms_one _)).mono (fun i hi hf => ⟨hf, hi⟩)
              have I5 := hide (HOI.out.sync HQ4.out.book.ok.1)
              have N5 := hide (syncA_now (v := (N : Int)) (B := B) HQ4.out.book.ok.1)
              have T5 := hide (HTR4.out.turned ht5 (fun i hi e => e.2.2.1 hi) (.inr hb5))
              have hs5 := ht5.size
              have Q5 := hide hq5
              have W5 : Hid (w4.heap.size ≤ w5.heap.size) := hs5
              clear hb5 hr5 hq5 ht5 hs5 CSy
              go_wp2_with (fail)
              go_meet
              exact ⟨ob5, _, a, _, _, [], _, _, rfl, rfl, by have := HT.out; omega, by omega, ⟨by have h1 := syncA_len (N : Int) B t.L; have := HT.out; omega, by decide⟩, C5.out, FlatAt.nil_ _ _ _, Q5.out, by rw [List.append_nil]; exact I5.out, N5.out, fresh_nil _, T5.out, W5.out⟩
            · have e1 : (kd == 1) = false := by simp [h1]
              by_cases h2 : kd = 2
              · subst h2
                have CT := hide (bq_tick HQ4.out (by have := HT.out; omega) (by omega) (by omega))
                unfold QTick at CT
                clear h0 h1
                go_wp2_with (fail)
                refine CT.out.mono ?_
                rintro e w5 ⟨sv, ov, ob5, rfl, hb5, hr5, ho5, hq5, ht5⟩
                have C5 : Hid (CmsAt (fun i => w4.heap.size ≤ i ∧ i < w5.heap.size) w5 sv (syncA (N : Int) (growL B) t.L ++ tickA (syncL (N : Int) (growL B) t.L))) := (FlatAt.of_own hr5 (qcoms_one _)).mono (fun i hi hf => ⟨hf, hi⟩)
                have O5 : Hid (OpcAt (fun i => w4.heap.size ≤ i ∧ i < w5.heap.size) w5 ov (tickO (syncL (N : Int) (growL B) t.L))) := (FlatAt.of_own ho5 (qops_one _)).mono (fun i hi hf => ⟨hf, hi⟩)
                have hS := HOI.out.grow.sync HQ4.out.book.ok.1
                have I5 := hide (hS.tell lapsed 5 false (fun p _ => lapsed_open))
                have F5 := hide (fresh_tell hS lapsed 5 false (fun p _ => lapsed_open))
                have N5 : Hid (∀ c ∈ syncA (N : Int) (growL B) t.L ++ tickA (syncL (N : Int) (growL B) t.L), NowC t (N : Int) c) := fun c hc => (List.mem_append.1 hc).elim (syncA_now HQ4.out.book.ok.1 c) (tickA_now HQ4.out.book.ok.1 c)
                have T5 := hide (HTR4.out.turned ht5 (fun i hi e => by rcases hi with rfl | rfl; exact e.2.2.1 rfl; exact e.2.2.2 rfl) (.inr hb5))
                have Z5 : Hid ((syncA (N : Int) (growL B) t.L ++ tickA (syncL (N : Int) (growL B) t.L)).length ≤ 200 ∧ (tickO (syncL (N : Int) (growL B) t.L)).length ≤ 60) := by
                  have h1 := syncA_len (N : Int) (growL B) t.L
                  have h2 := syncL_len (N : Int) (growL B) t.L
                  have h3 : (tickA (syncL (N : Int) (growL B) t.L)).length ≤ (syncL (N : Int) (growL B) t.L).length := by unfold tickA; rw [List.length_map]; exact List.length_filter_le _ _
                  have h4 : (tickO (syncL (N : Int) (growL B) t.L)).length ≤ (syncL (N : Int) (growL B) t.L).length := by unfold tickO; rw [List.length_map]; exact List.length_filter_le _ _
                  have := HT.out
                  exact ⟨by rw [List.length_append]; omega, by omega⟩
                have hs5 := ht5.size
                have Q5 := hide hq5
                have W5 : Hid (w4.heap.size ≤ w5.heap.size) := hs5
                clear hb5 hr5 ho5 hq5 ht5 hS hs5 CT
                go_wp2_with (fail)
                go_meet
                exact ⟨ob5, _, a + 1, _, _, _, _, _, rfl, rfl, by have := HT.out; omega, by omega, Z5.out, C5.out, O5.out, Q5.out, I5.out, N5.out, F5.out, T5.out, W5.out⟩
              · have e2 : (kd == 2) = false := by simp [h2]
                by_cases h5 : kd = 5
                · subst h5
                  have CT := hide (bq_tick HQ4.out (by have := HT.out; omega) (by omega) (by omega))
                  unfold QTick at CT
                  clear h0 h1 h2
                  go_wp2_with (fail)
                  refine CT.out.mono ?_
                  rintro e w5 ⟨sv, ov, ob5, rfl, hb5, hr5, ho5, hq5, ht5⟩
                  have C5 : Hid (CmsAt (fun i => w4.heap.size ≤ i ∧ i < w5.heap.size) w5 sv (syncA (N : Int) (growL B) t.L ++ tickA (syncL (N : Int) (growL B) t.L))) := (FlatAt.of_own hr5 (qcoms_one _)).mono (fun i hi hf => ⟨hf, hi⟩)
                  have O5 : Hid (OpcAt (fun i => w4.heap.size ≤ i ∧ i < w5.heap.size) w5 ov (tickO (syncL (N : Int) (growL B) t.L))) := (FlatAt.of_own ho5 (qops_one _)).mono (fun i hi hf => ⟨hf, hi⟩)
                  have hS := HOI.out.grow.sync HQ4.out.book.ok.1
                  have I5 := hide (hS.tell lapsed 5 false (fun p _ => lapsed_open))
                  have F5 := hide (fresh_tell hS lapsed 5 false (fun p _ => lapsed_open))
                  have N5 : Hid (∀ c ∈ syncA (N : Int) (growL B) t.L ++ tickA (syncL (N : Int) (growL B) t.L), NowC t (N : Int) c) := fun c hc => (List.mem_append.1 hc).elim (syncA_now HQ4.out.book.ok.1 c) (tickA_now HQ4.out.book.ok.1 c)
                  have T5 := hide (HTR4.out.turned ht5 (fun i hi e => by rcases hi with rfl | rfl; exact e.2.2.1 rfl; exact e.2.2.2 rfl) (.inr hb5))
                  have Z5 : Hid ((syncA (N : Int) (growL B) t.L ++ tickA (syncL (N : Int) (growL B) t.L)).length ≤ 200 ∧ (tickO (syncL (N : Int) (growL B) t.L)).length ≤ 60) := by
                    have h1 := syncA_len (N : Int) (growL B) t.L
                    have h2 := syncL_len (N : Int) (growL B) t.L
                    have h3 : (tickA (syncL (N : Int) (growL B) t.L)).length ≤ (syncL (N : Int) (growL B) t.L).length := by unfold tickA; rw [List.length_map]; exact List.length_filter_le _ _
                    have h4 : (tickO (syncL (N : Int) (growL B) t.L)).length ≤ (syncL (N : Int) (growL B) t.L).length := by unfold tickO; rw [List.length_map]; exact List.length_filter_le _ _
                    have := HT.out
                    exact ⟨by rw [List.length_append]; omega, by omega⟩
                  have hs5 := ht5.size
                  have Q5 := hide hq5
                  have W5 : Hid (w4.heap.size ≤ w5.heap.size) := hs5
                  clear hb5 hr5 ho5 hq5 ht5 hS hs5 CT
                  go_wp2_with (fail)
                  go_meet
                  exact ⟨ob5, _, a + 1, _, _, _, _, _, rfl, rfl, by have := HT.out; omega, by omega, Z5.out, C5.out, O5.out, Q5.out, I5.out, N5.out, F5.out, T5.out, W5.out⟩
                · have e5 : (kd == 5) = false := by simp [h5]
                  have T5 : Hid (MsB w4.heap.size MsgD.zero (.slice none 0 0) (.slice none 0 0) (.slice none 0 0) (w4.alloc (.cells #[.int .i64 0, .int .i64 0, .int .i64 0, .int .i64 0, .int .i64 0, .int .i64 0, .int .i64 0, .int .i64 0, .int .i64 0, .bool false, .bool false, .bool false, .int .i64 0, .int .i64 0, .int .i64 0, .string ⟨#[]⟩, .slice none 0 0, .int .i64 0, .int .i64 0, .int .i64 0, .bool false, .bool false, .int .i64 0, .int .i64 0, .int .i64 0, .int .i64 0, .int .i64 0, .int .i64 0, .int .i64 0, .int .i64 0, .int .i64 0, .bool false, .slice none 0 0, .slice none 0 0] 46 (0, 0)))) := heap_alloc_new _ _
                  have L5a : Hid (Later w4 (w4.alloc (.cells #[.int .i64 0, .int .i64 0, .int .i64 0, .int .i64 0, .int .i64 0, .int .i64 0, .int .i64 0, .int .i64 0, .int .i64 0, .bool false, .bool false, .bool false, .int .i64 0, .int .i64 0, .int .i64 0, .string ⟨#[]⟩, .slice none 0 0, .int .i64 0, .int .i64 0, .int .i64 0, .bool false, .bool false, .int .i64 0, .int .i64 0, .int .i64 0, .int .i64 0, .int .i64 0, .int .i64 0, .int .i64 0, .int .i64 0, .int .i64 0, .bool false, .slice none 0 0, .slice none 0 0] 46 (0, 0)))) := (Below.refl _ _).alloc (Nat.le_refl _) _
                  go_wp2_with (first
                    | (refine wpList_val rfl (by rfl) (exec_load_amsg _ (by rfl) (by rfl) HX4.out) ?_)
                    | (refine wpList_store_msg (m := p.m) (s := p.ms) (o := p.mo) (i := p.mi) (by rfl) _ _ (by rfl) (by rfl) T5.out H1M.out (by rfl) ?_))
                  intro w5 X5 G5
                  have L45 : Hid (Later w4 w5) := L5a.out.grown G5 (by simp) (fun k hk => by have b1 := Option.some.inj hk; omega)
                  have HX5 := hide X5
                  have HA5 := hide (HX4.out.below L45.out)
                  have d5 : w5.cell? ⟨y, 0, none⟩ = some (.int .i64 kd) := by have := HA5.out.c0; rw [HKD.out] at this; exact this
                  have HMS : Hid (I64 p.m.csaga) := by have h := HPW.out.2.2.2; unfold MsgD.wf at h; exact h.2.2.2.2.2.2.2.2.2.2.2.2.2.2.2.2.1
                  clear X5 G5 T5 L5a d0
                  by_cases h3 : kd = 3
                  · subst h3
                    have CW := hide (wanted18_any (HQ4.out.later L45.out).book (by have := HT.out; omega) p HPW.out H1M.out (N : Int))
                    unfold MsgOut at CW
                    clear h0 h1 h2 h5
                    go_wp2_with (refine wpList_val rfl (by rfl) (exec_load_act _ (by rfl) (by rfl) HA5.out) ?_)
                    refine CW.out.mono ?_
                    rintro e w6 ⟨mm, ms9, mo9, mi9, rfl, hmi, hm1, hl6⟩
                    have HMI := hide hmi
                    have HM1 := hide hm1
                    have X6 := hide (HX5.out.below hl6)
                    have L56 := hide hl6
                    clear hmi hm1 hl6 CW d5
                    go_wp2_with (refine wpList_store_msg (m := mm) (s := ms9) (o := mo9) (i := mi9) (by rfl) _ _ (by rfl) (by rfl) X6.out HM1.out (by rfl) ?_)
                    intro wm ZM GM
                    have XM := hide ZM
                    have LM : Hid (Later w4 wm) := by
                      have l6 : Later w4 w6 := Later.trans (show Later w4 w5 from L45.out) L56.out
                      exact l6.grown GM (Below.size l6) (fun k hk => by have b1 := Option.some.inj hk; omega)
                    have QM := hide (HQ4.out.later LM.out)
                    clear ZM GM
                    have CR := hide (bq_result (m := mm) (s := ms9) (o := mo9) (i := mi9) QM.out (by omega) HMI.out)
                    unfold QRes at CR
                    cases hres : resF B mm with
                    | none =>
                      rw [hres] at CR
                      simp only at CR
                      clear hres
                      go_wp2_with (refine wpList_val rfl (by rfl) (exec_load_qmsg _ (by rfl) (by rfl) XM.out) ?_)
                      refine CR.out.mono ?_
                      rintro e w7 ⟨rfl, hl7⟩
                      have T7 : Hid (OBox w7.heap.size OpD.zero (.slice none 0 0) (w7.alloc (.cells #[.int .i64 0, .int .i64 0, .int .i64 0, .string ⟨#[]⟩, .slice none 0 0, .int .i64 0, .int .i64 0, .int .i64 0, .bool false, .bool false] 37 (0, 0)))) := heap_alloc_new _ _
                      have L7a : Hid (Later w7 (w7.alloc (.cells #[.int .i64 0, .int .i64 0, .int .i64 0, .string ⟨#[]⟩, .slice none 0 0, .int .i64 0, .int .i64 0, .int .i64 0, .bool false, .bool false] 37 (0, 0)))) := (Below.refl _ _).alloc (Nat.le_refl _) _
                      have L7 : Hid (Later w4 w7) := Later.trans (show Later w4 wm from LM.out) hl7
                      clear hl7 CR
                      go_wp2_with (refine wpList_store_oop (o := OpD.zero) (s := .slice none 0 0) (by rfl) _ _ (by rfl) (by rfl) T7.out (by rfl) (by rfl) ?_)
                      intro w8 X8 G8
                      have LF : Hid (Later w4 w8) := Later.trans (show Later w4 w7 from L7.out) (L7a.out.grown G8 (by simp) (fun k hk => by have b1 := Option.some.inj hk; omega))
                      clear X8 G8 T7 L7a
                      go_wp2_with (fail)
                      go_meet
                      exact ⟨ob, ok, a, B, [], [], _, _, rfl, rfl, by omega, by omega, ⟨by decide, by decide⟩, FlatAt.nil_ _ _ _, FlatAt.nil_ _ _ _, HQ4.out.later LF.out, by rw [List.append_nil]; exact HOI.out, fun c hc => (by cases hc), fresh_nil _, HTR4.out.later LF.out, Below.size LF.out⟩
                    | some pp =>
                      rw [hres] at CR
                      simp only at CR
                      obtain ⟨hI2, hF2⟩ := HOI.out.res hres
                      have I2 := hide hI2
                      have F2 := hide hF2
                      clear hres hI2 hF2
                      go_wp2_with (refine wpList_val rfl (by rfl) (exec_load_qmsg _ (by rfl) (by rfl) XM.out) ?_)
                      refine CR.out.mono ?_
                      rintro e w7 ⟨rfl, hq7, ht7⟩
                      have Q7 := hide hq7
                      have T7 : Hid (OBox w7.heap.size OpD.zero (.slice none 0 0) (w7.alloc (.cells #[.int .i64 0, .int .i64 0, .int .i64 0, .string ⟨#[]⟩, .slice none 0 0, .int .i64 0, .int .i64 0, .int .i64 0, .bool false, .bool false] 37 (0, 0)))) := heap_alloc_new _ _
                      have L7a : Hid (Later w7 (w7.alloc (.cells #[.int .i64 0, .int .i64 0, .int .i64 0, .string ⟨#[]⟩, .slice none 0 0, .int .i64 0, .int .i64 0, .int .i64 0, .bool false, .bool false] 37 (0, 0)))) := (Below.refl _ _).alloc (Nat.le_refl _) _
                      have TR7 := hide ((HTR4.out.later LM.out).turned ht7 (fun i hi e => e.2.2.2 hi) (.inl rfl))
                      have S7 : Hid (w4.heap.size ≤ w7.heap.size) := Nat.le_trans (Below.size LM.out) ht7.size
                      clear hq7 ht7 CR
                      go_wp2_with (refine wpList_store_oop (o := opP 4 mm.good pp) (s := .slice none 0 0) (by rfl) _ _ (by rfl) (by rfl) T7.out (by rfl) (by rfl) ?_)
                      intro w8 X8 G8
                      have L78 : Hid (Later w7 w8) := L7a.out.grown G8 (by simp) (fun k hk => by have b1 := Option.some.inj hk; omega)
                      have HX8 := hide X8
                      have LA8 : Hid (Later w8 (w8.alloc (.cells ((opP 4 mm.good pp).cells (.slice none 0 0)).toArray 37 (0, 0)))) := (Below.refl _ _).alloc (Nat.le_refl _) _
                      have S8 : Hid (w4.heap.size ≤ w8.heap.size) := Nat.le_trans S7.out (Below.size L78.out)
                      obtain ⟨W9, hW9⟩ : ∃ W9, W9 = w8.alloc (.cells ((opP 4 mm.good pp).cells (.slice none 0 0)).toArray 37 (0, 0)) := ⟨_, rfl⟩
                      have L79 : Hid (Later w7 W9) := by rw [hW9]; exact Later.trans (show Later w7 w8 from L78.out) LA8.out
                      have O9 : Hid (OpcAt (fun i => w4.heap.size ≤ i ∧ i < W9.heap.size) W9 (.slice (some ⟨w8.heap.size, 0, none⟩) 1 1) [opP 4 mm.good pp]) := by
                        rw [hW9]
                        exact flat_one w8 37 10 ((opP 4 mm.good pp).cells (.slice none 0 0)).toArray rfl (oop_one _ rfl) _ ⟨S8.out, by simp⟩
                      have S9 : Hid (w4.heap.size ≤ W9.heap.size) := Nat.le_trans S7.out (Below.size L79.out)
                      have HW9 := hide hW9.symm
                      clear X8 G8 T7 L7a hW9
                      go_wp2_with (first
                        | (refine wpList_val rfl (by rfl) (exec_load_oop _ (by rfl) (by rfl) HX8.out) ?_)
                        | (refine wpList_val rfl (by rfl) (exec_buildSlice_oop (o := opP 4 mm.good pp) (s := .slice none 0 0) HJ.out HJ0.out HJ1.out (by rfl) (by rfl)) ?_; rw [HW9.out]))
                      go_meet
                      exact ⟨ob, ok + 1, a, _, [], [opP 4 mm.good pp], _, _, rfl, rfl, by omega, by omega, ⟨by decide, by show 1 ≤ 60; decide⟩, FlatAt.nil_ _ _ _, O9.out, Q7.out.later L79.out, I2.out, fun c hc => (by cases hc), F2.out, TR7.out.later L79.out, S9.out⟩
                  · have e3 : (kd == 3) = false := by simp [h3]
                    obtain ⟨wm, hwm⟩ : ∃ wm, wm = w5 := ⟨_, rfl⟩
                    obtain ⟨mm, hmm⟩ : ∃ mm, mm = p.m := ⟨_, rfl⟩
                    obtain ⟨ms9, hms⟩ : ∃ x, x = p.ms := ⟨_, rfl⟩
                    obtain ⟨mo9, hmo⟩ : ∃ x, x = p.mo := ⟨_, rfl⟩
                    obtain ⟨mi9, hmi⟩ : ∃ x, x = p.mi := ⟨_, rfl⟩
                    have XM : Hid (MsB w4.heap.size mm ms9 mo9 mi9 wm) := by rw [hwm, hmm, hms, hmo, hmi]; exact HX5.out
                    have HMI : Hid (I64 mm.csaga) := by rw [hmm]; exact HMS.out
                    have LM : Hid (Later w4 wm) := by rw [hwm]; exact L45.out
                    have QM := hide (HQ4.out.later LM.out)
                    rw [← hwm] at d5 ⊢
                    clear hwm hmm hms hmo hmi
                    have CR := hide (bq_result (m := mm) (s := ms9) (o := mo9) (i := mi9) QM.out (by omega) HMI.out)
                    unfold QRes at CR
                    cases hres : resF B mm with
                    | none =>
                      rw [hres] at CR
                      simp only at CR
                      clear hres
                      go_wp2_with (refine wpList_val rfl (by rfl) (exec_load_qmsg _ (by rfl) (by rfl) XM.out) ?_)
                      refine CR.out.mono ?_
                      rintro e w7 ⟨rfl, hl7⟩
                      have T7 : Hid (OBox w7.heap.size OpD.zero (.slice none 0 0) (w7.alloc (.cells #[.int .i64 0, .int .i64 0, .int .i64 0, .string ⟨#[]⟩, .slice none 0 0, .int .i64 0, .int .i64 0, .int .i64 0, .bool false, .bool false] 37 (0, 0)))) := heap_alloc_new _ _
                      have L7a : Hid (Later w7 (w7.alloc (.cells #[.int .i64 0, .int .i64 0, .int .i64 0, .string ⟨#[]⟩, .slice none 0 0, .int .i64 0, .int .i64 0, .int .i64 0, .bool false, .bool false] 37 (0, 0)))) := (Below.refl _ _).alloc (Nat.le_refl _) _
                      have L7 : Hid (Later w4 w7) := Later.trans (show Later w4 wm from LM.out) hl7
                      clear hl7 CR
                      go_wp2_with (refine wpList_store_oop (o := OpD.zero) (s := .slice none 0 0) (by rfl) _ _ (by rfl) (by rfl) T7.out (by rfl) (by rfl) ?_)
                      intro w8 X8 G8
                      have LF : Hid (Later w4 w8) := Later.trans (show Later w4 w7 from L7.out) (L7a.out.grown G8 (by simp) (fun k hk => by have b1 := Option.some.inj hk; omega))
                      clear X8 G8 T7 L7a
                      go_wp2_with (fail)
                      go_meet
                      exact ⟨ob, ok, a, B, [], [], _, _, rfl, rfl, by omega, by omega, ⟨by decide, by decide⟩, FlatAt.nil_ _ _ _, FlatAt.nil_ _ _ _, HQ4.out.later LF.out, by rw [List.append_nil]; exact HOI.out, fun c hc => (by cases hc), fresh_nil _, HTR4.out.later LF.out, Below.size LF.out⟩
                    | some pp =>
                      rw [hres] at CR
                      simp only at CR
                      obtain ⟨hI2, hF2⟩ := HOI.out.res hres
                      have I2 := hide hI2
                      have F2 := hide hF2
                      clear hres hI2 hF2
                      go_wp2_with (refine wpList_val rfl (by rfl) (exec_load_qmsg _ (by rfl) (by rfl) XM.out) ?_)
                      refine CR.out.mono ?_
                      rintro e w7 ⟨rfl, hq7, ht7⟩
                      have Q7 := hide hq7
                      have T7 : Hid (OBox w7.heap.size OpD.zero (.slice none 0 0) (w7.alloc (.cells #[.int .i64 0, .int .i64 0, .int .i64 0, .string ⟨#[]⟩, .slice none 0 0, .int .i64 0, .int .i64 0, .int .i64 0, .bool false, .bool false] 37 (0, 0)))) := heap_alloc_new _ _
                      have L7a : Hid (Later w7 (w7.alloc (.cells #[.int .i64 0, .int .i64 0, .int .i64 0, .string ⟨#[]⟩, .slice none 0 0, .int .i64 0, .int .i64 0, .int .i64 0, .bool false, .bool false] 37 (0, 0)))) := (Below.refl _ _).alloc (Nat.le_refl _) _
                      have TR7 := hide ((HTR4.out.later LM.out).turned ht7 (fun i hi e => e.2.2.2 hi) (.inl rfl))
                      have S7 : Hid (w4.heap.size ≤ w7.heap.size) := Nat.le_trans (Below.size LM.out) ht7.size
                      clear hq7 ht7 CR
                      go_wp2_with (refine wpList_store_oop (o := opP 4 mm.good pp) (s := .slice none 0 0) (by rfl) _ _ (by rfl) (by rfl) T7.out (by rfl) (by rfl) ?_)
                      intro w8 X8 G8
                      have L78 : Hid (Later w7 w8) := L7a.out.grown G8 (by simp) (fun k hk => by have b1 := Option.some.inj hk; omega)
                      have HX8 := hide X8
                      have LA8 : Hid (Later w8 (w8.alloc (.cells ((opP 4 mm.good pp).cells (.slice none 0 0)).toArray 37 (0, 0)))) := (Below.refl _ _).alloc (Nat.le_refl _) _
                      have S8 : Hid (w4.heap.size ≤ w8.heap.size) := Nat.le_trans S7.out (Below.size L78.out)
                      obtain ⟨W9, hW9⟩ : ∃ W9, W9 = w8.alloc (.cells ((opP 4 mm.good pp).cells (.slice none 0 0)).toArray 37 (0, 0)) := ⟨_, rfl⟩
                      have L79 : Hid (Later w7 W9) := by rw [hW9]; exact Later.trans (show Later w7 w8 from L78.out) LA8.out
                      have O9 : Hid (OpcAt (fun i => w4.heap.size ≤ i ∧ i < W9.heap.size) W9 (.slice (some ⟨w8.heap.size, 0, none⟩) 1 1) [opP 4 mm.good pp]) := by
                        rw [hW9]
                        exact flat_one w8 37 10 ((opP 4 mm.good pp).cells (.slice none 0 0)).toArray rfl (oop_one _ rfl) _ ⟨S8.out, by simp⟩
                      have S9 : Hid (w4.heap.size ≤ W9.heap.size) := Nat.le_trans S7.out (Below.size L79.out)
                      have HW9 := hide hW9.symm
                      clear X8 G8 T7 L7a hW9
                      go_wp2_with (first
                        | (refine wpList_val rfl (by rfl) (exec_load_oop _ (by rfl) (by rfl) HX8.out) ?_)
                        | (refine wpList_val rfl (by rfl) (exec_buildSlice_oop (o := opP 4 mm.good pp) (s := .slice none 0 0) HJ.out HJ0.out HJ1.out (by rfl) (by rfl)) ?_; rw [HW9.out]))
                      go_meet
                      exact ⟨ob, ok + 1, a, _, [], [opP 4 mm.good pp], _, _, rfl, rfl, by omega, by omega, ⟨by decide, by show 1 ≤ 60; decide⟩, FlatAt.nil_ _ _ _, O9.out, Q7.out.later L79.out, I2.out, fun c hc => (by cases hc), F2.out, TR7.out.later L79.out, S9.out⟩
          case rest =>
            obtain ⟨ob2, ok2, a2, B2, C, O, cv, ov, hcv, hov, hok2, ha2, HCL, HC, HOp, HQc, HIc, HNc, HFc, HTc, HSc⟩ := hcut
            obtain ⟨Ac, cc, hcs, _, _, _⟩ := FlatAt.shape HC.out
            obtain ⟨Ao, oc, hos, _, _, _⟩ := FlatAt.shape HOp.out
            obtain ⟨cn, hcn⟩ : ∃ cn, C.length = cn := ⟨_, rfl⟩
            obtain ⟨on, hon⟩ : ∃ on, O.length = on := ⟨_, rfl⟩
            have HCN := hide hcn
            have HON := hide hon
            rw [hcn] at hcs
            rw [hon] at hos
            have hcn2 : cn ≤ 200 := by have := HCL.out; omega
            have hon2 : on ≤ 60 := by have := HCL.out; omega
            subst hcs hos
            subst hcv hov
            clear hcn hon d0
            go_wp2_with (fail)
            go_loopw [93] (fun s wr => ∃ j : Nat, j ≤ cn ∧ s = .int .i64 (j : Int) ∧ Hid (Later wc wr)) (fun s _ => cn - (Go.RowKit.intOf s).toNat)
            case atStart => exact ⟨0, by omega, rfl, Later.refl _⟩
            case round =>
              obtain ⟨j, hj, rfl, LJ⟩ := hrel
              obtain ⟨wj, rfl⟩ : ∃ wj, wj = wr := ⟨_, rfl⟩
              by_cases hjn : j < cn
              · obtain ⟨c, cb, co, ccap, hcx, hvx, _, hcb, hrx⟩ := CmsAt.at_ (FlatAt.kept HC.out (Kept.of_below LJ.out _)) (i := j) (by rw [HCN.out]; exact hjn)
                rw [HCN.out] at hvx
                obtain ⟨rfl, rfl⟩ : Ac = some ⟨cb, co, none⟩ ∧ cc = ccap := by injection hvx with e1 _ e3; exact ⟨e1, e3⟩
                obtain ⟨en, hen, hwe, hce⟩ := HNc.out c (List.mem_of_getElem? hcx)
                obtain ⟨hem, hei⟩ := entAt_mem hen
                obtain ⟨hok9, hid62⟩ := HQc.out.book.ok.2.1 en hem
                have hid1 := hok9.2.2.2
                have HID : Hid (I64 c.saga) := by rw [← hei]; exact ⟨by omega, by omega⟩
                have CSg : Hid (∀ W, Later wc W → Calls Tryz.prog 30 #[.pointer (some ⟨kg, 0, none⟩), .int .i64 c.saga] W (OwnV en.s en.l true W)) := fun W hW => by
                  have := saga_any (HQc.out.book.later hW) (id := c.saga) HID.out
                  rw [show atS t c.saga = en.s from by unfold atS; rw [hen], show atL t c.saga = en.l from by unfold atL; rw [hen], show atB t c.saga = true from by unfold atB; rw [hen]; rfl] at this
                  exact this
                have HOK := hide hok9
                have HWE := hide hwe
                have HCE := hide hce
                have HEI := hide hei
                have HRX := hide hrx
                have T5 : Hid (MBox wj.heap.size ComD.zero (wj.alloc (.cells #[.int .i64 0, .int .i64 0, .int .i64 0, .int .i64 0, .int .i64 0, .bool false] 42 (0, 0)))) := heap_alloc_new _ _
                have L5a : Hid (Later wj (wj.alloc (.cells #[.int .i64 0, .int .i64 0, .int .i64 0, .int .i64 0, .int .i64 0, .bool false] 42 (0, 0)))) := (Below.refl _ _).alloc (Nat.le_refl _) _
                clear hcx hvx hcb hrx hen hwe hce hem hei hok9 hid62 hid1
                go_wp2_with (first
                  | (refine wpList_val rfl (by rfl) (exec_load_qcom _ (by rfl) (by rfl) HRX.out) ?_)
                  | (refine wpList_store_com (c := c) (by rfl) _ _ (by rfl) (by rfl) T5.out (by rfl) ?_))
                intro x5 X5 G5
                have LX5 : Hid (Later wj x5) := L5a.out.grown G5 (by simp) (fun k hk => by have b1 := Option.some.inj hk; omega)
                obtain ⟨z, hz⟩ : ∃ z, wj.heap.size = z := ⟨_, rfl⟩
                rw [hz] at X5 ⊢
                have HZ : Hid (wj.heap.size ≤ z) := Nat.le_of_eq hz
                have HX5 := hide X5
                have g2 := X5.cells.2.2.1
                have LC5 : Hid (Later wc x5) := Later.trans (show Later wc wj from LJ.out) LX5.out
                clear X5 G5 hz T5 L5a
                go_wp2_with (fail)
                refine (CSg.out _ LC5.out).mono ?_
                rintro e x6 ⟨sp, sn, sc, rfl, hs, hl6⟩
                obtain ⟨s2, hs2⟩ : ∃ s2, en.s.withV sp sn sc = s2 := ⟨_, rfl⟩
                have hv : s2.v = .slice sp sn sc := by rw [← hs2]; rfl
                rw [← hv] at hs
                rw [hs2]
                have E2 : Hid (wantsC en.l s2 = wantsC en.l en.s ∧ wantsB en.l s2 = true) := by show _ ∧ _; rw [← hs2]; exact ⟨rfl, HWE.out⟩
                have I2 : Hid (I64 s2.step) := by show I64 _; rw [← hs2]; have := HOK.out.2.2.1; exact ⟨by show _ ≤ en.s.step; omega, by show en.s.step < _; omega⟩
                have T6 : Hid (SBox 72 x6.heap.size SagaD.zero (x6.alloc (.cells #[.string ⟨#[]⟩, .slice none 0 0, .int .i64 0, .int .i64 0, .int .i64 0, .bool false, .bool false, .bool false, .bool false, .bool false, .bool false, .bool false, .bool false] 72 (0, 0)))) := heap_alloc_new _ _
                have L6a : Hid (Later x6 (x6.alloc (.cells #[.string ⟨#[]⟩, .slice none 0 0, .int .i64 0, .int .i64 0, .int .i64 0, .bool false, .bool false, .bool false, .bool false, .bool false, .bool false, .bool false, .bool false] 72 (0, 0)))) := (Below.refl _ _).alloc (Nat.le_refl _) _
                have HS := hide hs
                have LX6 : Hid (Later wj x6) := Later.trans (show Later wj x5 from LX5.out) hl6
                have HX6 := hide (HX5.out.below hl6)
                clear hs hl6 hv hs2 g2
                go_wp2_with (refine wpList_store_saga (s := s2) (by rfl) _ _ (by rfl) (by rfl) T6.out (by rfl) ?_)
                intro x7 X7 G7
                have L67 : Hid (Later x6 x7) := L6a.out.grown G7 (by simp) (fun k hk => by have := Option.some.inj hk; omega)
                have HX7s := hide X7
                have HX7 := hide (HX6.out.below L67.out)
                have CW := hide (wants_any (StepsAt.kept HS.out (Kept.of_below L67.out _)) HOK.out.1 I2.out)
                unfold Wanted at CW
                rw [E2.out.1, E2.out.2] at CW
                obtain ⟨cm, hcm⟩ : ∃ cm, wantsC en.l en.s = cm := ⟨_, rfl⟩
                rw [hcm] at CW
                have HCM : Hid (c = ⟨(N : Int), cm.stub, c.saga, cm.step, cm.tr, cm.back⟩) := by
                  show _ = _
                  rw [← hcm, ← HEI.out, ← HCE.out]
                  rfl
                have LX7 : Hid (Later wj x7) := Later.trans (show Later wj x6 from LX6.out) L67.out
                clear X7 G7 T6 L6a hcm
                go_wp2_with (refine wpList_load_saga (by rfl) _ (by rfl) (by rfl) HX7s.out ?_)
                refine CW.out.mono ?_
                rintro e x8 ⟨rfl, hl8⟩
                have T8 : Hid (MBox x8.heap.size ComD.zero (x8.alloc (.cells #[.int .i64 0, .int .i64 0, .int .i64 0, .int .i64 0, .int .i64 0, .bool false] 42 (0, 0)))) := heap_alloc_new _ _
                have L8a : Hid (Later x8 (x8.alloc (.cells #[.int .i64 0, .int .i64 0, .int .i64 0, .int .i64 0, .int .i64 0, .bool false] 42 (0, 0)))) := (Below.refl _ _).alloc (Nat.le_refl _) _
                have LX8 : Hid (Later wj x8) := Later.trans (show Later wj x7 from LX7.out) hl8
                have HX8 := hide (HX7.out.below hl8)
                clear hl8 CW
                go_wp2_with (refine wpList_store_com (c := ⟨0, cm.stub, 0, cm.step, cm.tr, cm.back⟩) (by rfl) _ _ (by rfl) (by rfl) T8.out (by rfl) ?_)
                intro x9 X9 G9
                have L89 : Hid (Later x8 x9) := L8a.out.grown G9 (by simp) (fun k hk => by have := Option.some.inj hk; omega)
                obtain ⟨z9, hz9⟩ : ∃ z9, x8.heap.size = z9 := ⟨_, rfl⟩
                have HZ9 : Hid (z < z9) := by have := lt_of_block HX8.out; rw [hz9] at this; exact this
                rw [hz9] at X9 ⊢
                have HX9 := hide X9
                have HX9c := hide (HX8.out.below L89.out)
                have LX9 : Hid (Later wj x9) := Later.trans (show Later wj x8 from LX8.out) L89.out
                obtain ⟨k0, k1, k2, k3, k4, k5, kf⟩ := X9.cells
                have c2 := HX9c.out.cells.2.2.1
                have hne1 : ¬ (z = z9) := by have := HZ9.out; omega
                have hne2 : ¬ (z9 = z) := by have := HZ9.out; omega
                clear X9 G9 hz9 T8 L8a
                go_wp2_with (fail)
                go_region
                obtain ⟨x10, hx10⟩ : ∃ x10, x10 = ((x9.setCell ⟨z9, 0, none⟩ (.int .i64 (N : Int))).setCell ⟨z9, 2, none⟩ (.int .i64 c.saga)).drew := ⟨_, rfl⟩
                have X10 : Hid (MBox z9 c x10) := by
                  have h2 : BlockAt 42 x9 z9 (ComD.mk 0 cm.stub 0 cm.step cm.tr cm.back).cells := HX9.out
                  have h3 := (h2.set 0 (.int .i64 (N : Int))).set 2 (.int .i64 c.saga)
                  rw [hx10, HCM.out]
                  exact h3
                have G10 : x9.grownBy x10 (some z9) := by rw [hx10]; exact grown_trans (grown_trans (grown_set x9 z9 0 _) (grown_set _ z9 2 _)) (grown_drewN _ _ 1)
                have X10c : Hid (MBox z c x10) := HX9c.out.other G10 (fun e => by have := Option.some.inj e; have := HZ9.out; omega)
                have LX10 : Hid (Later wj x10) := (show Later wj x9 from LX9.out).grown G10 (Below.size LX9.out) (fun k hk => by have := Option.some.inj hk; have := HZ9.out; have := HZ.out; omega)
                rw [← hx10]
                have HDC : Hid ((!decide (c = c)) = false) := by show _ = _; simp
                clear k0 k1 k2 k3 k4 k5 kf c2 hne1 hne2 hx10 G10
                go_wp2_with (first
                  | (refine wpList_val rfl (by rfl) (exec_load_com _ (by rfl) (by rfl) X10.out) ?_)
                  | (refine wpList_val rfl (by rfl) (exec_load_com _ (by rfl) (by rfl) X10c.out) ?_)
                  | (refine wpList_val rfl (by rfl) (exec_neq_com c c _ _ _ (by rfl) (by rfl) (by rfl)) ?_; rw [HDC.out]))
                go_roundw
                case rel => exact ⟨j + 1, by omega, by go_num, Later.trans (show Later wc wj from LJ.out) LX10.out⟩
                case measure => simp [Go.RowKit.intOf]; omega
              · have HQj := hide (HQc.out.later LJ.out)
                have HTj := hide (HTc.out.later LJ.out)
                have HOj : Hid (OpcAt (fun i => w4.heap.size ≤ i ∧ i < wc.heap.size) wj (.slice Ao on oc) O) := FlatAt.kept HOp.out (Kept.of_below LJ.out _)
                have HSj : Hid (w4.heap.size ≤ wj.heap.size ∧ wc.heap.size ≤ wj.heap.size) := ⟨Nat.le_trans HSc.out (Below.size LJ.out), Below.size LJ.out⟩
                have HTB : Hid (∀ i, tv.ownBlock = some i → i < w4.heap.size) := fun i e => (HTR4.out.2 i e).2
                go_wp2_with (fail)
                go_loopw [8, 129] (fun s8 s wr => ∃ (x : Nat) (t2 : Value), x ≤ on ∧ s = .int .i64 (x : Int) ∧ t2 = s8 ∧ Hid (BQ (fun i => t2.ownBlock ≠ some i) w wr kg kb og ob2 8 (N : Int) t B2 kk ok2 a2) ∧ Hid (TRow wr w.heap.size kg kb og ob2 t2 (T ++ O.take x)) ∧ Hid (OpcAt (fun i => w4.heap.size ≤ i ∧ i < wc.heap.size) wr (.slice Ao on oc) O) ∧ Hid (∀ i, t2.ownBlock = some i → i < w4.heap.size ∨ wc.heap.size ≤ i) ∧ Hid (wc.heap.size ≤ wr.heap.size)) (fun _ s _ => on - (Go.RowKit.intOf s).toNat)
                case atStart => exact ⟨0, tv, by omega, rfl, htv, HQj.out, by rw [List.take_zero, List.append_nil]; exact HTj.out, HOj.out, fun i e => .inl (HTB.out i e), HSj.out.2⟩
                case round =>
                  obtain ⟨x, t2, hx, rfl, ht2, HQx, HTx, HOx, HBx, HSx⟩ := hrel
                  obtain ⟨wx, rfl⟩ : ∃ wx, wx = wr := ⟨_, rfl⟩
                  by_cases hxn : x < on
                  · obtain ⟨o, xb2, xo, xc, hox, hvx, _, _, hrx⟩ := OpcAt.at_ HOx.out (i := x) (by rw [HON.out]; exact hxn)
                    rw [HON.out] at hvx
                    obtain ⟨rfl, rfl⟩ : Ao = some ⟨xb2, xo, none⟩ ∧ oc = xc := by injection hvx with e1 _ e3; exact ⟨e1, e3⟩
                    have HFR := hide (HFc.out x o hox)
                    have HOX := hide hox
                    have HRX := hide hrx
                    obtain ⟨T3, hT3⟩ : ∃ T3, T ++ O.take x = T3 := ⟨_, rfl⟩
                    have HT3 := hide hT3
                    rw [hT3] at HTx HFR
                    have hT3l : T3.length ≤ 3700 := by
                      rw [← hT3, List.length_append]
                      have h1 := List.length_take_le x O
                      have := HT.out
                      omega
                    have T5 : Hid (OBox wx.heap.size OpD.zero (.slice none 0 0) (wx.alloc (.cells #[.int .i64 0, .int .i64 0, .int .i64 0, .string ⟨#[]⟩, .slice none 0 0, .int .i64 0, .int .i64 0, .int .i64 0, .bool false, .bool false] 37 (0, 0)))) := heap_alloc_new _ _
                    have L5a : Hid (Later wx (wx.alloc (.cells #[.int .i64 0, .int .i64 0, .int .i64 0, .string ⟨#[]⟩, .slice none 0 0, .int .i64 0, .int .i64 0, .int .i64 0, .bool false, .bool false] 37 (0, 0)))) := (Below.refl _ _).alloc (Nat.le_refl _) _
                    clear hox hvx hrx hT3
                    go_wp2_with (first
                      | (refine wpList_val rfl (by rfl) (exec_load_qop _ (by rfl) (by rfl) HRX.out) ?_)
                      | (refine wpList_store_oop (o := o) (s := .slice none 0 0) (by rfl) _ _ (by rfl) (by rfl) T5.out (by rfl) (by rfl) ?_))
                    intro w7c X7 G7
                    have L7 : Hid (Later wx w7c) := L5a.out.grown G7 (by simp) (fun k hk => by have b1 := Option.some.inj hk; omega)
                    obtain ⟨y7, hy7⟩ : ∃ y7, wx.heap.size = y7 := ⟨_, rfl⟩
                    rw [hy7] at X7 ⊢
                    have HX7 := hide X7
                    have HT7 := hide (HTx.out.later L7.out)
                    have HF7 : Hid (OpcAt (fun _ => True) w7c t2 T3) := (FlatAt.of_own HT7.out.1 (qops_one _)).mono (fun _ _ _ => trivial)
                    obtain ⟨At, ct, hts, _, _, _⟩ := FlatAt.shape HF7.out
                    obtain ⟨tn, htn⟩ : ∃ tn, T3.length = tn := ⟨_, rfl⟩
                    have HTN := hide htn
                    rw [htn] at hts hT3l
                    have HTS := hide hts
                    have ht8 := ht2
                    rw [hts] at ht8
                    subst ht8
                    have HF8 : Hid (OpcAt (fun _ => True) w7c (.slice At tn ct) T3) := by have := HF7.out; rw [hts] at this; exact this
                    clear X7 G7 hy7 htn hts T5 L5a
                    go_wp2_with (fail)
                    go_loopw [135] (fun s wr => ∃ z : Nat, z ≤ tn ∧ s = .int .i64 (z : Int) ∧ Hid (Later w7c wr)) (fun s _ => tn - (Go.RowKit.intOf s).toNat)
                    case atStart => exact ⟨0, by omega, rfl, Later.refl _⟩
                    case round =>
                      obtain ⟨z, hzt, rfl, LI⟩ := hrel
                      by_cases hzn : z < tn
                      · obtain ⟨r, rb, ro, rc, hrz, hvz, _, _, hrr⟩ := OpcAt.at_ (FlatAt.kept HF8.out (Kept.of_below LI.out _)) (i := z) (by rw [HTN.out]; exact hzn)
                        rw [HTN.out] at hvz
                        obtain ⟨rfl, rfl⟩ : At = some ⟨rb, ro, none⟩ ∧ ct = rc := by injection hvz with e1 _ e3; exact ⟨e1, e3⟩
                        have hne := HFR.out r (List.mem_of_getElem? hrz)
                        have HRR := hide hrr
                        have T6 : Hid (OBox wr.heap.size OpD.zero (.slice none 0 0) (wr.alloc (.cells #[.int .i64 0, .int .i64 0, .int .i64 0, .string ⟨#[]⟩, .slice none 0 0, .int .i64 0, .int .i64 0, .int .i64 0, .bool false, .bool false] 37 (0, 0)))) := heap_alloc_new _ _
                        have L6a : Hid (Later wr (wr.alloc (.cells #[.int .i64 0, .int .i64 0, .int .i64 0, .string ⟨#[]⟩, .slice none 0 0, .int .i64 0, .int .i64 0, .int .i64 0, .bool false, .bool false] 37 (0, 0)))) := (Below.refl _ _).alloc (Nat.le_refl _) _
                        clear hrz hvz hrr
                        go_wp2_with (first
                          | (refine wpList_val rfl (by rfl) (exec_load_qop _ (by rfl) (by rfl) HRR.out) ?_)
                          | (refine wpList_store_oop (o := r) (s := .slice none 0 0) (by rfl) _ _ (by rfl) (by rfl) T6.out (by rfl) (by rfl) ?_))
                        intro i5 XI GI
                        have LI5 : Hid (Later wr i5) := L6a.out.grown GI (by simp) (fun k hk => by have b1 := Option.some.inj hk; omega)
                        obtain ⟨yi, hyi⟩ : ∃ yi, wr.heap.size = yi := ⟨_, rfl⟩
                        rw [hyi] at XI ⊢
                        obtain ⟨a5, a6, a7, a8⟩ : i5.cell? ⟨yi, 5, none⟩ = some (.int .i64 r.saga) ∧ i5.cell? ⟨yi, 6, none⟩ = some (.int .i64 r.step) ∧ i5.cell? ⟨yi, 7, none⟩ = some (.int .i64 r.try_) ∧ i5.cell? ⟨yi, 8, none⟩ = some (.bool r.back) := ⟨(cell_of_row i5 yi 5 _ _ _ XI).trans rfl, (cell_of_row i5 yi 6 _ _ _ XI).trans rfl, (cell_of_row i5 yi 7 _ _ _ XI).trans rfl, (cell_of_row i5 yi 8 _ _ _ XI).trans rfl⟩
                        have XO : OBox y7 o (.slice none 0 0) i5 := (HX7.out.below LI.out).below LI5.out
                        obtain ⟨b5, b6, b7, b8⟩ : i5.cell? ⟨y7, 5, none⟩ = some (.int .i64 o.saga) ∧ i5.cell? ⟨y7, 6, none⟩ = some (.int .i64 o.step) ∧ i5.cell? ⟨y7, 7, none⟩ = some (.int .i64 o.try_) ∧ i5.cell? ⟨y7, 8, none⟩ = some (.bool o.back) := ⟨(cell_of_row i5 y7 5 _ _ _ XO).trans rfl, (cell_of_row i5 y7 6 _ _ _ XO).trans rfl, (cell_of_row i5 y7 7 _ _ _ XO).trans rfl, (cell_of_row i5 y7 8 _ _ _ XO).trans rfl⟩
                        have HNE := hide hne
                        obtain ⟨q1, hq1⟩ : ∃ q1, (r.saga == o.saga) = q1 := ⟨_, rfl⟩
                        obtain ⟨q2, hq2⟩ : ∃ q2, (r.step == o.step) = q2 := ⟨_, rfl⟩
                        obtain ⟨q3, hq3⟩ : ∃ q3, (r.try_ == o.try_) = q3 := ⟨_, rfl⟩
                        obtain ⟨q4, hq4⟩ : ∃ q4, (r.back == o.back) = q4 := ⟨_, rfl⟩
                        have HQ14 : Hid (¬ (q1 = true ∧ q2 = true ∧ q3 = true ∧ q4 = true)) := fun ⟨e1, e2, e3, e4⟩ => HNE.out ⟨by rw [e1] at hq1; simpa using hq1, by rw [e2] at hq2; simpa using hq2, by rw [e3] at hq3; simpa using hq3, by rw [e4] at hq4; simpa using hq4⟩
                        clear XI GI hyi XO T6 L6a hne
                        cases q1 with
                        | false =>
                          go_wp2_with (fail)
                          go_roundw
                          case rel => exact ⟨z + 1, by omega, by go_num, Later.trans (show Later w7c wr from LI.out) LI5.out⟩
                          case measure => simp [Go.RowKit.intOf]; omega
                        | true =>
                          cases q2 with
                          | false =>
                            go_wp2_with (fail)
                            go_roundw
                            case rel => exact ⟨z + 1, by omega, by go_num, Later.trans (show Later w7c wr from LI.out) LI5.out⟩
                            case measure => simp [Go.RowKit.intOf]; omega
                          | true =>
                            cases q3 with
                            | false =>
                              go_wp2_with (fail)
                              go_roundw
                              case rel => exact ⟨z + 1, by omega, by go_num, Later.trans (show Later w7c wr from LI.out) LI5.out⟩
                              case measure => simp [Go.RowKit.intOf]; omega
                            | true =>
                              cases q4 with
                              | false =>
                                go_wp2_with (fail)
                                go_roundw
                                case rel => exact ⟨z + 1, by omega, by go_num, Later.trans (show Later w7c wr from LI.out) LI5.out⟩
                                case measure => simp [Go.RowKit.intOf]; omega
                              | true => exact absurd ⟨rfl, rfl, rfl, rfl⟩ HQ14.out
                      · obtain ⟨w8c, hw8c⟩ : ∃ w8c, w8c = wr := ⟨_, rfl⟩
                        have LI8 : Hid (Later w7c w8c) := by rw [hw8c]; exact LI.out
                        have L8 : Hid (Later wx w8c) := Later.trans (show Later wx w7c from L7.out) LI8.out
                        have HX8 := hide (HX7.out.below LI8.out)
                        have LA8 : Hid (Later w8c (w8c.alloc (.cells (o.cells (.slice none 0 0)).toArray 37 (0, 0)))) := (Below.refl _ _).alloc (Nat.le_refl _) _
                        obtain ⟨W9, hW9⟩ : ∃ W9, W9 = w8c.alloc (.cells (o.cells (.slice none 0 0)).toArray 37 (0, 0)) := ⟨_, rfl⟩
                        have L9 : Hid (Later wx W9) := by rw [hW9]; exact Later.trans (show Later wx w8c from L8.out) LA8.out
                        have HT9 := hide (HTx.out.later L9.out)
                        have HQ9 := hide (HQx.out.later L9.out)
                        have HO9 : Hid (OpcAt (fun i => w4.heap.size ≤ i ∧ i < wc.heap.size) W9 (.slice (some ⟨xb2, xo, none⟩) on oc) O) := FlatAt.kept HOx.out (Kept.of_below L9.out _)
                        have FO : Hid (FlatAt (fun _ => True) W9 10 (.slice (some ⟨w8c.heap.size, 0, none⟩) 1 1) 1 (o.cells (.slice none 0 0))) := by rw [hW9]; exact flat_one w8c 37 10 (o.cells (.slice none 0 0)).toArray rfl (oop_one _ rfl) (fun _ => True) trivial
                        have HW9 := hide hW9.symm
                        have HS9 : Hid (wc.heap.size ≤ W9.heap.size ∧ w.heap.size ≤ W9.heap.size) := ⟨Nat.le_trans HSx.out (Below.size L9.out), Below.size HQ9.out.bel⟩
                        have HOw : Hid (W9.ownsRow w.heap.size 37 10 (.slice At tn ct) T3.length (opsC T3)) := by have := HT9.out.1; rw [HTS.out] at this; exact this
                        rw [← hw8c]
                        clear hW9 hw8c
                        go_wp2_with (first
                          | (refine wpList_val rfl (by rfl) (exec_load_oop _ (by rfl) (by rfl) HX8.out) ?_)
                          | (refine wpList_val rfl (by rfl) (exec_buildSlice_oop (o := o) (s := .slice none 0 0) HJ.out HJ0.out HJ1.out (by rfl) (by rfl)) ?_; rw [HW9.out])
                          | (at_builtin; refine wpList_append_row rfl _ _ 43 (by rfl) w.heap.size 37 i0 _ 10 96 Tryz.underlying43 HJ.out HJ0.out HJ1.out HJ2.out rfl (by decide) (.slice At tn ct) _ _ (by rfl) HOw.out _ _ 1 _ (by rfl) (fun _ => True) FO.out (by decide) (by have := HTN.out; unfold maxLen; omega) (by have := HTN.out; omega) HS9.out.2 ?_; intro v8 w10 ho8 hg8 hv8))
                        go_roundw
                        case rel =>
                          rw [← HTS.out] at hg8 hv8
                          have hbk := HQ9.out.blocks
                          have KS : Turned (fun i => t2.ownBlock = some i) W9 w10 := Turned.of_grown hg8 (fun i e => e)
                          have hW := Below.size HQ9.out.bel
                          have Q1 := HQ9.out.mono (X' := fun i => t2.ownBlock ≠ some i ∧ i ≠ W9.heap.size) (fun i hi hX => ⟨hX, by omega⟩)
                          have Q2 := Q1.turned KS (fun i e => ⟨fun hX => hX.1 e, (HT9.out.2 i e).1, (HT9.out.1.lt i e).1⟩)
                          have Q3 : BQ (fun i => v8.ownBlock ≠ some i) w w10 kg kb og ob2 8 (N : Int) t B2 kk ok2 a2 := Q2.mono (fun i _ hX e => by
                            rcases hv8 with hv8 | hv8
                            · exact hX.1 (hv8 ▸ e)
                            · rw [hv8] at e
                              exact hX.2 (Option.some.inj e).symm)
                          have hb8 : ∀ i, v8.ownBlock = some i → i < w4.heap.size ∨ wc.heap.size ≤ i := fun i e => by
                            rcases hv8 with hv8 | hv8
                            · exact HBx.out i (hv8 ▸ e)
                            · rw [hv8] at e
                              have := Option.some.inj e
                              have := HS9.out.1
                              exact .inr (by omega)
                          refine ⟨x + 1, v8, by omega, by go_num, rfl, Q3, ⟨?_, fun i e => ?_⟩, FlatAt.kept HO9.out (KS.kept fun i hi e => by have := HBx.out i e; omega), hb8, Nat.le_trans HS9.out.1 KS.size⟩
                          · rw [take_more HOX.out, ← List.append_assoc, HT3.out, opsC_more, List.length_append]
                            exact ho8
                          · have hlt := (ho8.lt i e).2
                            rcases hv8 with hv8 | hv8
                            · exact ⟨(HT9.out.2 i (hv8 ▸ e)).1, hlt⟩
                            · rw [hv8] at e
                              have := Option.some.inj e
                              exact ⟨⟨by omega, by omega, by omega, by omega⟩, hlt⟩
                        case measure => simp [Go.RowKit.intOf]; omega
                  · have hTT : T ++ O.take x = T ++ O := by rw [List.take_of_length_le (by rw [HON.out]; omega)]
                    have HTy : Hid (TRow wx w.heap.size kg kb og ob2 t2 (T ++ O)) := by have := HTx.out; rw [hTT] at this; exact this
                    have HTl : Hid (t.last ≤ ((q + 1 : Nat) : Int) ∧ t.L.length ≤ q + 1 ∧ (T ++ O).length ≤ 60 * (q + 1)) := by have := HT.out; have := HCL.out; rw [List.length_append]; exact ⟨by omega, by omega, by omega⟩
                    go_wp2_with (fail)
                    go_roundw
                    case rel => exact ⟨q + 1, ob2, kk, ok2, a2, t, B2, T ++ O, t2, by omega, by go_num, ht2, by omega, by omega, by omega, HTl.out, HQx.out, HIc.out, HTy.out⟩
                    case measure => simp [Go.RowKit.intOf]; omega
      · obtain rfl : q = n := by omega
        have LF : Hid (Later w wa) := HQ.out.bel
        go_wp2_with (fail)
        refine (olives_any (w := wa)).mono ?_
        rintro e w9 ⟨rfl, hl⟩
        have L9 : Hid (Later w w9) := Later.trans (show Later w wa from LF.out) hl
        clear hl
        go_wp2
        go_ret
        exact ⟨rfl, L9.out⟩
end
end Go.Proofs.YtdkiopajilakcaaGreat
/- OutboxOnce, as the claim asks it. -/
namespace Go.Proofs.YtdkiopajilakcaaGreat
open Go.RowKit
theorem law_onceW (u : Nat) (v : Value) (ps : List ActV) (w : World) (hu : u < 18446744073709551616) (h1 : ActsIn (· < w.heap.size) w v ps) (h2 : ∀ p ∈ ps, p.wf) :
    Calls Tryz.prog 4 #[.int .u64 (u : Int), v] w fun e w' => e = .returned (.bool true) ∧ Later w w' := law_once (u : Int) (by omega) (by omega) h1 h2
end Go.Proofs.YtdkiopajilakcaaGreat
namespace Go.Proofs.YtdkiopajilakcaaGreat
open Go.ChangeShapes Go.WideShapes Go.ChangeAt Go.RowKit

theorem outboxOnce_lawKnobs : ownKnob Tryz.prog.godebug = none := by kernel_rfl
theorem outboxOnce_allLaid : laidOutB Tryz.prog = true := by kernel_rfl

set_option maxRecDepth 100000 in
set_option maxHeartbeats 1000000 in
theorem outboxOnce_lifted (os : Os) (started : os.Started) (H : Type) (enc : TypeId × Value → H) :
    ReturnsInHanded {} Tryz.checked os 4 .any (Rows.outboxOnceSpec.pre6 enc Tryz.prog Tryz.f4 Rows.outboxOnceRow.domain false) (Rows.outboxOnceSpec.post enc Tryz.prog Tryz.f4 false true false false) := by
  refine returnsInHanded_of_change_sized (C := Tryz.checked) outboxOnce_lawKnobs started (by kernel_rfl) Tryz.func4
    (ChangeSpec.witness6 (enc := enc) (C := Tryz.checked) false ⟨#[], #[.int .u64 0, .slice none 0 0], []⟩ 8 (by kernel_rfl) (by kernel_rfl) (by kernel_rfl) (by kernel_rfl)) ?_
  intro W base args ds gs before hval0 hW hcnd hsz _
  have hval : ∀ (j : Nat) t v, Tryz.f4.params[j]? = some t → args[j]? = some v → Value.okWide Tryz.prog W .any base t v := hval0
  have hW' := hW
  obtain ⟨p, q, hA0, hV, rfl, _, _⟩ := hW
  have hA : DataW.TrodAll enc Tryz.prog W 0 (fun _ => true) true Tryz.f4.params.toList args.toList ds p := hA0
  rw [Tryz.params4] at hA hval
  obtain ⟨v0, vs0, d0, ds0, p0, q0, hargs, rfl, rfl, h0, r0⟩ := trodAll_cons hA
  obtain ⟨v1, vs1, d1, ds1, p1, q1, rfl, rfl, rfl, h1, r1⟩ := trodAll_cons r0
  obtain ⟨rfl, rfl, rfl⟩ := trodAll_nil r1
  obtain rfl : args = #[v0, v1] := by cases args; simp_all
  obtain ⟨rfl, rfl⟩ := trodVars_none hV
  have k0 := h0
  obtain ⟨a0, rfl, rfl, rfl, w0⟩ := open_int Tryz.underlying54 (hval 0 54 v0 rfl rfl) h0
  have b0 := bounds_u64 w0
  obtain ⟨V0, rfl⟩ := Int.eq_ofNat_of_zero_le b0.1
  have k1 := h1
  have lt1 : ∀ x ∈ p1, x.block < W.heap.size := by obtain ⟨m, hm⟩ := k1; exact DataW.trod_lt m _ _ _ hm
  have s1 : Sm 22 d1 := sm_of hsz (j := 1) rfl rfl
  obtain ⟨A1, len1, cap1, rfl⟩ := okWide_slice Tryz.underlying22 (hval 1 22 v1 rfl rfl)
  obtain ⟨l1, hl1, wf1⟩ := arg_acts h1 s1
  clear hA0 hval0
  refine (law_onceW V0 (.slice A1 len1 cap1) l1 W (by omega) hl1 wf1).mono fun e W' ⟨he, bel⟩ => ?_
  subst he
  exact ⟨_, rfl, _, _, _, [], _, [], hW', trodAll_mk1 (shut_bool Tryz.underlying4 _), (trodAll_cons_mk (shut_int Tryz.underlying54 w0) (trodAll_cons_mk (Below.trod outboxOnce_allLaid (by kernel_rfl) (of_decide_eq_true (by kernel_rfl)) k1 bel lt1) trodAll_mk0)), rfl, bel.frame _, fun h => by cases h⟩

theorem outboxOnce_over : Rows.outboxOnceRow.holds Tryz.pinned (OpenSpec.ofChange Rows.outboxOnceSpec) :=
  OpenClaim.holds_of_wide 4 Tryz.f4 rfl rfl rfl rfl rfl rfl rfl ⟨rfl, rfl, rfl, rfl, rfl⟩ rfl rfl rfl rfl rfl (by kernel_rfl) Tryz.func4 (by kernel_rfl)
    (of_decide_eq_true (by kernel_rfl)) (by unfold Func.isWrapper; first | (rw [if_pos (by decide +kernel)]; kernel_rfl) | (rw [if_neg (by decide +kernel)]; exact ⟨rfl, rfl⟩))
    (fun os started H enc _ => outboxOnce_lifted os started H enc)

theorem outboxOnce_holds : Rows.OutboxOnceSaid := outboxOnce_over
#print axioms outboxOnce_holds
end Go.Proofs.YtdkiopajilakcaaGreat
