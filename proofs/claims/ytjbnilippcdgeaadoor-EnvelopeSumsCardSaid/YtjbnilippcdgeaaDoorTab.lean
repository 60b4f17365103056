/- From the row's condition to the table's sixteen cells; the start in which the table lies. -/
import Derived.Test.YtjbnilippcdgeaaDoorSum
import Derived.Test.YtjbnilippcdgeaaDoorRows
import Derived.Lib.LaidTab
import Derived.ProofKit
import Derived.LaidMore
namespace Go.Proofs.YtjbnilippcdgeaaDoor
open Go.RowKit

def halvesLaid : List (String × DataW Unit) := [("drover/envelope.halves", Rows.laid_drover_envelope_halves)]
theorem tab_start (os : Os) (args : Array Value) : laidMetH Tryd.prog halvesLaid ((World.doorLaid Tryd.prog 400 os).forCall (fun _ _ => 0) ⟨#[], args, []⟩).memory :=
  laidMetH_of_parts3 (fuel := 8) (laidMet_of_run' 8 (by kernel_rfl) (by kernel_rfl)) (by kernel_rfl) (by kernel_rfl)
theorem tab_of_laid {W : World} (h : laidMetH Tryd.prog halvesLaid W) : Tab W := by
  rw [MakeChecks.laidMetH_plain _ _ _ (by kernel_rfl)] at h
  have hN : Tryd.prog.globalNamed "drover/envelope.halves" = some 0 := by kernel_rfl
  have hT : (Tryd.prog.globals[0]?).map (·.type) = some 42 := by kernel_rfl
  have hI : Lib.TabIs Tryd.prog W "drover/envelope.halves" .u32 (tab.map fun x : Nat => (x : Int)) :=
    Lib.tabIs_of_head (rest := []) hN hT Tryd.underlying42 Tryd.underlying25 (by kernel_rfl) (by kernel_rfl) h
  have hc : ∀ i, i < 16 → W.cell? ⟨0, i, none⟩ = some (.int .u32 ((tab.getD i 0 : Nat) : Int)) := fun i hi => by
    have := hI.cell hN i (by simpa [tab] using hi)
    rw [this]
    have hl : i < tab.length := by simpa [tab] using hi
    simp [List.getD, hl]
  refine ⟨?_, hc⟩
  rcases Nat.eq_zero_or_pos W.heap.size with h0 | h0
  · have h1 := hc 0 (by omega)
    have h2 : W.heap[0]? = none := Array.getElem?_eq_none (by omega)
    simp [World.cell?, h2] at h1
  · exact h0
end Go.Proofs.YtjbnilippcdgeaaDoor
