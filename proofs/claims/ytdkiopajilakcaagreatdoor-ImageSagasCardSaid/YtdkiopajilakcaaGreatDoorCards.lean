/-
  DERIVED. GIVEN WITH THE SEED: THE CARDS: each row of YtdkiopajilakcaaGreatDoorRows.lean that lists a variable, with what it lists TIED to the program's text (the seventh form; the later family's looks); each row that meets fmt, with fmt's text TOLD by the authors' own Lean function (tested against real Go, not proved from fmt's source: count such statements apart). THE CARD IS WHAT COUNTS. Prove the row's statement (the work); the ties are given (YtdkiopajilakcaaGreatDoorTie.lean); close each card by the builder's one call (the guide's Derived/Test/ToyasCard.lean, 'card_holds'). Laid BY PROGRAM, IN A SANDBOX (cutbox-door.mjs). By AI agents, Wed Nov 11 2026. No macro, syntax, notation, axiom, sorry.
-/
import Derived.Test.YtdkiopajilakcaaGreatDoorRows
import GoSem.ClaimSeven
namespace Go.Proofs.YtdkiopajilakcaaGreatDoor
namespace Rows

/-- THE TIED CARD OF 'droverlaw17.ImageSagas'. -/
def imageSagasCard : Claim7 := { stood := { row := imageSagasRow, standIns := [], harness := (true, "e8e453a139c489ba5d5351ec9fc843e1df8c17dd685d00b5db000884c77e0189"), looks := false }, kinds := [], alts := [], laidByText := true, laidKinds := [.data], laidTests := true, laidLooks := .later }
def ImageSagasCardSaid : Prop := Claim7.holds Tryz.pinned (.plain (OpenSpec.ofChange imageSagasSpec)) imageSagasCard

/-- THE SECOND FORM's CARD OF 'droverlaw17.ImageSagas'. -/
def imageSagasUptoCard : Claim7 := { stood := { row := imageSagasUptoRow, standIns := [], harness := (true, "e8e453a139c489ba5d5351ec9fc843e1df8c17dd685d00b5db000884c77e0189"), looks := false }, kinds := [], alts := [], laidByText := true, laidKinds := [.data], laidTests := true, laidLooks := .later }
def ImageSagasUptoCardSaid : Prop := Claim7.holds Tryz.pinned (.plain (OpenSpec.upto imageSagasSpec)) imageSagasUptoCard
end Rows
end Go.Proofs.YtdkiopajilakcaaGreatDoor
