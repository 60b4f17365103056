/-
  DERIVED. GIVEN WITH THE SEED: THE CARDS: each row of YtehiaeihkdfclaaGreatDoorRows.lean that lists a variable, with what it lists TIED to the program's text (the seventh form; the later family's looks); each row that meets fmt, with fmt's text TOLD by the authors' own Lean function (tested against real Go, not proved from fmt's source: count such statements apart). THE CARD IS WHAT COUNTS. Prove the row's statement (the work); the ties are given (YtehiaeihkdfclaaGreatDoorTie.lean); close each card by the builder's one call (the guide's Derived/Test/ToyasCard.lean, 'card_holds'). Laid BY PROGRAM, IN A SANDBOX (cutbox-door.mjs). By AI agents, Wed Nov 11 2026. No macro, syntax, notation, axiom, sorry.
-/
import Derived.Test.YtehiaeihkdfclaaGreatDoorRows
import GoSem.ClaimSeven
namespace Go.Proofs.YtehiaeihkdfclaaGreatDoor
namespace Rows

/-- THE TIED CARD OF 'droverlaw09.NoteBytes'. -/
def noteBytesCard : Claim7 := { stood := { row := noteBytesRow, standIns := [], harness := (true, "d080fdf996effb4a743455978e14ab5e828578cc8bc5fcc998d28e2f58e42a79"), looks := false }, kinds := [], alts := [], laidByText := true, laidKinds := [.data], laidTests := true, laidLooks := .later }
def NoteBytesCardSaid : Prop := Claim7.holds Tryz.pinned (.plain (OpenSpec.ofChange noteBytesSpec)) noteBytesCard

/-- THE TIED CARD OF 'droverlaw09.NoteReads'. -/
def noteReadsCard : Claim7 := { stood := { row := noteReadsRow, standIns := [], harness := (true, "d080fdf996effb4a743455978e14ab5e828578cc8bc5fcc998d28e2f58e42a79"), looks := false }, kinds := [], alts := [], laidByText := true, laidKinds := [.data], laidTests := true, laidLooks := .later }
def NoteReadsCardSaid : Prop := Claim7.holds Tryz.pinned (.plain (OpenSpec.ofChange noteReadsSpec)) noteReadsCard

/-- THE SECOND FORM's CARD OF 'droverlaw09.NoteBytes'. -/
def noteBytesUptoCard : Claim7 := { stood := { row := noteBytesUptoRow, standIns := [], harness := (true, "d080fdf996effb4a743455978e14ab5e828578cc8bc5fcc998d28e2f58e42a79"), looks := false }, kinds := [], alts := [], laidByText := true, laidKinds := [.data], laidTests := true, laidLooks := .later }
def NoteBytesUptoCardSaid : Prop := Claim7.holds Tryz.pinned (.plain (OpenSpec.upto noteBytesSpec)) noteBytesUptoCard

/-- THE SECOND FORM's CARD OF 'droverlaw09.NoteReads'. -/
def noteReadsUptoCard : Claim7 := { stood := { row := noteReadsUptoRow, standIns := [], harness := (true, "d080fdf996effb4a743455978e14ab5e828578cc8bc5fcc998d28e2f58e42a79"), looks := false }, kinds := [], alts := [], laidByText := true, laidKinds := [.data], laidTests := true, laidLooks := .later }
def NoteReadsUptoCardSaid : Prop := Claim7.holds Tryz.pinned (.plain (OpenSpec.upto noteReadsSpec)) noteReadsUptoCard
end Rows
end Go.Proofs.YtehiaeihkdfclaaGreatDoor
