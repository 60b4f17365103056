/-
  DERIVED. GIVEN WITH THE SEED: THE CARDS: each row of YtehiaeihkdfclaaDoorRows.lean that lists a variable, with what it lists TIED to the program's text (the seventh form; the later family's looks); each row that meets fmt, with fmt's text TOLD by the authors' own Lean function (tested against real Go, not proved from fmt's source: count such statements apart). THE CARD IS WHAT COUNTS. Prove the row's statement (the work); the ties are given (YtehiaeihkdfclaaDoorTie.lean); close each card by the builder's one call (the guide's Derived/Test/ToyasCard.lean, 'card_holds'). Laid BY PROGRAM, IN A SANDBOX (cutbox-door.mjs). By AI agents, Wed Nov 11 2026. No macro, syntax, notation, axiom, sorry.
-/
import Derived.Test.YtehiaeihkdfclaaDoorRows
import GoSem.ClaimSeven
namespace Go.Proofs.YtehiaeihkdfclaaDoor
namespace Rows

/-- THE TIED CARD OF 'droverlaw09.NoteBack'. -/
def noteBackCard : Claim7 := { stood := { row := noteBackRow, standIns := [], harness := (true, "415a9e9f5a2c4e678ad7508d3e0ec8c16995cdf56b45451470706a359943fccd"), looks := false }, kinds := [], alts := [], laidByText := true, laidKinds := [.data], laidTests := true, laidLooks := .later }
def NoteBackCardSaid : Prop := Claim7.holds Tryd.pinned (.plain (OpenSpec.ofChange noteBackSpec)) noteBackCard

/-- THE TIED CARD OF 'droverlaw09.NoteApart'. -/
def noteApartCard : Claim7 := { stood := { row := noteApartRow, standIns := [], harness := (true, "415a9e9f5a2c4e678ad7508d3e0ec8c16995cdf56b45451470706a359943fccd"), looks := false }, kinds := [], alts := [], laidByText := true, laidKinds := [.data], laidTests := true, laidLooks := .later }
def NoteApartCardSaid : Prop := Claim7.holds Tryd.pinned (.plain (OpenSpec.ofChange noteApartSpec)) noteApartCard

/-- THE TIED CARD OF 'droverlaw09.NoteOps'. -/
def noteOpsCard : Claim7 := { stood := { row := noteOpsRow, standIns := [], harness := (true, "415a9e9f5a2c4e678ad7508d3e0ec8c16995cdf56b45451470706a359943fccd"), looks := false }, kinds := [], alts := [], laidByText := true, laidKinds := [.data], laidTests := true, laidLooks := .later }
def NoteOpsCardSaid : Prop := Claim7.holds Tryd.pinned (.plain (OpenSpec.ofChange noteOpsSpec)) noteOpsCard

/-- THE SECOND FORM's CARD OF 'droverlaw09.NoteBack'. -/
def noteBackUptoCard : Claim7 := { stood := { row := noteBackUptoRow, standIns := [], harness := (true, "415a9e9f5a2c4e678ad7508d3e0ec8c16995cdf56b45451470706a359943fccd"), looks := false }, kinds := [], alts := [], laidByText := true, laidKinds := [.data], laidTests := true, laidLooks := .later }
def NoteBackUptoCardSaid : Prop := Claim7.holds Tryd.pinned (.plain (OpenSpec.upto noteBackSpec)) noteBackUptoCard

/-- THE SECOND FORM's CARD OF 'droverlaw09.NoteApart'. -/
def noteApartUptoCard : Claim7 := { stood := { row := noteApartUptoRow, standIns := [], harness := (true, "415a9e9f5a2c4e678ad7508d3e0ec8c16995cdf56b45451470706a359943fccd"), looks := false }, kinds := [], alts := [], laidByText := true, laidKinds := [.data], laidTests := true, laidLooks := .later }
def NoteApartUptoCardSaid : Prop := Claim7.holds Tryd.pinned (.plain (OpenSpec.upto noteApartSpec)) noteApartUptoCard

/-- THE SECOND FORM's CARD OF 'droverlaw09.NoteOps'. -/
def noteOpsUptoCard : Claim7 := { stood := { row := noteOpsUptoRow, standIns := [], harness := (true, "415a9e9f5a2c4e678ad7508d3e0ec8c16995cdf56b45451470706a359943fccd"), looks := false }, kinds := [], alts := [], laidByText := true, laidKinds := [.data], laidTests := true, laidLooks := .later }
def NoteOpsUptoCardSaid : Prop := Claim7.holds Tryd.pinned (.plain (OpenSpec.upto noteOpsSpec)) noteOpsUptoCard
end Rows
end Go.Proofs.YtehiaeihkdfclaaDoor
