/-
  DERIVED. GIVEN WITH THE SEED: THE CARDS: each row of YtdahnjcoflifbaaDoorRows.lean that lists a variable, with what it lists TIED to the program's text (the seventh form; the later family's looks); each row that meets fmt, with fmt's text TOLD by the authors' own Lean function (tested against real Go, not proved from fmt's source: count such statements apart). THE CARD IS WHAT COUNTS. Prove the row's statement (the work); the ties are given (YtdahnjcoflifbaaDoorTie.lean); close each card by the builder's one call (the guide's Derived/Test/ToyasCard.lean, 'card_holds'). Laid BY PROGRAM, IN A SANDBOX (cutbox-door.mjs). By AI agents, Wed Nov 11 2026. No macro, syntax, notation, axiom, sorry.
-/
import Derived.Test.YtdahnjcoflifbaaDoorRows
import GoSem.ClaimSeven
namespace Go.Proofs.YtdahnjcoflifbaaDoor
namespace Rows

/-- THE TIED CARD OF 'droverlaw13.DefParses'. -/
def defParsesCard : Claim7 := { stood := { row := defParsesRow, standIns := [], harness := (true, "7dbb95bd21ef4cb887d00f2fc9708acf3b9c40deb25cb66179a4ba6330348767"), looks := false }, kinds := [], alts := [], laidByText := true, laidKinds := [.data], laidTests := true, laidLooks := .later }
def DefParsesCardSaid : Prop := Claim7.holds Tryd.pinned (.plain (OpenSpec.ofChange defParsesSpec)) defParsesCard

/-- THE TIED CARD OF 'droverlaw13.DefChecks'. -/
def defChecksCard : Claim7 := { stood := { row := defChecksRow, standIns := [], harness := (true, "7dbb95bd21ef4cb887d00f2fc9708acf3b9c40deb25cb66179a4ba6330348767"), looks := false }, kinds := [], alts := [], laidByText := true, laidKinds := [.data, .data, .data, .data], laidTests := true, laidLooks := .later }
def DefChecksCardSaid : Prop := Claim7.holds Tryd.pinned (.plain (OpenSpec.ofChange defChecksSpec)) defChecksCard

/-- THE TIED CARD OF 'droverlaw13.DefBack'. -/
def defBackCard : Claim7 := { stood := { row := defBackRow, standIns := [], harness := (true, "7dbb95bd21ef4cb887d00f2fc9708acf3b9c40deb25cb66179a4ba6330348767"), looks := false }, kinds := [], alts := [], laidByText := true, laidKinds := [.data, .data, .data, .data], laidTests := true, laidLooks := .later }
def DefBackCardSaid : Prop := Claim7.holds Tryd.pinned (.plain (OpenSpec.ofChange defBackSpec)) defBackCard

/-- THE TIED CARD OF 'droverlaw13.DefSames'. -/
def defSamesCard : Claim7 := { stood := { row := defSamesRow, standIns := [], harness := (true, "7dbb95bd21ef4cb887d00f2fc9708acf3b9c40deb25cb66179a4ba6330348767"), looks := false }, kinds := [], alts := [], laidByText := true, laidKinds := [.data], laidTests := true, laidLooks := .later }
def DefSamesCardSaid : Prop := Claim7.holds Tryd.pinned (.plain (OpenSpec.ofChange defSamesSpec)) defSamesCard

/-- THE TIED CARD OF 'droverlaw13.DefBounds'. -/
def defBoundsCard : Claim7 := { stood := { row := defBoundsRow, standIns := [], harness := (true, "7dbb95bd21ef4cb887d00f2fc9708acf3b9c40deb25cb66179a4ba6330348767"), looks := false }, kinds := [], alts := [], laidByText := true, laidKinds := [.data], laidTests := true, laidLooks := .later }
def DefBoundsCardSaid : Prop := Claim7.holds Tryd.pinned (.plain (OpenSpec.ofChange defBoundsSpec)) defBoundsCard

/-- THE TIED CARD OF 'droverlaw13.DefNames'. -/
def defNamesCard : Claim7 := { stood := { row := defNamesRow, standIns := [], harness := (true, "7dbb95bd21ef4cb887d00f2fc9708acf3b9c40deb25cb66179a4ba6330348767"), looks := false }, kinds := [], alts := [], laidByText := true, laidKinds := [.data], laidTests := true, laidLooks := .later }
def DefNamesCardSaid : Prop := Claim7.holds Tryd.pinned (.plain (OpenSpec.ofChange defNamesSpec)) defNamesCard

/-- THE SECOND FORM's CARD OF 'droverlaw13.DefParses'. -/
def defParsesUptoCard : Claim7 := { stood := { row := defParsesUptoRow, standIns := [], harness := (true, "7dbb95bd21ef4cb887d00f2fc9708acf3b9c40deb25cb66179a4ba6330348767"), looks := false }, kinds := [], alts := [], laidByText := true, laidKinds := [.data], laidTests := true, laidLooks := .later }
def DefParsesUptoCardSaid : Prop := Claim7.holds Tryd.pinned (.plain (OpenSpec.upto defParsesSpec)) defParsesUptoCard

/-- THE SECOND FORM's CARD OF 'droverlaw13.DefChecks'. -/
def defChecksUptoCard : Claim7 := { stood := { row := defChecksUptoRow, standIns := [], harness := (true, "7dbb95bd21ef4cb887d00f2fc9708acf3b9c40deb25cb66179a4ba6330348767"), looks := false }, kinds := [], alts := [], laidByText := true, laidKinds := [.data, .data, .data, .data], laidTests := true, laidLooks := .later }
def DefChecksUptoCardSaid : Prop := Claim7.holds Tryd.pinned (.plain (OpenSpec.upto defChecksSpec)) defChecksUptoCard

/-- THE SECOND FORM's CARD OF 'droverlaw13.DefBack'. -/
def defBackUptoCard : Claim7 := { stood := { row := defBackUptoRow, standIns := [], harness := (true, "7dbb95bd21ef4cb887d00f2fc9708acf3b9c40deb25cb66179a4ba6330348767"), looks := false }, kinds := [], alts := [], laidByText := true, laidKinds := [.data, .data, .data, .data], laidTests := true, laidLooks := .later }
def DefBackUptoCardSaid : Prop := Claim7.holds Tryd.pinned (.plain (OpenSpec.upto defBackSpec)) defBackUptoCard

/-- THE SECOND FORM's CARD OF 'droverlaw13.DefSames'. -/
def defSamesUptoCard : Claim7 := { stood := { row := defSamesUptoRow, standIns := [], harness := (true, "7dbb95bd21ef4cb887d00f2fc9708acf3b9c40deb25cb66179a4ba6330348767"), looks := false }, kinds := [], alts := [], laidByText := true, laidKinds := [.data], laidTests := true, laidLooks := .later }
def DefSamesUptoCardSaid : Prop := Claim7.holds Tryd.pinned (.plain (OpenSpec.upto defSamesSpec)) defSamesUptoCard

/-- THE SECOND FORM's CARD OF 'droverlaw13.DefBounds'. -/
def defBoundsUptoCard : Claim7 := { stood := { row := defBoundsUptoRow, standIns := [], harness := (true, "7dbb95bd21ef4cb887d00f2fc9708acf3b9c40deb25cb66179a4ba6330348767"), looks := false }, kinds := [], alts := [], laidByText := true, laidKinds := [.data], laidTests := true, laidLooks := .later }
def DefBoundsUptoCardSaid : Prop := Claim7.holds Tryd.pinned (.plain (OpenSpec.upto defBoundsSpec)) defBoundsUptoCard

/-- THE SECOND FORM's CARD OF 'droverlaw13.DefNames'. -/
def defNamesUptoCard : Claim7 := { stood := { row := defNamesUptoRow, standIns := [], harness := (true, "7dbb95bd21ef4cb887d00f2fc9708acf3b9c40deb25cb66179a4ba6330348767"), looks := false }, kinds := [], alts := [], laidByText := true, laidKinds := [.data], laidTests := true, laidLooks := .later }
def DefNamesUptoCardSaid : Prop := Claim7.holds Tryd.pinned (.plain (OpenSpec.upto defNamesSpec)) defNamesUptoCard
end Rows
end Go.Proofs.YtdahnjcoflifbaaDoor
