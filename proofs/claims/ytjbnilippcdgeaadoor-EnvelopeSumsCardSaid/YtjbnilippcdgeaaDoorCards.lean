/-
  DERIVED. GIVEN WITH THE SEED: THE CARDS: each row of YtjbnilippcdgeaaDoorRows.lean that lists a variable, with what it lists TIED to the program's text (the seventh form; the later family's looks); each row that meets fmt, with fmt's text TOLD by the authors' own Lean function (tested against real Go, not proved from fmt's source: count such statements apart). THE CARD IS WHAT COUNTS. Prove the row's statement (the work); the ties are given (YtjbnilippcdgeaaDoorTie.lean); close each card by the builder's one call (the guide's Derived/Test/ToyasCard.lean, 'card_holds'). Laid BY PROGRAM, IN A SANDBOX (cutbox-door.mjs). By AI agents, Wed Nov 11 2026. No macro, syntax, notation, axiom, sorry.
-/
import Derived.Test.YtjbnilippcdgeaaDoorRows
import GoSem.ClaimSeven
namespace Go.Proofs.YtjbnilippcdgeaaDoor
namespace Rows

/-- THE TIED CARD OF 'droverlaw02.EnvelopeSeals'. -/
def envelopeSealsCard : Claim7 := { stood := { row := envelopeSealsRow, standIns := [], harness := (true, "c78fa924e24e690e420eb5318c2a3bd86ccd8f4e41fd2ee27b0dab0ce7726f39"), looks := false }, kinds := [], alts := [], laidByText := true, laidKinds := [.data], laidTests := true, laidLooks := .later }
def EnvelopeSealsCardSaid : Prop := Claim7.holds Tryd.pinned (.plain (OpenSpec.ofChange envelopeSealsSpec)) envelopeSealsCard

/-- THE TIED CARD OF 'droverlaw02.EnvelopeBack'. -/
def envelopeBackCard : Claim7 := { stood := { row := envelopeBackRow, standIns := [], harness := (true, "c78fa924e24e690e420eb5318c2a3bd86ccd8f4e41fd2ee27b0dab0ce7726f39"), looks := false }, kinds := [], alts := [], laidByText := true, laidKinds := [.data], laidTests := true, laidLooks := .later }
def EnvelopeBackCardSaid : Prop := Claim7.holds Tryd.pinned (.plain (OpenSpec.ofChange envelopeBackSpec)) envelopeBackCard

/-- THE TIED CARD OF 'droverlaw02.EnvelopeFlips'. -/
def envelopeFlipsCard : Claim7 := { stood := { row := envelopeFlipsRow, standIns := [], harness := (true, "c78fa924e24e690e420eb5318c2a3bd86ccd8f4e41fd2ee27b0dab0ce7726f39"), looks := false }, kinds := [], alts := [], laidByText := true, laidKinds := [.data], laidTests := true, laidLooks := .later }
def EnvelopeFlipsCardSaid : Prop := Claim7.holds Tryd.pinned (.plain (OpenSpec.ofChange envelopeFlipsSpec)) envelopeFlipsCard

/-- THE TIED CARD OF 'droverlaw02.EnvelopeSums'. -/
def envelopeSumsCard : Claim7 := { stood := { row := envelopeSumsRow, standIns := [], harness := (true, "c78fa924e24e690e420eb5318c2a3bd86ccd8f4e41fd2ee27b0dab0ce7726f39"), looks := false }, kinds := [], alts := [], laidByText := true, laidKinds := [.data], laidTests := true, laidLooks := .later }
def EnvelopeSumsCardSaid : Prop := Claim7.holds Tryd.pinned (.plain (OpenSpec.ofChange envelopeSumsSpec)) envelopeSumsCard

/-- THE SECOND FORM's CARD OF 'droverlaw02.EnvelopeSeals'. -/
def envelopeSealsUptoCard : Claim7 := { stood := { row := envelopeSealsUptoRow, standIns := [], harness := (true, "c78fa924e24e690e420eb5318c2a3bd86ccd8f4e41fd2ee27b0dab0ce7726f39"), looks := false }, kinds := [], alts := [], laidByText := true, laidKinds := [.data], laidTests := true, laidLooks := .later }
def EnvelopeSealsUptoCardSaid : Prop := Claim7.holds Tryd.pinned (.plain (OpenSpec.upto envelopeSealsSpec)) envelopeSealsUptoCard

/-- THE SECOND FORM's CARD OF 'droverlaw02.EnvelopeBack'. -/
def envelopeBackUptoCard : Claim7 := { stood := { row := envelopeBackUptoRow, standIns := [], harness := (true, "c78fa924e24e690e420eb5318c2a3bd86ccd8f4e41fd2ee27b0dab0ce7726f39"), looks := false }, kinds := [], alts := [], laidByText := true, laidKinds := [.data], laidTests := true, laidLooks := .later }
def EnvelopeBackUptoCardSaid : Prop := Claim7.holds Tryd.pinned (.plain (OpenSpec.upto envelopeBackSpec)) envelopeBackUptoCard

/-- THE SECOND FORM's CARD OF 'droverlaw02.EnvelopeFlips'. -/
def envelopeFlipsUptoCard : Claim7 := { stood := { row := envelopeFlipsUptoRow, standIns := [], harness := (true, "c78fa924e24e690e420eb5318c2a3bd86ccd8f4e41fd2ee27b0dab0ce7726f39"), looks := false }, kinds := [], alts := [], laidByText := true, laidKinds := [.data], laidTests := true, laidLooks := .later }
def EnvelopeFlipsUptoCardSaid : Prop := Claim7.holds Tryd.pinned (.plain (OpenSpec.upto envelopeFlipsSpec)) envelopeFlipsUptoCard

/-- THE SECOND FORM's CARD OF 'droverlaw02.EnvelopeSums'. -/
def envelopeSumsUptoCard : Claim7 := { stood := { row := envelopeSumsUptoRow, standIns := [], harness := (true, "c78fa924e24e690e420eb5318c2a3bd86ccd8f4e41fd2ee27b0dab0ce7726f39"), looks := false }, kinds := [], alts := [], laidByText := true, laidKinds := [.data], laidTests := true, laidLooks := .later }
def EnvelopeSumsUptoCardSaid : Prop := Claim7.holds Tryd.pinned (.plain (OpenSpec.upto envelopeSumsSpec)) envelopeSumsUptoCard
end Rows
end Go.Proofs.YtjbnilippcdgeaaDoor
