/-
  NARROWER THAN 'FOR EVERY INPUT', by the rows' own cells (each row's printed sentence says how): EnvelopeSeals: laid · EnvelopeBack: laid · EnvelopeFlips: laid · EnvelopeSums: laid.
  DERIVED. THE GIVEN ROWS OF THIS SEAT. 4 by the template 'for every input the law returns true; each argument reads behind the call as it read before'; 0 by the template 'total and deterministic' (their statements: YtjbnilippcdgeaaDoorTotals.lean).
  GIVEN WITH THE SEED: the statements are not yours to turn. If you find one false, say at which input.
  Laid BY PROGRAM, IN A SANDBOX (cutbox-rows.mjs): the forced cells as the released guide's own fill.sh prints them over the translation bb12d2347c166c4b… (all of the seat's roots in one cut). By AI agents, Wed Nov 11 2026. No macro, syntax, notation, axiom, sorry.
-/
import Derived.Test.YtjbnilippcdgeaaDoorChecked
import GoSem.Claim
import GoSem.ClaimJoined
import GoSem.ClaimMapViews
import Derived.JoinedTies
import Derived.KernelRfl
namespace Go.Proofs.YtjbnilippcdgeaaDoor
/- THE CELL 'sum', in the pinned program and in every row, IS THE sha256 OF THE DUMP (.gsa) THAT YtjbnilippcdgeaaDoorProg.lean LOADS. Nothing in Lean hashes anything: it is a label: what it is worth is what the hold of that sum in a sandbox is worth. -/
noncomputable def Tryd.pinned : Pinned := { name := "ytjbnilippcdgeaadoor", sum := "bb12d2347c166c4b28a8232e090d15e14292d2a0f2e661c80a0108ad3d512b97", checked := Tryd.checked }
namespace Rows
def none {H : Type} : Left H := { results := [], args := [] }

/- WHAT THE LISTED PACKAGE-LEVEL VARIABLES READ AS WHEN THE CALL BEGINS. Each datum BY PROGRAM (the guide's laid-datum.mjs) off the statement by which the dump's own 'gosem.cut.vars' lays the variable. In a bare row this is a premise. The card (YtjbnilippcdgeaaDoorCards.lean) ties it to the program's text. -/
def laid_drover_envelope_halves {H : Type} : DataW H := .agg [.lit (.int .u32 0), .lit (.int .u32 498536548), .lit (.int .u32 997073096), .lit (.int .u32 651767980), .lit (.int .u32 1994146192), .lit (.int .u32 1802195444), .lit (.int .u32 1303535960), .lit (.int .u32 1342533948), .lit (.int .u32 3988292384), .lit (.int .u32 4027552580), .lit (.int .u32 3604390888), .lit (.int .u32 3412177804), .lit (.int .u32 2607071920), .lit (.int .u32 2262029012), .lit (.int .u32 2685067896), .lit (.int .u32 3183342108)]

/-- 'droverlaw02.EnvelopeSeals': WHATEVER THE INPUT: true; the input reads as it did. -/
def envelopeSealsSpec : ChangeSpec := { name := "envelopeSeals", fn := fun _ => fun
  | [d] => { results := [.lit (.bool true)], args := [d] }
  | _ => none }
def envelopeSealsRow : OpenClaim := { program := "ytjbnilippcdgeaadoor", sum := "bb12d2347c166c4b28a8232e090d15e14292d2a0f2e661c80a0108ad3d512b97", func := "drover/droverlaw02.EnvelopeSeals", spec := "envelopeSeals", named := ["drover/envelope.halves"], apart := false, laid := [("drover/envelope.halves", laid_drover_envelope_halves)] }
def EnvelopeSealsSaid : Prop := envelopeSealsRow.holds Tryd.pinned (OpenSpec.ofChange envelopeSealsSpec)

/-- ITS FALSE NEIGHBOUR: 'it returns false'. Refute it at one input. -/
def envelopeSealsWrong : ChangeSpec := { name := "envelopeSeals", fn := fun _ => fun
  | [d] => { results := [.lit (.bool false)], args := [d] }
  | _ => none }
def EnvelopeSealsWrongFalsely : Prop := envelopeSealsRow.holds Tryd.pinned (OpenSpec.ofChange envelopeSealsWrong)

/-- 'droverlaw02.EnvelopeBack': WHATEVER THE INPUT: true; the input reads as it did. -/
def envelopeBackSpec : ChangeSpec := { name := "envelopeBack", fn := fun _ => fun
  | [d1, d2, d3] => { results := [.lit (.bool true)], args := [d1, d2, d3] }
  | _ => none }
def envelopeBackRow : OpenClaim := { program := "ytjbnilippcdgeaadoor", sum := "bb12d2347c166c4b28a8232e090d15e14292d2a0f2e661c80a0108ad3d512b97", func := "drover/droverlaw02.EnvelopeBack", spec := "envelopeBack", named := ["drover/envelope.halves"], apart := false, laid := [("drover/envelope.halves", laid_drover_envelope_halves)] }
def EnvelopeBackSaid : Prop := envelopeBackRow.holds Tryd.pinned (OpenSpec.ofChange envelopeBackSpec)

/-- ITS FALSE NEIGHBOUR: 'it returns false'. Refute it at one input. -/
def envelopeBackWrong : ChangeSpec := { name := "envelopeBack", fn := fun _ => fun
  | [d1, d2, d3] => { results := [.lit (.bool false)], args := [d1, d2, d3] }
  | _ => none }
def EnvelopeBackWrongFalsely : Prop := envelopeBackRow.holds Tryd.pinned (OpenSpec.ofChange envelopeBackWrong)

/-- 'droverlaw02.EnvelopeFlips': WHATEVER THE INPUT: true; the input reads as it did. -/
def envelopeFlipsSpec : ChangeSpec := { name := "envelopeFlips", fn := fun _ => fun
  | [d1, d2] => { results := [.lit (.bool true)], args := [d1, d2] }
  | _ => none }
def envelopeFlipsRow : OpenClaim := { program := "ytjbnilippcdgeaadoor", sum := "bb12d2347c166c4b28a8232e090d15e14292d2a0f2e661c80a0108ad3d512b97", func := "drover/droverlaw02.EnvelopeFlips", spec := "envelopeFlips", named := ["drover/envelope.halves"], apart := false, laid := [("drover/envelope.halves", laid_drover_envelope_halves)] }
def EnvelopeFlipsSaid : Prop := envelopeFlipsRow.holds Tryd.pinned (OpenSpec.ofChange envelopeFlipsSpec)

/-- ITS FALSE NEIGHBOUR: 'it returns false'. Refute it at one input. -/
def envelopeFlipsWrong : ChangeSpec := { name := "envelopeFlips", fn := fun _ => fun
  | [d1, d2] => { results := [.lit (.bool false)], args := [d1, d2] }
  | _ => none }
def EnvelopeFlipsWrongFalsely : Prop := envelopeFlipsRow.holds Tryd.pinned (OpenSpec.ofChange envelopeFlipsWrong)

/-- 'droverlaw02.EnvelopeSums': WHATEVER THE INPUT: true; the input reads as it did. -/
def envelopeSumsSpec : ChangeSpec := { name := "envelopeSums", fn := fun _ => fun
  | [d1, d2] => { results := [.lit (.bool true)], args := [d1, d2] }
  | _ => none }
def envelopeSumsRow : OpenClaim := { program := "ytjbnilippcdgeaadoor", sum := "bb12d2347c166c4b28a8232e090d15e14292d2a0f2e661c80a0108ad3d512b97", func := "drover/droverlaw02.EnvelopeSums", spec := "envelopeSums", named := ["drover/envelope.halves"], apart := false, laid := [("drover/envelope.halves", laid_drover_envelope_halves)] }
def EnvelopeSumsSaid : Prop := envelopeSumsRow.holds Tryd.pinned (OpenSpec.ofChange envelopeSumsSpec)

/-- ITS FALSE NEIGHBOUR: 'it returns false'. Refute it at one input. -/
def envelopeSumsWrong : ChangeSpec := { name := "envelopeSums", fn := fun _ => fun
  | [d1, d2] => { results := [.lit (.bool false)], args := [d1, d2] }
  | _ => none }
def EnvelopeSumsWrongFalsely : Prop := envelopeSumsRow.holds Tryd.pinned (OpenSpec.ofChange envelopeSumsWrong)

/- THE SECOND FORM. 'bulk': how many values and letters a reading holds, each counted each time it is reached (what is shared counts as often as it is met; a slice's spare places count too). A statement '..UptoSaid' is the law's where the arguments, and the package variables that the reading takes, are together of bulk at most 1048576: NARROWER than '..Said'. Prove '..Said' where nothing that the law and all that it calls make is longer than what came in: it says more and counts as full. Else prove '..UptoSaid'. A law counts once. -/
mutual
def uptoBulk {H : Type} : DataW H → Nat
  | .lit (.string bytes) => bytes.length + 1
  | .lit _ => 1
  | .nil => 1
  | .ptr d => uptoBulk d + 1
  | .slice elems spare => uptoBulkAll elems + uptoBulkAll spare + 1
  | .agg parts => uptoBulkAll parts + 1
  | .iface _ d => uptoBulk d + 1
  | .map entries => uptoBulkEntries entries + 1
  | .held _ => 1
def uptoBulkAll {H : Type} : List (DataW H) → Nat
  | [] => 0
  | d :: r => uptoBulk d + uptoBulkAll r
def uptoBulkEntries {H : Type} : List (Lit × DataW H) → Nat
  | [] => 0
  | x :: r => uptoBulkEntry x + uptoBulkEntries r
def uptoBulkEntry {H : Type} : Lit × DataW H → Nat
  | (.string bytes, d) => bytes.length + uptoBulk d + 1
  | (_, d) => uptoBulk d + 1
 end
def uptoSmall : (H : Type) → List (DataW H) → Bool := fun _ ds => decide (uptoBulkAll ds ≤ 1048576)
def OpenSpec.upto (s : _root_.Go.ChangeSpec) : _root_.Go.OpenSpec := { _root_.Go.OpenSpec.ofChange s with cond := some uptoSmall }

/-- 'droverlaw02.EnvelopeSeals', WHERE WHAT IT READS IS OF BULK AT MOST 1048576: true; the input reads as it did. -/
def envelopeSealsUptoRow : OpenClaim := { program := "ytjbnilippcdgeaadoor", sum := "bb12d2347c166c4b28a8232e090d15e14292d2a0f2e661c80a0108ad3d512b97", func := "drover/droverlaw02.EnvelopeSeals", spec := "envelopeSeals", named := ["drover/envelope.halves"], apart := false, laid := [("drover/envelope.halves", laid_drover_envelope_halves)], narrowed := true }
def EnvelopeSealsUptoSaid : Prop := envelopeSealsUptoRow.holds Tryd.pinned (OpenSpec.upto envelopeSealsSpec)

/-- 'droverlaw02.EnvelopeBack', WHERE WHAT IT READS IS OF BULK AT MOST 1048576: true; the input reads as it did. -/
def envelopeBackUptoRow : OpenClaim := { program := "ytjbnilippcdgeaadoor", sum := "bb12d2347c166c4b28a8232e090d15e14292d2a0f2e661c80a0108ad3d512b97", func := "drover/droverlaw02.EnvelopeBack", spec := "envelopeBack", named := ["drover/envelope.halves"], apart := false, laid := [("drover/envelope.halves", laid_drover_envelope_halves)], narrowed := true }
def EnvelopeBackUptoSaid : Prop := envelopeBackUptoRow.holds Tryd.pinned (OpenSpec.upto envelopeBackSpec)

/-- 'droverlaw02.EnvelopeFlips', WHERE WHAT IT READS IS OF BULK AT MOST 1048576: true; the input reads as it did. -/
def envelopeFlipsUptoRow : OpenClaim := { program := "ytjbnilippcdgeaadoor", sum := "bb12d2347c166c4b28a8232e090d15e14292d2a0f2e661c80a0108ad3d512b97", func := "drover/droverlaw02.EnvelopeFlips", spec := "envelopeFlips", named := ["drover/envelope.halves"], apart := false, laid := [("drover/envelope.halves", laid_drover_envelope_halves)], narrowed := true }
def EnvelopeFlipsUptoSaid : Prop := envelopeFlipsUptoRow.holds Tryd.pinned (OpenSpec.upto envelopeFlipsSpec)

/-- 'droverlaw02.EnvelopeSums', WHERE WHAT IT READS IS OF BULK AT MOST 1048576: true; the input reads as it did. -/
def envelopeSumsUptoRow : OpenClaim := { program := "ytjbnilippcdgeaadoor", sum := "bb12d2347c166c4b28a8232e090d15e14292d2a0f2e661c80a0108ad3d512b97", func := "drover/droverlaw02.EnvelopeSums", spec := "envelopeSums", named := ["drover/envelope.halves"], apart := false, laid := [("drover/envelope.halves", laid_drover_envelope_halves)], narrowed := true }
def EnvelopeSumsUptoSaid : Prop := envelopeSumsUptoRow.holds Tryd.pinned (OpenSpec.upto envelopeSumsSpec)

end Rows
end Go.Proofs.YtjbnilippcdgeaaDoor
