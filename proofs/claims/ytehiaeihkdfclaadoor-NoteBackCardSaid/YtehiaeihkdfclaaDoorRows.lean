/-
  NARROWER THAN 'FOR EVERY INPUT', by the rows' own cells (each row's printed sentence says how): NoteBack: laid · NoteApart: laid · NoteOps: laid.
  DERIVED. THE GIVEN ROWS OF THIS SEAT. 3 by the template 'for every input the law returns true; each argument reads behind the call as it read before'; 0 by the template 'total and deterministic' (their statements: YtehiaeihkdfclaaDoorTotals.lean).
  GIVEN WITH THE SEED: the statements are not yours to turn. If you find one false, say at which input.
  Laid BY PROGRAM, IN A SANDBOX (cutbox-rows.mjs): the forced cells as the released guide's own fill.sh prints them over the translation 89ca9bfe5288c0d7… (all of the seat's roots in one cut). By AI agents, Wed Nov 11 2026. No macro, syntax, notation, axiom, sorry.
-/
import Derived.Test.YtehiaeihkdfclaaDoorChecked
import GoSem.Claim
import GoSem.ClaimJoined
import GoSem.ClaimMapViews
import Derived.JoinedTies
import Derived.KernelRfl
namespace Go.Proofs.YtehiaeihkdfclaaDoor
/- THE CELL 'sum', in the pinned program and in every row, IS THE sha256 OF THE DUMP (.gsa) THAT YtehiaeihkdfclaaDoorProg.lean LOADS. Nothing in Lean hashes anything: it is a label: what it is worth is what the hold of that sum in a sandbox is worth. -/
noncomputable def Tryd.pinned : Pinned := { name := "ytehiaeihkdfclaadoor", sum := "89ca9bfe5288c0d71927e53e02bcf580d2d642940909346d3be45889ff9adda5", checked := Tryd.checked }
namespace Rows
def none {H : Type} : Left H := { results := [], args := [] }

/- WHAT THE LISTED PACKAGE-LEVEL VARIABLES READ AS WHEN THE CALL BEGINS. Each datum BY PROGRAM (the guide's laid-datum.mjs) off the statement by which the dump's own 'gosem.cut.vars' lays the variable. In a bare row this is a premise. The card (YtehiaeihkdfclaaDoorCards.lean) ties it to the program's text. -/
def laid_drover_envelope_halves {H : Type} : DataW H := .agg [.lit (.int .u32 0), .lit (.int .u32 498536548), .lit (.int .u32 997073096), .lit (.int .u32 651767980), .lit (.int .u32 1994146192), .lit (.int .u32 1802195444), .lit (.int .u32 1303535960), .lit (.int .u32 1342533948), .lit (.int .u32 3988292384), .lit (.int .u32 4027552580), .lit (.int .u32 3604390888), .lit (.int .u32 3412177804), .lit (.int .u32 2607071920), .lit (.int .u32 2262029012), .lit (.int .u32 2685067896), .lit (.int .u32 3183342108)]

/-- 'droverlaw09.NoteBack': WHATEVER THE INPUT: true; the input reads as it did. -/
def noteBackSpec : ChangeSpec := { name := "noteBack", fn := fun _ => fun
  | [d1, d2] => { results := [.lit (.bool true)], args := [d1, d2] }
  | _ => none }
def noteBackRow : OpenClaim := { program := "ytehiaeihkdfclaadoor", sum := "89ca9bfe5288c0d71927e53e02bcf580d2d642940909346d3be45889ff9adda5", func := "drover/droverlaw09.NoteBack", spec := "noteBack", unfollowed := true, recurses := true, named := ["drover/envelope.halves"], apart := false, laid := [("drover/envelope.halves", laid_drover_envelope_halves)] }
def NoteBackSaid : Prop := noteBackRow.holds Tryd.pinned (OpenSpec.ofChange noteBackSpec)

/-- ITS FALSE NEIGHBOUR: 'it returns false'. Refute it at one input. -/
def noteBackWrong : ChangeSpec := { name := "noteBack", fn := fun _ => fun
  | [d1, d2] => { results := [.lit (.bool false)], args := [d1, d2] }
  | _ => none }
def NoteBackWrongFalsely : Prop := noteBackRow.holds Tryd.pinned (OpenSpec.ofChange noteBackWrong)

/-- 'droverlaw09.NoteApart': WHATEVER THE INPUT: true; the input reads as it did. -/
def noteApartSpec : ChangeSpec := { name := "noteApart", fn := fun _ => fun
  | [d1, d2] => { results := [.lit (.bool true)], args := [d1, d2] }
  | _ => none }
def noteApartRow : OpenClaim := { program := "ytehiaeihkdfclaadoor", sum := "89ca9bfe5288c0d71927e53e02bcf580d2d642940909346d3be45889ff9adda5", func := "drover/droverlaw09.NoteApart", spec := "noteApart", unfollowed := true, recurses := true, named := ["drover/envelope.halves"], apart := false, laid := [("drover/envelope.halves", laid_drover_envelope_halves)] }
def NoteApartSaid : Prop := noteApartRow.holds Tryd.pinned (OpenSpec.ofChange noteApartSpec)

/-- ITS FALSE NEIGHBOUR: 'it returns false'. Refute it at one input. -/
def noteApartWrong : ChangeSpec := { name := "noteApart", fn := fun _ => fun
  | [d1, d2] => { results := [.lit (.bool false)], args := [d1, d2] }
  | _ => none }
def NoteApartWrongFalsely : Prop := noteApartRow.holds Tryd.pinned (OpenSpec.ofChange noteApartWrong)

/-- 'droverlaw09.NoteOps': WHATEVER THE INPUT: true; the input reads as it did. -/
def noteOpsSpec : ChangeSpec := { name := "noteOps", fn := fun _ => fun
  | [d] => { results := [.lit (.bool true)], args := [d] }
  | _ => none }
def noteOpsRow : OpenClaim := { program := "ytehiaeihkdfclaadoor", sum := "89ca9bfe5288c0d71927e53e02bcf580d2d642940909346d3be45889ff9adda5", func := "drover/droverlaw09.NoteOps", spec := "noteOps", unfollowed := true, recurses := true, named := ["drover/envelope.halves"], apart := false, laid := [("drover/envelope.halves", laid_drover_envelope_halves)] }
def NoteOpsSaid : Prop := noteOpsRow.holds Tryd.pinned (OpenSpec.ofChange noteOpsSpec)

/-- ITS FALSE NEIGHBOUR: 'it returns false'. Refute it at one input. -/
def noteOpsWrong : ChangeSpec := { name := "noteOps", fn := fun _ => fun
  | [d] => { results := [.lit (.bool false)], args := [d] }
  | _ => none }
def NoteOpsWrongFalsely : Prop := noteOpsRow.holds Tryd.pinned (OpenSpec.ofChange noteOpsWrong)

/- THE SECOND FORM. 'bulk': how many values and letters a reading holds, each counted each time it is reached (what is shared counts as often as it is met; a slice's spare places count too). A statement '..UptoSaid' is the law's where the arguments, and the package variables that the reading takes, are together of bulk at most 1048576: NARROWER than '..Said'. Prove '..Said' where nothing that the law and all that it calls make is longer than what came in: it says more and counts as full. Else prove '..UptoSaid'. A law counts once. -/
mutual
def uptoBulk {H : Type} : DataW H → Nat
  | .lit (.string bytes) => bytes.length + 1
  | .lit _ => 1
  | .nil => 1
  | .ptr d => uptoBulk d + 1
  | .slice elems spare => uptoBulkAll elems + uptoBulkAll spare + 1
  | .agg parts => uptoBulkAll parts + 1
  | .iface _ d => uptoBulk d + 1
  | .map entries => uptoBulkEntries entries + 1
  | .held _ => 1
def uptoBulkAll {H : Type} : List (DataW H) → Nat
  | [] => 0
  | d :: r => uptoBulk d + uptoBulkAll r
def uptoBulkEntries {H : Type} : List (Lit × DataW H) → Nat
  | [] => 0
  | x :: r => uptoBulkEntry x + uptoBulkEntries r
def uptoBulkEntry {H : Type} : Lit × DataW H → Nat
  | (.string bytes, d) => bytes.length + uptoBulk d + 1
  | (_, d) => uptoBulk d + 1
 end
def uptoSmall : (H : Type) → List (DataW H) → Bool := fun _ ds => decide (uptoBulkAll ds ≤ 1048576)
def OpenSpec.upto (s : _root_.Go.ChangeSpec) : _root_.Go.OpenSpec := { _root_.Go.OpenSpec.ofChange s with cond := some uptoSmall }

/-- 'droverlaw09.NoteBack', WHERE WHAT IT READS IS OF BULK AT MOST 1048576: true; the input reads as it did. -/
def noteBackUptoRow : OpenClaim := { program := "ytehiaeihkdfclaadoor", sum := "89ca9bfe5288c0d71927e53e02bcf580d2d642940909346d3be45889ff9adda5", func := "drover/droverlaw09.NoteBack", spec := "noteBack", unfollowed := true, recurses := true, named := ["drover/envelope.halves"], apart := false, laid := [("drover/envelope.halves", laid_drover_envelope_halves)], narrowed := true }
def NoteBackUptoSaid : Prop := noteBackUptoRow.holds Tryd.pinned (OpenSpec.upto noteBackSpec)

/-- 'droverlaw09.NoteApart', WHERE WHAT IT READS IS OF BULK AT MOST 1048576: true; the input reads as it did. -/
def noteApartUptoRow : OpenClaim := { program := "ytehiaeihkdfclaadoor", sum := "89ca9bfe5288c0d71927e53e02bcf580d2d642940909346d3be45889ff9adda5", func := "drover/droverlaw09.NoteApart", spec := "noteApart", unfollowed := true, recurses := true, named := ["drover/envelope.halves"], apart := false, laid := [("drover/envelope.halves", laid_drover_envelope_halves)], narrowed := true }
def NoteApartUptoSaid : Prop := noteApartUptoRow.holds Tryd.pinned (OpenSpec.upto noteApartSpec)

/-- 'droverlaw09.NoteOps', WHERE WHAT IT READS IS OF BULK AT MOST 1048576: true; the input reads as it did. -/
def noteOpsUptoRow : OpenClaim := { program := "ytehiaeihkdfclaadoor", sum := "89ca9bfe5288c0d71927e53e02bcf580d2d642940909346d3be45889ff9adda5", func := "drover/droverlaw09.NoteOps", spec := "noteOps", unfollowed := true, recurses := true, named := ["drover/envelope.halves"], apart := false, laid := [("drover/envelope.halves", laid_drover_envelope_halves)], narrowed := true }
def NoteOpsUptoSaid : Prop := noteOpsUptoRow.holds Tryd.pinned (OpenSpec.upto noteOpsSpec)

end Rows
end Go.Proofs.YtehiaeihkdfclaaDoor
