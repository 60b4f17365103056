/-
  No cell of these rows narrows 'for every input' (looked for: loops, veiled, ifaces, maps, wideKeys, modest, calm, conditions, laid).
  DERIVED. THE GIVEN ROWS OF THIS SEAT. 3 by the template 'for every input the law returns true; each argument reads behind the call as it read before'; 0 by the template 'total and deterministic' (their statements: YtodifeoficjamaaTotals.lean).
  GIVEN WITH THE SEED: the statements are not yours to turn. If you find one false, say at which input.
  Laid BY PROGRAM, IN A SANDBOX (cutbox-rows.mjs): the forced cells as the released guide's own fill.sh prints them over the translation 569de3f4e6cb0c18… (all of the seat's roots in one cut). By AI agents, Wed Nov 11 2026. No macro, syntax, notation, axiom, sorry.
-/
import Derived.Test.YtodifeoficjamaaChecked
import GoSem.Claim
import GoSem.ClaimJoined
import GoSem.ClaimMapViews
import Derived.JoinedTies
import Derived.KernelRfl
namespace Go.Proofs.Ytodifeoficjamaa
/- THE CELL 'sum', in the pinned program and in every row, IS THE sha256 OF THE DUMP (.gsa) THAT YtodifeoficjamaaProg.lean LOADS. Nothing in Lean hashes anything: it is a label: what it is worth is what the hold of that sum in a sandbox is worth. -/
noncomputable def Try.pinned : Pinned := { name := "ytodifeoficjamaa", sum := "569de3f4e6cb0c18788b8431cc03d34e6463595ed5c4dfaf1b0b7ea4643f8908", checked := Try.checked }
namespace Rows
def none {H : Type} : Left H := { results := [], args := [] }

/-- 'droverlaw15.SagaBegins': WHATEVER THE INPUT: true; the input reads as it did. -/
def sagaBeginsSpec : ChangeSpec := { name := "sagaBegins", fn := fun _ => fun
  | [d1, d2] => { results := [.lit (.bool true)], args := [d1, d2] }
  | _ => none }
def sagaBeginsRow : OpenClaim := { program := "ytodifeoficjamaa", sum := "569de3f4e6cb0c18788b8431cc03d34e6463595ed5c4dfaf1b0b7ea4643f8908", func := "drover/droverlaw15.SagaBegins", spec := "sagaBegins", inPlace := ["internal/bytealg.IndexByteString", "internal/bytealg.IndexString"], unfollowed := true, recurses := true, named := ["internal/bytealg.MaxLen"], apart := false }
def SagaBeginsSaid : Prop := sagaBeginsRow.holds Try.pinned (OpenSpec.ofChange sagaBeginsSpec)

/-- ITS FALSE NEIGHBOUR: 'it returns false'. Refute it at one input. -/
def sagaBeginsWrong : ChangeSpec := { name := "sagaBegins", fn := fun _ => fun
  | [d1, d2] => { results := [.lit (.bool false)], args := [d1, d2] }
  | _ => none }
def SagaBeginsWrongFalsely : Prop := sagaBeginsRow.holds Try.pinned (OpenSpec.ofChange sagaBeginsWrong)

/-- 'droverlaw15.SagaUndoes': WHATEVER THE INPUT: true; the input reads as it did. -/
def sagaUndoesSpec : ChangeSpec := { name := "sagaUndoes", fn := fun _ => fun
  | [d1, d2] => { results := [.lit (.bool true)], args := [d1, d2] }
  | _ => none }
def sagaUndoesRow : OpenClaim := { program := "ytodifeoficjamaa", sum := "569de3f4e6cb0c18788b8431cc03d34e6463595ed5c4dfaf1b0b7ea4643f8908", func := "drover/droverlaw15.SagaUndoes", spec := "sagaUndoes", inPlace := ["internal/bytealg.IndexByteString", "internal/bytealg.IndexString"], unfollowed := true, recurses := true, named := ["internal/bytealg.MaxLen"], apart := false }
def SagaUndoesSaid : Prop := sagaUndoesRow.holds Try.pinned (OpenSpec.ofChange sagaUndoesSpec)

/-- ITS FALSE NEIGHBOUR: 'it returns false'. Refute it at one input. -/
def sagaUndoesWrong : ChangeSpec := { name := "sagaUndoes", fn := fun _ => fun
  | [d1, d2] => { results := [.lit (.bool false)], args := [d1, d2] }
  | _ => none }
def SagaUndoesWrongFalsely : Prop := sagaUndoesRow.holds Try.pinned (OpenSpec.ofChange sagaUndoesWrong)

/-- 'droverlaw15.SagaEnds': WHATEVER THE INPUT: true; the input reads as it did. -/
def sagaEndsSpec : ChangeSpec := { name := "sagaEnds", fn := fun _ => fun
  | [d1, d2] => { results := [.lit (.bool true)], args := [d1, d2] }
  | _ => none }
def sagaEndsRow : OpenClaim := { program := "ytodifeoficjamaa", sum := "569de3f4e6cb0c18788b8431cc03d34e6463595ed5c4dfaf1b0b7ea4643f8908", func := "drover/droverlaw15.SagaEnds", spec := "sagaEnds", inPlace := ["internal/bytealg.IndexByteString", "internal/bytealg.IndexString"], unfollowed := true, recurses := true, named := ["internal/bytealg.MaxLen"], apart := false }
def SagaEndsSaid : Prop := sagaEndsRow.holds Try.pinned (OpenSpec.ofChange sagaEndsSpec)

/-- ITS FALSE NEIGHBOUR: 'it returns false'. Refute it at one input. -/
def sagaEndsWrong : ChangeSpec := { name := "sagaEnds", fn := fun _ => fun
  | [d1, d2] => { results := [.lit (.bool false)], args := [d1, d2] }
  | _ => none }
def SagaEndsWrongFalsely : Prop := sagaEndsRow.holds Try.pinned (OpenSpec.ofChange sagaEndsWrong)

/- THE SECOND FORM. 'bulk': how many values and letters a reading holds, each counted each time it is reached (what is shared counts as often as it is met; a slice's spare places count too). A statement '..UptoSaid' is the law's where the arguments, and the package variables that the reading takes, are together of bulk at most 1048576: NARROWER than '..Said'. Prove '..Said' where nothing that the law and all that it calls make is longer than what came in: it says more and counts as full. Else prove '..UptoSaid'. A law counts once. -/
mutual
def uptoBulk {H : Type} : DataW H → Nat
  | .lit (.string bytes) => bytes.length + 1
  | .lit _ => 1
  | .nil => 1
  | .ptr d => uptoBulk d + 1
  | .slice elems spare => uptoBulkAll elems + uptoBulkAll spare + 1
  | .agg parts => uptoBulkAll parts + 1
  | .iface _ d => uptoBulk d + 1
  | .map entries => uptoBulkEntries entries + 1
  | .held _ => 1
def uptoBulkAll {H : Type} : List (DataW H) → Nat
  | [] => 0
  | d :: r => uptoBulk d + uptoBulkAll r
def uptoBulkEntries {H : Type} : List (Lit × DataW H) → Nat
  | [] => 0
  | x :: r => uptoBulkEntry x + uptoBulkEntries r
def uptoBulkEntry {H : Type} : Lit × DataW H → Nat
  | (.string bytes, d) => bytes.length + uptoBulk d + 1
  | (_, d) => uptoBulk d + 1
 end
def uptoSmall : (H : Type) → List (DataW H) → Bool := fun _ ds => decide (uptoBulkAll ds ≤ 1048576)
def OpenSpec.upto (s : _root_.Go.ChangeSpec) : _root_.Go.OpenSpec := { _root_.Go.OpenSpec.ofChange s with cond := some uptoSmall }

/-- 'droverlaw15.SagaBegins', WHERE WHAT IT READS IS OF BULK AT MOST 1048576: true; the input reads as it did. -/
def sagaBeginsUptoRow : OpenClaim := { program := "ytodifeoficjamaa", sum := "569de3f4e6cb0c18788b8431cc03d34e6463595ed5c4dfaf1b0b7ea4643f8908", func := "drover/droverlaw15.SagaBegins", spec := "sagaBegins", inPlace := ["internal/bytealg.IndexByteString", "internal/bytealg.IndexString"], unfollowed := true, recurses := true, named := ["internal/bytealg.MaxLen"], apart := false, narrowed := true }
def SagaBeginsUptoSaid : Prop := sagaBeginsUptoRow.holds Try.pinned (OpenSpec.upto sagaBeginsSpec)

/-- 'droverlaw15.SagaUndoes', WHERE WHAT IT READS IS OF BULK AT MOST 1048576: true; the input reads as it did. -/
def sagaUndoesUptoRow : OpenClaim := { program := "ytodifeoficjamaa", sum := "569de3f4e6cb0c18788b8431cc03d34e6463595ed5c4dfaf1b0b7ea4643f8908", func := "drover/droverlaw15.SagaUndoes", spec := "sagaUndoes", inPlace := ["internal/bytealg.IndexByteString", "internal/bytealg.IndexString"], unfollowed := true, recurses := true, named := ["internal/bytealg.MaxLen"], apart := false, narrowed := true }
def SagaUndoesUptoSaid : Prop := sagaUndoesUptoRow.holds Try.pinned (OpenSpec.upto sagaUndoesSpec)

/-- 'droverlaw15.SagaEnds', WHERE WHAT IT READS IS OF BULK AT MOST 1048576: true; the input reads as it did. -/
def sagaEndsUptoRow : OpenClaim := { program := "ytodifeoficjamaa", sum := "569de3f4e6cb0c18788b8431cc03d34e6463595ed5c4dfaf1b0b7ea4643f8908", func := "drover/droverlaw15.SagaEnds", spec := "sagaEnds", inPlace := ["internal/bytealg.IndexByteString", "internal/bytealg.IndexString"], unfollowed := true, recurses := true, named := ["internal/bytealg.MaxLen"], apart := false, narrowed := true }
def SagaEndsUptoSaid : Prop := sagaEndsUptoRow.holds Try.pinned (OpenSpec.upto sagaEndsSpec)

end Rows
end Go.Proofs.Ytodifeoficjamaa
