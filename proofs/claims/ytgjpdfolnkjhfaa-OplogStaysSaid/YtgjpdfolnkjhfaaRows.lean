/-
  No cell of these rows narrows 'for every input' (looked for: loops, veiled, ifaces, maps, wideKeys, modest, calm, conditions, laid).
  DERIVED. THE GIVEN ROWS OF THIS SEAT. 7 by the template 'for every input the law returns true; each argument reads behind the call as it read before'; 0 by the template 'total and deterministic' (their statements: YtgjpdfolnkjhfaaTotals.lean).
  GIVEN WITH THE SEED: the statements are not yours to turn. If you find one false, say at which input.
  Laid BY PROGRAM, IN A SANDBOX (cutbox-rows.mjs): the forced cells as the released guide's own fill.sh prints them over the translation 1580ece027dc1ee9… (all of the seat's roots in one cut). By AI agents, Wed Nov 11 2026. No macro, syntax, notation, axiom, sorry.
-/
import Derived.Test.YtgjpdfolnkjhfaaChecked
import GoSem.Claim
import GoSem.ClaimJoined
import GoSem.ClaimMapViews
import Derived.JoinedTies
import Derived.KernelRfl
namespace Go.Proofs.Ytgjpdfolnkjhfaa
/- THE CELL 'sum', in the pinned program and in every row, IS THE sha256 OF THE DUMP (.gsa) THAT YtgjpdfolnkjhfaaProg.lean LOADS. Nothing in Lean hashes anything: it is a label: what it is worth is what the hold of that sum in a sandbox is worth. -/
noncomputable def Try.pinned : Pinned := { name := "ytgjpdfolnkjhfaa", sum := "1580ece027dc1ee9a504aebeb60765ba5a3c7c381523c9ae4e5e98bc0c08ecce", checked := Try.checked }
namespace Rows
def none {H : Type} : Left H := { results := [], args := [] }

/-- 'droverlaw06.OplogActs': WHATEVER THE INPUT: true; the input reads as it did. -/
def oplogActsSpec : ChangeSpec := { name := "oplogActs", fn := fun _ => fun
  | [d] => { results := [.lit (.bool true)], args := [d] }
  | _ => none }
def oplogActsRow : OpenClaim := { program := "ytgjpdfolnkjhfaa", sum := "1580ece027dc1ee9a504aebeb60765ba5a3c7c381523c9ae4e5e98bc0c08ecce", func := "drover/droverlaw06.OplogActs", spec := "oplogActs", unfollowed := true, recurses := true, apart := false }
def OplogActsSaid : Prop := oplogActsRow.holds Try.pinned (OpenSpec.ofChange oplogActsSpec)

/-- ITS FALSE NEIGHBOUR: 'it returns false'. Refute it at one input. -/
def oplogActsWrong : ChangeSpec := { name := "oplogActs", fn := fun _ => fun
  | [d] => { results := [.lit (.bool false)], args := [d] }
  | _ => none }
def OplogActsWrongFalsely : Prop := oplogActsRow.holds Try.pinned (OpenSpec.ofChange oplogActsWrong)

/-- 'droverlaw06.OplogPrefixes': WHATEVER THE INPUT: true; the input reads as it did. -/
def oplogPrefixesSpec : ChangeSpec := { name := "oplogPrefixes", fn := fun _ => fun
  | [d1, d2] => { results := [.lit (.bool true)], args := [d1, d2] }
  | _ => none }
def oplogPrefixesRow : OpenClaim := { program := "ytgjpdfolnkjhfaa", sum := "1580ece027dc1ee9a504aebeb60765ba5a3c7c381523c9ae4e5e98bc0c08ecce", func := "drover/droverlaw06.OplogPrefixes", spec := "oplogPrefixes", unfollowed := true, recurses := true, apart := false }
def OplogPrefixesSaid : Prop := oplogPrefixesRow.holds Try.pinned (OpenSpec.ofChange oplogPrefixesSpec)

/-- ITS FALSE NEIGHBOUR: 'it returns false'. Refute it at one input. -/
def oplogPrefixesWrong : ChangeSpec := { name := "oplogPrefixes", fn := fun _ => fun
  | [d1, d2] => { results := [.lit (.bool false)], args := [d1, d2] }
  | _ => none }
def OplogPrefixesWrongFalsely : Prop := oplogPrefixesRow.holds Try.pinned (OpenSpec.ofChange oplogPrefixesWrong)

/-- 'droverlaw06.OplogStays': WHATEVER THE INPUT: true; the input reads as it did. -/
def oplogStaysSpec : ChangeSpec := { name := "oplogStays", fn := fun _ => fun
  | [d] => { results := [.lit (.bool true)], args := [d] }
  | _ => none }
def oplogStaysRow : OpenClaim := { program := "ytgjpdfolnkjhfaa", sum := "1580ece027dc1ee9a504aebeb60765ba5a3c7c381523c9ae4e5e98bc0c08ecce", func := "drover/droverlaw06.OplogStays", spec := "oplogStays", unfollowed := true, recurses := true, apart := false }
def OplogStaysSaid : Prop := oplogStaysRow.holds Try.pinned (OpenSpec.ofChange oplogStaysSpec)

/-- ITS FALSE NEIGHBOUR: 'it returns false'. Refute it at one input. -/
def oplogStaysWrong : ChangeSpec := { name := "oplogStays", fn := fun _ => fun
  | [d] => { results := [.lit (.bool false)], args := [d] }
  | _ => none }
def OplogStaysWrongFalsely : Prop := oplogStaysRow.holds Try.pinned (OpenSpec.ofChange oplogStaysWrong)

/-- 'droverlaw06.OplogOwn': WHATEVER THE INPUT: true; the input reads as it did. -/
def oplogOwnSpec : ChangeSpec := { name := "oplogOwn", fn := fun _ => fun
  | [d] => { results := [.lit (.bool true)], args := [d] }
  | _ => none }
def oplogOwnRow : OpenClaim := { program := "ytgjpdfolnkjhfaa", sum := "1580ece027dc1ee9a504aebeb60765ba5a3c7c381523c9ae4e5e98bc0c08ecce", func := "drover/droverlaw06.OplogOwn", spec := "oplogOwn", unfollowed := true, recurses := true, apart := false }
def OplogOwnSaid : Prop := oplogOwnRow.holds Try.pinned (OpenSpec.ofChange oplogOwnSpec)

/-- ITS FALSE NEIGHBOUR: 'it returns false'. Refute it at one input. -/
def oplogOwnWrong : ChangeSpec := { name := "oplogOwn", fn := fun _ => fun
  | [d] => { results := [.lit (.bool false)], args := [d] }
  | _ => none }
def OplogOwnWrongFalsely : Prop := oplogOwnRow.holds Try.pinned (OpenSpec.ofChange oplogOwnWrong)

/-- 'droverlaw06.OplogFull': WHATEVER THE INPUT: true; the input reads as it did. -/
def oplogFullSpec : ChangeSpec := { name := "oplogFull", fn := fun _ => fun
  | [d] => { results := [.lit (.bool true)], args := [d] }
  | _ => none }
def oplogFullRow : OpenClaim := { program := "ytgjpdfolnkjhfaa", sum := "1580ece027dc1ee9a504aebeb60765ba5a3c7c381523c9ae4e5e98bc0c08ecce", func := "drover/droverlaw06.OplogFull", spec := "oplogFull", unfollowed := true, recurses := true, apart := false }
def OplogFullSaid : Prop := oplogFullRow.holds Try.pinned (OpenSpec.ofChange oplogFullSpec)

/-- ITS FALSE NEIGHBOUR: 'it returns false'. Refute it at one input. -/
def oplogFullWrong : ChangeSpec := { name := "oplogFull", fn := fun _ => fun
  | [d] => { results := [.lit (.bool false)], args := [d] }
  | _ => none }
def OplogFullWrongFalsely : Prop := oplogFullRow.holds Try.pinned (OpenSpec.ofChange oplogFullWrong)

/-- 'droverlaw06.OplogNone': WHATEVER THE INPUT: true; the input reads as it did. -/
def oplogNoneSpec : ChangeSpec := { name := "oplogNone", fn := fun _ => fun
  | [d] => { results := [.lit (.bool true)], args := [d] }
  | _ => none }
def oplogNoneRow : OpenClaim := { program := "ytgjpdfolnkjhfaa", sum := "1580ece027dc1ee9a504aebeb60765ba5a3c7c381523c9ae4e5e98bc0c08ecce", func := "drover/droverlaw06.OplogNone", spec := "oplogNone", unfollowed := true, recurses := true, apart := false }
def OplogNoneSaid : Prop := oplogNoneRow.holds Try.pinned (OpenSpec.ofChange oplogNoneSpec)

/-- ITS FALSE NEIGHBOUR: 'it returns false'. Refute it at one input. -/
def oplogNoneWrong : ChangeSpec := { name := "oplogNone", fn := fun _ => fun
  | [d] => { results := [.lit (.bool false)], args := [d] }
  | _ => none }
def OplogNoneWrongFalsely : Prop := oplogNoneRow.holds Try.pinned (OpenSpec.ofChange oplogNoneWrong)

/-- 'droverlaw06.OplogJoins': WHATEVER THE INPUT: true; the input reads as it did. -/
def oplogJoinsSpec : ChangeSpec := { name := "oplogJoins", fn := fun _ => fun
  | [d1, d2, d3] => { results := [.lit (.bool true)], args := [d1, d2, d3] }
  | _ => none }
def oplogJoinsRow : OpenClaim := { program := "ytgjpdfolnkjhfaa", sum := "1580ece027dc1ee9a504aebeb60765ba5a3c7c381523c9ae4e5e98bc0c08ecce", func := "drover/droverlaw06.OplogJoins", spec := "oplogJoins", unfollowed := true, recurses := true, apart := false }
def OplogJoinsSaid : Prop := oplogJoinsRow.holds Try.pinned (OpenSpec.ofChange oplogJoinsSpec)

/-- ITS FALSE NEIGHBOUR: 'it returns false'. Refute it at one input. -/
def oplogJoinsWrong : ChangeSpec := { name := "oplogJoins", fn := fun _ => fun
  | [d1, d2, d3] => { results := [.lit (.bool false)], args := [d1, d2, d3] }
  | _ => none }
def OplogJoinsWrongFalsely : Prop := oplogJoinsRow.holds Try.pinned (OpenSpec.ofChange oplogJoinsWrong)

/- THE SECOND FORM. 'bulk': how many values and letters a reading holds, each counted each time it is reached (what is shared counts as often as it is met; a slice's spare places count too). A statement '..UptoSaid' is the law's where the arguments, and the package variables that the reading takes, are together of bulk at most 1048576: NARROWER than '..Said'. Prove '..Said' where nothing that the law and all that it calls make is longer than what came in: it says more and counts as full. Else prove '..UptoSaid'. A law counts once. -/
mutual
def uptoBulk {H : Type} : DataW H → Nat
  | .lit (.string bytes) => bytes.length + 1
  | .lit _ => 1
  | .nil => 1
  | .ptr d => uptoBulk d + 1
  | .slice elems spare => uptoBulkAll elems + uptoBulkAll spare + 1
  | .agg parts => uptoBulkAll parts + 1
  | .iface _ d => uptoBulk d + 1
  | .map entries => uptoBulkEntries entries + 1
  | .held _ => 1
def uptoBulkAll {H : Type} : List (DataW H) → Nat
  | [] => 0
  | d :: r => uptoBulk d + uptoBulkAll r
def uptoBulkEntries {H : Type} : List (Lit × DataW H) → Nat
  | [] => 0
  | x :: r => uptoBulkEntry x + uptoBulkEntries r
def uptoBulkEntry {H : Type} : Lit × DataW H → Nat
  | (.string bytes, d) => bytes.length + uptoBulk d + 1
  | (_, d) => uptoBulk d + 1
 end
def uptoSmall : (H : Type) → List (DataW H) → Bool := fun _ ds => decide (uptoBulkAll ds ≤ 1048576)
def OpenSpec.upto (s : _root_.Go.ChangeSpec) : _root_.Go.OpenSpec := { _root_.Go.OpenSpec.ofChange s with cond := some uptoSmall }

/-- 'droverlaw06.OplogActs', WHERE WHAT IT READS IS OF BULK AT MOST 1048576: true; the input reads as it did. -/
def oplogActsUptoRow : OpenClaim := { program := "ytgjpdfolnkjhfaa", sum := "1580ece027dc1ee9a504aebeb60765ba5a3c7c381523c9ae4e5e98bc0c08ecce", func := "drover/droverlaw06.OplogActs", spec := "oplogActs", unfollowed := true, recurses := true, apart := false, narrowed := true }
def OplogActsUptoSaid : Prop := oplogActsUptoRow.holds Try.pinned (OpenSpec.upto oplogActsSpec)

/-- 'droverlaw06.OplogPrefixes', WHERE WHAT IT READS IS OF BULK AT MOST 1048576: true; the input reads as it did. -/
def oplogPrefixesUptoRow : OpenClaim := { program := "ytgjpdfolnkjhfaa", sum := "1580ece027dc1ee9a504aebeb60765ba5a3c7c381523c9ae4e5e98bc0c08ecce", func := "drover/droverlaw06.OplogPrefixes", spec := "oplogPrefixes", unfollowed := true, recurses := true, apart := false, narrowed := true }
def OplogPrefixesUptoSaid : Prop := oplogPrefixesUptoRow.holds Try.pinned (OpenSpec.upto oplogPrefixesSpec)

/-- 'droverlaw06.OplogStays', WHERE WHAT IT READS IS OF BULK AT MOST 1048576: true; the input reads as it did. -/
def oplogStaysUptoRow : OpenClaim := { program := "ytgjpdfolnkjhfaa", sum := "1580ece027dc1ee9a504aebeb60765ba5a3c7c381523c9ae4e5e98bc0c08ecce", func := "drover/droverlaw06.OplogStays", spec := "oplogStays", unfollowed := true, recurses := true, apart := false, narrowed := true }
def OplogStaysUptoSaid : Prop := oplogStaysUptoRow.holds Try.pinned (OpenSpec.upto oplogStaysSpec)

/-- 'droverlaw06.OplogOwn', WHERE WHAT IT READS IS OF BULK AT MOST 1048576: true; the input reads as it did. -/
def oplogOwnUptoRow : OpenClaim := { program := "ytgjpdfolnkjhfaa", sum := "1580ece027dc1ee9a504aebeb60765ba5a3c7c381523c9ae4e5e98bc0c08ecce", func := "drover/droverlaw06.OplogOwn", spec := "oplogOwn", unfollowed := true, recurses := true, apart := false, narrowed := true }
def OplogOwnUptoSaid : Prop := oplogOwnUptoRow.holds Try.pinned (OpenSpec.upto oplogOwnSpec)

/-- 'droverlaw06.OplogFull', WHERE WHAT IT READS IS OF BULK AT MOST 1048576: true; the input reads as it did. -/
def oplogFullUptoRow : OpenClaim := { program := "ytgjpdfolnkjhfaa", sum := "1580ece027dc1ee9a504aebeb60765ba5a3c7c381523c9ae4e5e98bc0c08ecce", func := "drover/droverlaw06.OplogFull", spec := "oplogFull", unfollowed := true, recurses := true, apart := false, narrowed := true }
def OplogFullUptoSaid : Prop := oplogFullUptoRow.holds Try.pinned (OpenSpec.upto oplogFullSpec)

/-- 'droverlaw06.OplogNone', WHERE WHAT IT READS IS OF BULK AT MOST 1048576: true; the input reads as it did. -/
def oplogNoneUptoRow : OpenClaim := { program := "ytgjpdfolnkjhfaa", sum := "1580ece027dc1ee9a504aebeb60765ba5a3c7c381523c9ae4e5e98bc0c08ecce", func := "drover/droverlaw06.OplogNone", spec := "oplogNone", unfollowed := true, recurses := true, apart := false, narrowed := true }
def OplogNoneUptoSaid : Prop := oplogNoneUptoRow.holds Try.pinned (OpenSpec.upto oplogNoneSpec)

/-- 'droverlaw06.OplogJoins', WHERE WHAT IT READS IS OF BULK AT MOST 1048576: true; the input reads as it did. -/
def oplogJoinsUptoRow : OpenClaim := { program := "ytgjpdfolnkjhfaa", sum := "1580ece027dc1ee9a504aebeb60765ba5a3c7c381523c9ae4e5e98bc0c08ecce", func := "drover/droverlaw06.OplogJoins", spec := "oplogJoins", unfollowed := true, recurses := true, apart := false, narrowed := true }
def OplogJoinsUptoSaid : Prop := oplogJoinsUptoRow.holds Try.pinned (OpenSpec.upto oplogJoinsSpec)

end Rows
end Go.Proofs.Ytgjpdfolnkjhfaa
