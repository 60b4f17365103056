/-
  No cell of these rows narrows 'for every input' (looked for: loops, veiled, ifaces, maps, wideKeys, modest, calm, conditions, laid).
  DERIVED. THE GIVEN ROWS OF THIS SEAT. 6 by the template 'for every input the law returns true; each argument reads behind the call as it read before'; 0 by the template 'total and deterministic' (their statements: YtnmkndnaomgmhaaTotals.lean).
  GIVEN WITH THE SEED: the statements are not yours to turn. If you find one false, say at which input.
  Laid BY PROGRAM, IN A SANDBOX (cutbox-rows.mjs): the forced cells as the released guide's own fill.sh prints them over the translation 72ef62216b8f2e4d… (all of the seat's roots in one cut). By AI agents, Wed Nov 11 2026. No macro, syntax, notation, axiom, sorry.
-/
import Derived.Test.YtnmkndnaomgmhaaChecked
import GoSem.Claim
import GoSem.ClaimJoined
import GoSem.ClaimMapViews
import Derived.JoinedTies
import Derived.KernelRfl
namespace Go.Proofs.Ytnmkndnaomgmhaa
/- THE CELL 'sum', in the pinned program and in every row, IS THE sha256 OF THE DUMP (.gsa) THAT YtnmkndnaomgmhaaProg.lean LOADS. Nothing in Lean hashes anything: it is a label: what it is worth is what the hold of that sum in a sandbox is worth. -/
noncomputable def Try.pinned : Pinned := { name := "ytnmkndnaomgmhaa", sum := "72ef62216b8f2e4d1e2df02c299df795afbf10569de231e39fc3295aa656d4b9", checked := Try.checked }
namespace Rows
def none {H : Type} : Left H := { results := [], args := [] }

/-- 'droverlaw08.ViewLeads': WHATEVER THE INPUT: true; the input reads as it did. -/
def viewLeadsSpec : ChangeSpec := { name := "viewLeads", fn := fun _ => fun
  | [d1, d2, d3] => { results := [.lit (.bool true)], args := [d1, d2, d3] }
  | _ => none }
def viewLeadsRow : OpenClaim := { program := "ytnmkndnaomgmhaa", sum := "72ef62216b8f2e4d1e2df02c299df795afbf10569de231e39fc3295aa656d4b9", func := "drover/droverlaw08.ViewLeads", spec := "viewLeads", apart := false }
def ViewLeadsSaid : Prop := viewLeadsRow.holds Try.pinned (OpenSpec.ofChange viewLeadsSpec)

/-- ITS FALSE NEIGHBOUR: 'it returns false'. Refute it at one input. -/
def viewLeadsWrong : ChangeSpec := { name := "viewLeads", fn := fun _ => fun
  | [d1, d2, d3] => { results := [.lit (.bool false)], args := [d1, d2, d3] }
  | _ => none }
def ViewLeadsWrongFalsely : Prop := viewLeadsRow.holds Try.pinned (OpenSpec.ofChange viewLeadsWrong)

/-- 'droverlaw08.ViewVotes': WHATEVER THE INPUT: true; the input reads as it did. -/
def viewVotesSpec : ChangeSpec := { name := "viewVotes", fn := fun _ => fun
  | [d1, d2] => { results := [.lit (.bool true)], args := [d1, d2] }
  | _ => none }
def viewVotesRow : OpenClaim := { program := "ytnmkndnaomgmhaa", sum := "72ef62216b8f2e4d1e2df02c299df795afbf10569de231e39fc3295aa656d4b9", func := "drover/droverlaw08.ViewVotes", spec := "viewVotes", apart := false }
def ViewVotesSaid : Prop := viewVotesRow.holds Try.pinned (OpenSpec.ofChange viewVotesSpec)

/-- ITS FALSE NEIGHBOUR: 'it returns false'. Refute it at one input. -/
def viewVotesWrong : ChangeSpec := { name := "viewVotes", fn := fun _ => fun
  | [d1, d2] => { results := [.lit (.bool false)], args := [d1, d2] }
  | _ => none }
def ViewVotesWrongFalsely : Prop := viewVotesRow.holds Try.pinned (OpenSpec.ofChange viewVotesWrong)

/-- 'droverlaw08.ViewChooses': WHATEVER THE INPUT: true; the input reads as it did. -/
def viewChoosesSpec : ChangeSpec := { name := "viewChooses", fn := fun _ => fun
  | [d] => { results := [.lit (.bool true)], args := [d] }
  | _ => none }
def viewChoosesRow : OpenClaim := { program := "ytnmkndnaomgmhaa", sum := "72ef62216b8f2e4d1e2df02c299df795afbf10569de231e39fc3295aa656d4b9", func := "drover/droverlaw08.ViewChooses", spec := "viewChooses", unfollowed := true, recurses := true, apart := false }
def ViewChoosesSaid : Prop := viewChoosesRow.holds Try.pinned (OpenSpec.ofChange viewChoosesSpec)

/-- ITS FALSE NEIGHBOUR: 'it returns false'. Refute it at one input. -/
def viewChoosesWrong : ChangeSpec := { name := "viewChooses", fn := fun _ => fun
  | [d] => { results := [.lit (.bool false)], args := [d] }
  | _ => none }
def ViewChoosesWrongFalsely : Prop := viewChoosesRow.holds Try.pinned (OpenSpec.ofChange viewChoosesWrong)

/-- 'droverlaw08.ViewMeets': WHATEVER THE INPUT: true; the input reads as it did. -/
def viewMeetsSpec : ChangeSpec := { name := "viewMeets", fn := fun _ => fun
  | [d1, d2, d3] => { results := [.lit (.bool true)], args := [d1, d2, d3] }
  | _ => none }
def viewMeetsRow : OpenClaim := { program := "ytnmkndnaomgmhaa", sum := "72ef62216b8f2e4d1e2df02c299df795afbf10569de231e39fc3295aa656d4b9", func := "drover/droverlaw08.ViewMeets", spec := "viewMeets", apart := false }
def ViewMeetsSaid : Prop := viewMeetsRow.holds Try.pinned (OpenSpec.ofChange viewMeetsSpec)

/-- ITS FALSE NEIGHBOUR: 'it returns false'. Refute it at one input. -/
def viewMeetsWrong : ChangeSpec := { name := "viewMeets", fn := fun _ => fun
  | [d1, d2, d3] => { results := [.lit (.bool false)], args := [d1, d2, d3] }
  | _ => none }
def ViewMeetsWrongFalsely : Prop := viewMeetsRow.holds Try.pinned (OpenSpec.ofChange viewMeetsWrong)

/-- 'droverlaw08.ViewTurns': WHATEVER THE INPUT: true; the input reads as it did. -/
def viewTurnsSpec : ChangeSpec := { name := "viewTurns", fn := fun _ => fun
  | [d1, d2, d3] => { results := [.lit (.bool true)], args := [d1, d2, d3] }
  | _ => none }
def viewTurnsRow : OpenClaim := { program := "ytnmkndnaomgmhaa", sum := "72ef62216b8f2e4d1e2df02c299df795afbf10569de231e39fc3295aa656d4b9", func := "drover/droverlaw08.ViewTurns", spec := "viewTurns", apart := false }
def ViewTurnsSaid : Prop := viewTurnsRow.holds Try.pinned (OpenSpec.ofChange viewTurnsSpec)

/-- ITS FALSE NEIGHBOUR: 'it returns false'. Refute it at one input. -/
def viewTurnsWrong : ChangeSpec := { name := "viewTurns", fn := fun _ => fun
  | [d1, d2, d3] => { results := [.lit (.bool false)], args := [d1, d2, d3] }
  | _ => none }
def ViewTurnsWrongFalsely : Prop := viewTurnsRow.holds Try.pinned (OpenSpec.ofChange viewTurnsWrong)

/-- 'droverlaw08.ViewNone': WHATEVER THE INPUT: true; the input reads as it did. -/
def viewNoneSpec : ChangeSpec := { name := "viewNone", fn := fun _ => fun
  | [d] => { results := [.lit (.bool true)], args := [d] }
  | _ => none }
def viewNoneRow : OpenClaim := { program := "ytnmkndnaomgmhaa", sum := "72ef62216b8f2e4d1e2df02c299df795afbf10569de231e39fc3295aa656d4b9", func := "drover/droverlaw08.ViewNone", spec := "viewNone", apart := false }
def ViewNoneSaid : Prop := viewNoneRow.holds Try.pinned (OpenSpec.ofChange viewNoneSpec)

/-- ITS FALSE NEIGHBOUR: 'it returns false'. Refute it at one input. -/
def viewNoneWrong : ChangeSpec := { name := "viewNone", fn := fun _ => fun
  | [d] => { results := [.lit (.bool false)], args := [d] }
  | _ => none }
def ViewNoneWrongFalsely : Prop := viewNoneRow.holds Try.pinned (OpenSpec.ofChange viewNoneWrong)

/- THE SECOND FORM. 'bulk': how many values and letters a reading holds, each counted each time it is reached (what is shared counts as often as it is met; a slice's spare places count too). A statement '..UptoSaid' is the law's where the arguments, and the package variables that the reading takes, are together of bulk at most 1048576: NARROWER than '..Said'. Prove '..Said' where nothing that the law and all that it calls make is longer than what came in: it says more and counts as full. Else prove '..UptoSaid'. A law counts once. -/
mutual
def uptoBulk {H : Type} : DataW H → Nat
  | .lit (.string bytes) => bytes.length + 1
  | .lit _ => 1
  | .nil => 1
  | .ptr d => uptoBulk d + 1
  | .slice elems spare => uptoBulkAll elems + uptoBulkAll spare + 1
  | .agg parts => uptoBulkAll parts + 1
  | .iface _ d => uptoBulk d + 1
  | .map entries => uptoBulkEntries entries + 1
  | .held _ => 1
def uptoBulkAll {H : Type} : List (DataW H) → Nat
  | [] => 0
  | d :: r => uptoBulk d + uptoBulkAll r
def uptoBulkEntries {H : Type} : List (Lit × DataW H) → Nat
  | [] => 0
  | x :: r => uptoBulkEntry x + uptoBulkEntries r
def uptoBulkEntry {H : Type} : Lit × DataW H → Nat
  | (.string bytes, d) => bytes.length + uptoBulk d + 1
  | (_, d) => uptoBulk d + 1
 end
def uptoSmall : (H : Type) → List (DataW H) → Bool := fun _ ds => decide (uptoBulkAll ds ≤ 1048576)
def OpenSpec.upto (s : _root_.Go.ChangeSpec) : _root_.Go.OpenSpec := { _root_.Go.OpenSpec.ofChange s with cond := some uptoSmall }

/-- 'droverlaw08.ViewLeads', WHERE WHAT IT READS IS OF BULK AT MOST 1048576: true; the input reads as it did. -/
def viewLeadsUptoRow : OpenClaim := { program := "ytnmkndnaomgmhaa", sum := "72ef62216b8f2e4d1e2df02c299df795afbf10569de231e39fc3295aa656d4b9", func := "drover/droverlaw08.ViewLeads", spec := "viewLeads", apart := false, narrowed := true }
def ViewLeadsUptoSaid : Prop := viewLeadsUptoRow.holds Try.pinned (OpenSpec.upto viewLeadsSpec)

/-- 'droverlaw08.ViewVotes', WHERE WHAT IT READS IS OF BULK AT MOST 1048576: true; the input reads as it did. -/
def viewVotesUptoRow : OpenClaim := { program := "ytnmkndnaomgmhaa", sum := "72ef62216b8f2e4d1e2df02c299df795afbf10569de231e39fc3295aa656d4b9", func := "drover/droverlaw08.ViewVotes", spec := "viewVotes", apart := false, narrowed := true }
def ViewVotesUptoSaid : Prop := viewVotesUptoRow.holds Try.pinned (OpenSpec.upto viewVotesSpec)

/-- 'droverlaw08.ViewChooses', WHERE WHAT IT READS IS OF BULK AT MOST 1048576: true; the input reads as it did. -/
def viewChoosesUptoRow : OpenClaim := { program := "ytnmkndnaomgmhaa", sum := "72ef62216b8f2e4d1e2df02c299df795afbf10569de231e39fc3295aa656d4b9", func := "drover/droverlaw08.ViewChooses", spec := "viewChooses", unfollowed := true, recurses := true, apart := false, narrowed := true }
def ViewChoosesUptoSaid : Prop := viewChoosesUptoRow.holds Try.pinned (OpenSpec.upto viewChoosesSpec)

/-- 'droverlaw08.ViewMeets', WHERE WHAT IT READS IS OF BULK AT MOST 1048576: true; the input reads as it did. -/
def viewMeetsUptoRow : OpenClaim := { program := "ytnmkndnaomgmhaa", sum := "72ef62216b8f2e4d1e2df02c299df795afbf10569de231e39fc3295aa656d4b9", func := "drover/droverlaw08.ViewMeets", spec := "viewMeets", apart := false, narrowed := true }
def ViewMeetsUptoSaid : Prop := viewMeetsUptoRow.holds Try.pinned (OpenSpec.upto viewMeetsSpec)

/-- 'droverlaw08.ViewTurns', WHERE WHAT IT READS IS OF BULK AT MOST 1048576: true; the input reads as it did. -/
def viewTurnsUptoRow : OpenClaim := { program := "ytnmkndnaomgmhaa", sum := "72ef62216b8f2e4d1e2df02c299df795afbf10569de231e39fc3295aa656d4b9", func := "drover/droverlaw08.ViewTurns", spec := "viewTurns", apart := false, narrowed := true }
def ViewTurnsUptoSaid : Prop := viewTurnsUptoRow.holds Try.pinned (OpenSpec.upto viewTurnsSpec)

/-- 'droverlaw08.ViewNone', WHERE WHAT IT READS IS OF BULK AT MOST 1048576: true; the input reads as it did. -/
def viewNoneUptoRow : OpenClaim := { program := "ytnmkndnaomgmhaa", sum := "72ef62216b8f2e4d1e2df02c299df795afbf10569de231e39fc3295aa656d4b9", func := "drover/droverlaw08.ViewNone", spec := "viewNone", apart := false, narrowed := true }
def ViewNoneUptoSaid : Prop := viewNoneUptoRow.holds Try.pinned (OpenSpec.upto viewNoneSpec)

end Rows
end Go.Proofs.Ytnmkndnaomgmhaa
