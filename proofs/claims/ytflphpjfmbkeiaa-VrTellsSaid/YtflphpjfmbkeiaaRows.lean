/-
  No cell of these rows narrows 'for every input' (looked for: loops, veiled, ifaces, maps, wideKeys, modest, calm, conditions, laid).
  DERIVED. THE GIVEN ROWS OF THIS SEAT. 5 by the template 'for every input the law returns true; each argument reads behind the call as it read before'; 0 by the template 'total and deterministic' (their statements: YtflphpjfmbkeiaaTotals.lean).
  GIVEN WITH THE SEED: the statements are not yours to turn. If you find one false, say at which input.
  Laid BY PROGRAM, IN A SANDBOX (cutbox-rows.mjs): the forced cells as the released guide's own fill.sh prints them over the translation 4b8098af251b7502… (all of the seat's roots in one cut). By AI agents, Wed Nov 11 2026. No macro, syntax, notation, axiom, sorry.
-/
import Derived.Test.YtflphpjfmbkeiaaChecked
import GoSem.Claim
import GoSem.ClaimJoined
import GoSem.ClaimMapViews
import Derived.JoinedTies
import Derived.KernelRfl
namespace Go.Proofs.Ytflphpjfmbkeiaa
/- THE CELL 'sum', in the pinned program and in every row, IS THE sha256 OF THE DUMP (.gsa) THAT YtflphpjfmbkeiaaProg.lean LOADS. Nothing in Lean hashes anything: it is a label: what it is worth is what the hold of that sum in a sandbox is worth. -/
noncomputable def Try.pinned : Pinned := { name := "ytflphpjfmbkeiaa", sum := "4b8098af251b7502a52d4074f4348e5310f77e7ce0750aad5e8982cb8a87575a", checked := Try.checked }
namespace Rows
def none {H : Type} : Left H := { results := [], args := [] }

/-- 'droverlaw10.VrMerges': WHATEVER THE INPUT: true; the input reads as it did. -/
def vrMergesSpec : ChangeSpec := { name := "vrMerges", fn := fun _ => fun
  | [d1, d2, d3] => { results := [.lit (.bool true)], args := [d1, d2, d3] }
  | _ => none }
def vrMergesRow : OpenClaim := { program := "ytflphpjfmbkeiaa", sum := "4b8098af251b7502a52d4074f4348e5310f77e7ce0750aad5e8982cb8a87575a", func := "drover/droverlaw10.VrMerges", spec := "vrMerges", unfollowed := true, recurses := true, apart := false }
def VrMergesSaid : Prop := vrMergesRow.holds Try.pinned (OpenSpec.ofChange vrMergesSpec)

/-- ITS FALSE NEIGHBOUR: 'it returns false'. Refute it at one input. -/
def vrMergesWrong : ChangeSpec := { name := "vrMerges", fn := fun _ => fun
  | [d1, d2, d3] => { results := [.lit (.bool false)], args := [d1, d2, d3] }
  | _ => none }
def VrMergesWrongFalsely : Prop := vrMergesRow.holds Try.pinned (OpenSpec.ofChange vrMergesWrong)

/-- 'droverlaw10.VrQuorum': WHATEVER THE INPUT: true; the input reads as it did. -/
def vrQuorumSpec : ChangeSpec := { name := "vrQuorum", fn := fun _ => fun
  | [d1, d2] => { results := [.lit (.bool true)], args := [d1, d2] }
  | _ => none }
def vrQuorumRow : OpenClaim := { program := "ytflphpjfmbkeiaa", sum := "4b8098af251b7502a52d4074f4348e5310f77e7ce0750aad5e8982cb8a87575a", func := "drover/droverlaw10.VrQuorum", spec := "vrQuorum", unfollowed := true, recurses := true, apart := false }
def VrQuorumSaid : Prop := vrQuorumRow.holds Try.pinned (OpenSpec.ofChange vrQuorumSpec)

/-- ITS FALSE NEIGHBOUR: 'it returns false'. Refute it at one input. -/
def vrQuorumWrong : ChangeSpec := { name := "vrQuorum", fn := fun _ => fun
  | [d1, d2] => { results := [.lit (.bool false)], args := [d1, d2] }
  | _ => none }
def VrQuorumWrongFalsely : Prop := vrQuorumRow.holds Try.pinned (OpenSpec.ofChange vrQuorumWrong)

/-- 'droverlaw10.VrMeets': WHATEVER THE INPUT: true; the input reads as it did. -/
def vrMeetsSpec : ChangeSpec := { name := "vrMeets", fn := fun _ => fun
  | [d1, d2, d3] => { results := [.lit (.bool true)], args := [d1, d2, d3] }
  | _ => none }
def vrMeetsRow : OpenClaim := { program := "ytflphpjfmbkeiaa", sum := "4b8098af251b7502a52d4074f4348e5310f77e7ce0750aad5e8982cb8a87575a", func := "drover/droverlaw10.VrMeets", spec := "vrMeets", unfollowed := true, recurses := true, apart := false }
def VrMeetsSaid : Prop := vrMeetsRow.holds Try.pinned (OpenSpec.ofChange vrMeetsSpec)

/-- ITS FALSE NEIGHBOUR: 'it returns false'. Refute it at one input. -/
def vrMeetsWrong : ChangeSpec := { name := "vrMeets", fn := fun _ => fun
  | [d1, d2, d3] => { results := [.lit (.bool false)], args := [d1, d2, d3] }
  | _ => none }
def VrMeetsWrongFalsely : Prop := vrMeetsRow.holds Try.pinned (OpenSpec.ofChange vrMeetsWrong)

/-- 'droverlaw10.VrTells': WHATEVER THE INPUT: true; the input reads as it did. -/
def vrTellsSpec : ChangeSpec := { name := "vrTells", fn := fun _ => fun
  | [d1, d2, d3] => { results := [.lit (.bool true)], args := [d1, d2, d3] }
  | _ => none }
def vrTellsRow : OpenClaim := { program := "ytflphpjfmbkeiaa", sum := "4b8098af251b7502a52d4074f4348e5310f77e7ce0750aad5e8982cb8a87575a", func := "drover/droverlaw10.VrTells", spec := "vrTells", unfollowed := true, recurses := true, apart := false }
def VrTellsSaid : Prop := vrTellsRow.holds Try.pinned (OpenSpec.ofChange vrTellsSpec)

/-- ITS FALSE NEIGHBOUR: 'it returns false'. Refute it at one input. -/
def vrTellsWrong : ChangeSpec := { name := "vrTells", fn := fun _ => fun
  | [d1, d2, d3] => { results := [.lit (.bool false)], args := [d1, d2, d3] }
  | _ => none }
def VrTellsWrongFalsely : Prop := vrTellsRow.holds Try.pinned (OpenSpec.ofChange vrTellsWrong)

/-- 'droverlaw10.VrOne': WHATEVER THE INPUT: true; the input reads as it did. -/
def vrOneSpec : ChangeSpec := { name := "vrOne", fn := fun _ => fun
  | [d1, d2, d3] => { results := [.lit (.bool true)], args := [d1, d2, d3] }
  | _ => none }
def vrOneRow : OpenClaim := { program := "ytflphpjfmbkeiaa", sum := "4b8098af251b7502a52d4074f4348e5310f77e7ce0750aad5e8982cb8a87575a", func := "drover/droverlaw10.VrOne", spec := "vrOne", unfollowed := true, recurses := true, apart := false }
def VrOneSaid : Prop := vrOneRow.holds Try.pinned (OpenSpec.ofChange vrOneSpec)

/-- ITS FALSE NEIGHBOUR: 'it returns false'. Refute it at one input. -/
def vrOneWrong : ChangeSpec := { name := "vrOne", fn := fun _ => fun
  | [d1, d2, d3] => { results := [.lit (.bool false)], args := [d1, d2, d3] }
  | _ => none }
def VrOneWrongFalsely : Prop := vrOneRow.holds Try.pinned (OpenSpec.ofChange vrOneWrong)

/- THE SECOND FORM. 'bulk': how many values and letters a reading holds, each counted each time it is reached (what is shared counts as often as it is met; a slice's spare places count too). A statement '..UptoSaid' is the law's where the arguments, and the package variables that the reading takes, are together of bulk at most 1048576: NARROWER than '..Said'. Prove '..Said' where nothing that the law and all that it calls make is longer than what came in: it says more and counts as full. Else prove '..UptoSaid'. A law counts once. -/
mutual
def uptoBulk {H : Type} : DataW H → Nat
  | .lit (.string bytes) => bytes.length + 1
  | .lit _ => 1
  | .nil => 1
  | .ptr d => uptoBulk d + 1
  | .slice elems spare => uptoBulkAll elems + uptoBulkAll spare + 1
  | .agg parts => uptoBulkAll parts + 1
  | .iface _ d => uptoBulk d + 1
  | .map entries => uptoBulkEntries entries + 1
  | .held _ => 1
def uptoBulkAll {H : Type} : List (DataW H) → Nat
  | [] => 0
  | d :: r => uptoBulk d + uptoBulkAll r
def uptoBulkEntries {H : Type} : List (Lit × DataW H) → Nat
  | [] => 0
  | x :: r => uptoBulkEntry x + uptoBulkEntries r
def uptoBulkEntry {H : Type} : Lit × DataW H → Nat
  | (.string bytes, d) => bytes.length + uptoBulk d + 1
  | (_, d) => uptoBulk d + 1
 end
def uptoSmall : (H : Type) → List (DataW H) → Bool := fun _ ds => decide (uptoBulkAll ds ≤ 1048576)
def OpenSpec.upto (s : _root_.Go.ChangeSpec) : _root_.Go.OpenSpec := { _root_.Go.OpenSpec.ofChange s with cond := some uptoSmall }

/-- 'droverlaw10.VrMerges', WHERE WHAT IT READS IS OF BULK AT MOST 1048576: true; the input reads as it did. -/
def vrMergesUptoRow : OpenClaim := { program := "ytflphpjfmbkeiaa", sum := "4b8098af251b7502a52d4074f4348e5310f77e7ce0750aad5e8982cb8a87575a", func := "drover/droverlaw10.VrMerges", spec := "vrMerges", unfollowed := true, recurses := true, apart := false, narrowed := true }
def VrMergesUptoSaid : Prop := vrMergesUptoRow.holds Try.pinned (OpenSpec.upto vrMergesSpec)

/-- 'droverlaw10.VrQuorum', WHERE WHAT IT READS IS OF BULK AT MOST 1048576: true; the input reads as it did. -/
def vrQuorumUptoRow : OpenClaim := { program := "ytflphpjfmbkeiaa", sum := "4b8098af251b7502a52d4074f4348e5310f77e7ce0750aad5e8982cb8a87575a", func := "drover/droverlaw10.VrQuorum", spec := "vrQuorum", unfollowed := true, recurses := true, apart := false, narrowed := true }
def VrQuorumUptoSaid : Prop := vrQuorumUptoRow.holds Try.pinned (OpenSpec.upto vrQuorumSpec)

/-- 'droverlaw10.VrMeets', WHERE WHAT IT READS IS OF BULK AT MOST 1048576: true; the input reads as it did. -/
def vrMeetsUptoRow : OpenClaim := { program := "ytflphpjfmbkeiaa", sum := "4b8098af251b7502a52d4074f4348e5310f77e7ce0750aad5e8982cb8a87575a", func := "drover/droverlaw10.VrMeets", spec := "vrMeets", unfollowed := true, recurses := true, apart := false, narrowed := true }
def VrMeetsUptoSaid : Prop := vrMeetsUptoRow.holds Try.pinned (OpenSpec.upto vrMeetsSpec)

/-- 'droverlaw10.VrTells', WHERE WHAT IT READS IS OF BULK AT MOST 1048576: true; the input reads as it did. -/
def vrTellsUptoRow : OpenClaim := { program := "ytflphpjfmbkeiaa", sum := "4b8098af251b7502a52d4074f4348e5310f77e7ce0750aad5e8982cb8a87575a", func := "drover/droverlaw10.VrTells", spec := "vrTells", unfollowed := true, recurses := true, apart := false, narrowed := true }
def VrTellsUptoSaid : Prop := vrTellsUptoRow.holds Try.pinned (OpenSpec.upto vrTellsSpec)

/-- 'droverlaw10.VrOne', WHERE WHAT IT READS IS OF BULK AT MOST 1048576: true; the input reads as it did. -/
def vrOneUptoRow : OpenClaim := { program := "ytflphpjfmbkeiaa", sum := "4b8098af251b7502a52d4074f4348e5310f77e7ce0750aad5e8982cb8a87575a", func := "drover/droverlaw10.VrOne", spec := "vrOne", unfollowed := true, recurses := true, apart := false, narrowed := true }
def VrOneUptoSaid : Prop := vrOneUptoRow.holds Try.pinned (OpenSpec.upto vrOneSpec)

end Rows
end Go.Proofs.Ytflphpjfmbkeiaa
