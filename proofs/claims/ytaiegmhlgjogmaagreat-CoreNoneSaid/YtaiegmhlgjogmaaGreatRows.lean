/-
  No cell of these rows narrows 'for every input' (looked for: loops, veiled, ifaces, maps, wideKeys, modest, calm, conditions, laid).
  DERIVED. THE GIVEN ROWS OF THIS SEAT. 8 by the template 'for every input the law returns true; each argument reads behind the call as it read before'; 0 by the template 'total and deterministic' (their statements: YtaiegmhlgjogmaaGreatTotals.lean).
  GIVEN WITH THE SEED: the statements are not yours to turn. If you find one false, say at which input.
  Laid BY PROGRAM, IN A SANDBOX (cutbox-rows.mjs): the forced cells as the released guide's own fill.sh prints them over the translation eb5c74e5579cbde0… (all of the seat's roots in one cut). By AI agents, Wed Nov 11 2026. No macro, syntax, notation, axiom, sorry.
-/
import Derived.Test.YtaiegmhlgjogmaaGreatChecked
import GoSem.Claim
import GoSem.ClaimJoined
import GoSem.ClaimMapViews
import Derived.JoinedTies
import Derived.KernelRfl
namespace Go.Proofs.YtaiegmhlgjogmaaGreat
/- THE CELL 'sum', in the pinned program and in every row, IS THE sha256 OF THE DUMP (.gsa) THAT YtaiegmhlgjogmaaGreatProg.lean LOADS. Nothing in Lean hashes anything: it is a label: what it is worth is what the hold of that sum in a sandbox is worth. -/
noncomputable def Tryz.pinned : Pinned := { name := "ytaiegmhlgjogmaagreat", sum := "eb5c74e5579cbde06da4a64a0482c41bcaff88bbead61f40636ffd7c254a4ac4", checked := Tryz.checked }
namespace Rows
def none {H : Type} : Left H := { results := [], args := [] }

/-- 'droverlaw11.CoreActs': WHATEVER THE INPUT: true; the input reads as it did. -/
def coreActsSpec : ChangeSpec := { name := "coreActs", fn := fun _ => fun
  | [d1, d2, d3] => { results := [.lit (.bool true)], args := [d1, d2, d3] }
  | _ => none }
def coreActsRow : OpenClaim := { program := "ytaiegmhlgjogmaagreat", sum := "eb5c74e5579cbde06da4a64a0482c41bcaff88bbead61f40636ffd7c254a4ac4", func := "drover/droverlaw11.CoreActs", spec := "coreActs", unfollowed := true, recurses := true, apart := false }
def CoreActsSaid : Prop := coreActsRow.holds Tryz.pinned (OpenSpec.ofChange coreActsSpec)

/-- ITS FALSE NEIGHBOUR: 'it returns false'. Refute it at one input. -/
def coreActsWrong : ChangeSpec := { name := "coreActs", fn := fun _ => fun
  | [d1, d2, d3] => { results := [.lit (.bool false)], args := [d1, d2, d3] }
  | _ => none }
def CoreActsWrongFalsely : Prop := coreActsRow.holds Tryz.pinned (OpenSpec.ofChange coreActsWrong)

/-- 'droverlaw11.CoreNets': WHATEVER THE INPUT: true; the input reads as it did. -/
def coreNetsSpec : ChangeSpec := { name := "coreNets", fn := fun _ => fun
  | [d1, d2] => { results := [.lit (.bool true)], args := [d1, d2] }
  | _ => none }
def coreNetsRow : OpenClaim := { program := "ytaiegmhlgjogmaagreat", sum := "eb5c74e5579cbde06da4a64a0482c41bcaff88bbead61f40636ffd7c254a4ac4", func := "drover/droverlaw11.CoreNets", spec := "coreNets", unfollowed := true, recurses := true, apart := false }
def CoreNetsSaid : Prop := coreNetsRow.holds Tryz.pinned (OpenSpec.ofChange coreNetsSpec)

/-- ITS FALSE NEIGHBOUR: 'it returns false'. Refute it at one input. -/
def coreNetsWrong : ChangeSpec := { name := "coreNets", fn := fun _ => fun
  | [d1, d2] => { results := [.lit (.bool false)], args := [d1, d2] }
  | _ => none }
def CoreNetsWrongFalsely : Prop := coreNetsRow.holds Tryz.pinned (OpenSpec.ofChange coreNetsWrong)

/-- 'droverlaw11.CoreAgree': WHATEVER THE INPUT: true; the input reads as it did. -/
def coreAgreeSpec : ChangeSpec := { name := "coreAgree", fn := fun _ => fun
  | [d1, d2] => { results := [.lit (.bool true)], args := [d1, d2] }
  | _ => none }
def coreAgreeRow : OpenClaim := { program := "ytaiegmhlgjogmaagreat", sum := "eb5c74e5579cbde06da4a64a0482c41bcaff88bbead61f40636ffd7c254a4ac4", func := "drover/droverlaw11.CoreAgree", spec := "coreAgree", unfollowed := true, recurses := true, apart := false }
def CoreAgreeSaid : Prop := coreAgreeRow.holds Tryz.pinned (OpenSpec.ofChange coreAgreeSpec)

/-- ITS FALSE NEIGHBOUR: 'it returns false'. Refute it at one input. -/
def coreAgreeWrong : ChangeSpec := { name := "coreAgree", fn := fun _ => fun
  | [d1, d2] => { results := [.lit (.bool false)], args := [d1, d2] }
  | _ => none }
def CoreAgreeWrongFalsely : Prop := coreAgreeRow.holds Tryz.pinned (OpenSpec.ofChange coreAgreeWrong)

/-- 'droverlaw11.CoreTakes': WHATEVER THE INPUT: true; the input reads as it did. -/
def coreTakesSpec : ChangeSpec := { name := "coreTakes", fn := fun _ => fun
  | [d1, d2] => { results := [.lit (.bool true)], args := [d1, d2] }
  | _ => none }
def coreTakesRow : OpenClaim := { program := "ytaiegmhlgjogmaagreat", sum := "eb5c74e5579cbde06da4a64a0482c41bcaff88bbead61f40636ffd7c254a4ac4", func := "drover/droverlaw11.CoreTakes", spec := "coreTakes", unfollowed := true, recurses := true, apart := false }
def CoreTakesSaid : Prop := coreTakesRow.holds Tryz.pinned (OpenSpec.ofChange coreTakesSpec)

/-- ITS FALSE NEIGHBOUR: 'it returns false'. Refute it at one input. -/
def coreTakesWrong : ChangeSpec := { name := "coreTakes", fn := fun _ => fun
  | [d1, d2] => { results := [.lit (.bool false)], args := [d1, d2] }
  | _ => none }
def CoreTakesWrongFalsely : Prop := coreTakesRow.holds Tryz.pinned (OpenSpec.ofChange coreTakesWrong)

/-- 'droverlaw11.CoreLives': WHATEVER THE INPUT: true; the input reads as it did. -/
def coreLivesSpec : ChangeSpec := { name := "coreLives", fn := fun _ => fun
  | [d1, d2, d3] => { results := [.lit (.bool true)], args := [d1, d2, d3] }
  | _ => none }
def coreLivesRow : OpenClaim := { program := "ytaiegmhlgjogmaagreat", sum := "eb5c74e5579cbde06da4a64a0482c41bcaff88bbead61f40636ffd7c254a4ac4", func := "drover/droverlaw11.CoreLives", spec := "coreLives", unfollowed := true, recurses := true, apart := false }
def CoreLivesSaid : Prop := coreLivesRow.holds Tryz.pinned (OpenSpec.ofChange coreLivesSpec)

/-- ITS FALSE NEIGHBOUR: 'it returns false'. Refute it at one input. -/
def coreLivesWrong : ChangeSpec := { name := "coreLives", fn := fun _ => fun
  | [d1, d2, d3] => { results := [.lit (.bool false)], args := [d1, d2, d3] }
  | _ => none }
def CoreLivesWrongFalsely : Prop := coreLivesRow.holds Tryz.pinned (OpenSpec.ofChange coreLivesWrong)

/-- 'droverlaw11.CoreNone': WHATEVER THE INPUT: true; the input reads as it did. -/
def coreNoneSpec : ChangeSpec := { name := "coreNone", fn := fun _ => fun
  | [d] => { results := [.lit (.bool true)], args := [d] }
  | _ => none }
def coreNoneRow : OpenClaim := { program := "ytaiegmhlgjogmaagreat", sum := "eb5c74e5579cbde06da4a64a0482c41bcaff88bbead61f40636ffd7c254a4ac4", func := "drover/droverlaw11.CoreNone", spec := "coreNone", unfollowed := true, recurses := true, apart := false }
def CoreNoneSaid : Prop := coreNoneRow.holds Tryz.pinned (OpenSpec.ofChange coreNoneSpec)

/-- ITS FALSE NEIGHBOUR: 'it returns false'. Refute it at one input. -/
def coreNoneWrong : ChangeSpec := { name := "coreNone", fn := fun _ => fun
  | [d] => { results := [.lit (.bool false)], args := [d] }
  | _ => none }
def CoreNoneWrongFalsely : Prop := coreNoneRow.holds Tryz.pinned (OpenSpec.ofChange coreNoneWrong)

/-- 'droverlaw11.CoreTwice': WHATEVER THE INPUT: true; the input reads as it did. -/
def coreTwiceSpec : ChangeSpec := { name := "coreTwice", fn := fun _ => fun
  | [d1, d2] => { results := [.lit (.bool true)], args := [d1, d2] }
  | _ => none }
def coreTwiceRow : OpenClaim := { program := "ytaiegmhlgjogmaagreat", sum := "eb5c74e5579cbde06da4a64a0482c41bcaff88bbead61f40636ffd7c254a4ac4", func := "drover/droverlaw11.CoreTwice", spec := "coreTwice", unfollowed := true, recurses := true, apart := false }
def CoreTwiceSaid : Prop := coreTwiceRow.holds Tryz.pinned (OpenSpec.ofChange coreTwiceSpec)

/-- ITS FALSE NEIGHBOUR: 'it returns false'. Refute it at one input. -/
def coreTwiceWrong : ChangeSpec := { name := "coreTwice", fn := fun _ => fun
  | [d1, d2] => { results := [.lit (.bool false)], args := [d1, d2] }
  | _ => none }
def CoreTwiceWrongFalsely : Prop := coreTwiceRow.holds Tryz.pinned (OpenSpec.ofChange coreTwiceWrong)

/-- 'droverlaw11.CoreAlone': WHATEVER THE INPUT: true; the input reads as it did. -/
def coreAloneSpec : ChangeSpec := { name := "coreAlone", fn := fun _ => fun
  | [d1, d2, d3] => { results := [.lit (.bool true)], args := [d1, d2, d3] }
  | _ => none }
def coreAloneRow : OpenClaim := { program := "ytaiegmhlgjogmaagreat", sum := "eb5c74e5579cbde06da4a64a0482c41bcaff88bbead61f40636ffd7c254a4ac4", func := "drover/droverlaw11.CoreAlone", spec := "coreAlone", unfollowed := true, recurses := true, apart := false }
def CoreAloneSaid : Prop := coreAloneRow.holds Tryz.pinned (OpenSpec.ofChange coreAloneSpec)

/-- ITS FALSE NEIGHBOUR: 'it returns false'. Refute it at one input. -/
def coreAloneWrong : ChangeSpec := { name := "coreAlone", fn := fun _ => fun
  | [d1, d2, d3] => { results := [.lit (.bool false)], args := [d1, d2, d3] }
  | _ => none }
def CoreAloneWrongFalsely : Prop := coreAloneRow.holds Tryz.pinned (OpenSpec.ofChange coreAloneWrong)

/- THE SECOND FORM. 'bulk': how many values and letters a reading holds, each counted each time it is reached (what is shared counts as often as it is met; a slice's spare places count too). A statement '..UptoSaid' is the law's where the arguments, and the package variables that the reading takes, are together of bulk at most 1048576: NARROWER than '..Said'. Prove '..Said' where nothing that the law and all that it calls make is longer than what came in: it says more and counts as full. Else prove '..UptoSaid'. A law counts once. -/
mutual
def uptoBulk {H : Type} : DataW H → Nat
  | .lit (.string bytes) => bytes.length + 1
  | .lit _ => 1
  | .nil => 1
  | .ptr d => uptoBulk d + 1
  | .slice elems spare => uptoBulkAll elems + uptoBulkAll spare + 1
  | .agg parts => uptoBulkAll parts + 1
  | .iface _ d => uptoBulk d + 1
  | .map entries => uptoBulkEntries entries + 1
  | .held _ => 1
def uptoBulkAll {H : Type} : List (DataW H) → Nat
  | [] => 0
  | d :: r => uptoBulk d + uptoBulkAll r
def uptoBulkEntries {H : Type} : List (Lit × DataW H) → Nat
  | [] => 0
  | x :: r => uptoBulkEntry x + uptoBulkEntries r
def uptoBulkEntry {H : Type} : Lit × DataW H → Nat
  | (.string bytes, d) => bytes.length + uptoBulk d + 1
  | (_, d) => uptoBulk d + 1
 end
def uptoSmall : (H : Type) → List (DataW H) → Bool := fun _ ds => decide (uptoBulkAll ds ≤ 1048576)
def OpenSpec.upto (s : _root_.Go.ChangeSpec) : _root_.Go.OpenSpec := { _root_.Go.OpenSpec.ofChange s with cond := some uptoSmall }

/-- 'droverlaw11.CoreActs', WHERE WHAT IT READS IS OF BULK AT MOST 1048576: true; the input reads as it did. -/
def coreActsUptoRow : OpenClaim := { program := "ytaiegmhlgjogmaagreat", sum := "eb5c74e5579cbde06da4a64a0482c41bcaff88bbead61f40636ffd7c254a4ac4", func := "drover/droverlaw11.CoreActs", spec := "coreActs", unfollowed := true, recurses := true, apart := false, narrowed := true }
def CoreActsUptoSaid : Prop := coreActsUptoRow.holds Tryz.pinned (OpenSpec.upto coreActsSpec)

/-- 'droverlaw11.CoreNets', WHERE WHAT IT READS IS OF BULK AT MOST 1048576: true; the input reads as it did. -/
def coreNetsUptoRow : OpenClaim := { program := "ytaiegmhlgjogmaagreat", sum := "eb5c74e5579cbde06da4a64a0482c41bcaff88bbead61f40636ffd7c254a4ac4", func := "drover/droverlaw11.CoreNets", spec := "coreNets", unfollowed := true, recurses := true, apart := false, narrowed := true }
def CoreNetsUptoSaid : Prop := coreNetsUptoRow.holds Tryz.pinned (OpenSpec.upto coreNetsSpec)

/-- 'droverlaw11.CoreAgree', WHERE WHAT IT READS IS OF BULK AT MOST 1048576: true; the input reads as it did. -/
def coreAgreeUptoRow : OpenClaim := { program := "ytaiegmhlgjogmaagreat", sum := "eb5c74e5579cbde06da4a64a0482c41bcaff88bbead61f40636ffd7c254a4ac4", func := "drover/droverlaw11.CoreAgree", spec := "coreAgree", unfollowed := true, recurses := true, apart := false, narrowed := true }
def CoreAgreeUptoSaid : Prop := coreAgreeUptoRow.holds Tryz.pinned (OpenSpec.upto coreAgreeSpec)

/-- 'droverlaw11.CoreTakes', WHERE WHAT IT READS IS OF BULK AT MOST 1048576: true; the input reads as it did. -/
def coreTakesUptoRow : OpenClaim := { program := "ytaiegmhlgjogmaagreat", sum := "eb5c74e5579cbde06da4a64a0482c41bcaff88bbead61f40636ffd7c254a4ac4", func := "drover/droverlaw11.CoreTakes", spec := "coreTakes", unfollowed := true, recurses := true, apart := false, narrowed := true }
def CoreTakesUptoSaid : Prop := coreTakesUptoRow.holds Tryz.pinned (OpenSpec.upto coreTakesSpec)

/-- 'droverlaw11.CoreLives', WHERE WHAT IT READS IS OF BULK AT MOST 1048576: true; the input reads as it did. -/
def coreLivesUptoRow : OpenClaim := { program := "ytaiegmhlgjogmaagreat", sum := "eb5c74e5579cbde06da4a64a0482c41bcaff88bbead61f40636ffd7c254a4ac4", func := "drover/droverlaw11.CoreLives", spec := "coreLives", unfollowed := true, recurses := true, apart := false, narrowed := true }
def CoreLivesUptoSaid : Prop := coreLivesUptoRow.holds Tryz.pinned (OpenSpec.upto coreLivesSpec)

/-- 'droverlaw11.CoreNone', WHERE WHAT IT READS IS OF BULK AT MOST 1048576: true; the input reads as it did. -/
def coreNoneUptoRow : OpenClaim := { program := "ytaiegmhlgjogmaagreat", sum := "eb5c74e5579cbde06da4a64a0482c41bcaff88bbead61f40636ffd7c254a4ac4", func := "drover/droverlaw11.CoreNone", spec := "coreNone", unfollowed := true, recurses := true, apart := false, narrowed := true }
def CoreNoneUptoSaid : Prop := coreNoneUptoRow.holds Tryz.pinned (OpenSpec.upto coreNoneSpec)

/-- 'droverlaw11.CoreTwice', WHERE WHAT IT READS IS OF BULK AT MOST 1048576: true; the input reads as it did. -/
def coreTwiceUptoRow : OpenClaim := { program := "ytaiegmhlgjogmaagreat", sum := "eb5c74e5579cbde06da4a64a0482c41bcaff88bbead61f40636ffd7c254a4ac4", func := "drover/droverlaw11.CoreTwice", spec := "coreTwice", unfollowed := true, recurses := true, apart := false, narrowed := true }
def CoreTwiceUptoSaid : Prop := coreTwiceUptoRow.holds Tryz.pinned (OpenSpec.upto coreTwiceSpec)

/-- 'droverlaw11.CoreAlone', WHERE WHAT IT READS IS OF BULK AT MOST 1048576: true; the input reads as it did. -/
def coreAloneUptoRow : OpenClaim := { program := "ytaiegmhlgjogmaagreat", sum := "eb5c74e5579cbde06da4a64a0482c41bcaff88bbead61f40636ffd7c254a4ac4", func := "drover/droverlaw11.CoreAlone", spec := "coreAlone", unfollowed := true, recurses := true, apart := false, narrowed := true }
def CoreAloneUptoSaid : Prop := coreAloneUptoRow.holds Tryz.pinned (OpenSpec.upto coreAloneSpec)

end Rows
end Go.Proofs.YtaiegmhlgjogmaaGreat
