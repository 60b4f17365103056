/-
  No cell of these rows narrows 'for every input' (looked for: loops, veiled, ifaces, maps, wideKeys, modest, calm, conditions, laid).
  DERIVED. THE GIVEN ROWS OF THIS SEAT. 6 by the template 'for every input the law returns true; each argument reads behind the call as it read before'; 0 by the template 'total and deterministic' (their statements: YtaimnhlpdkpobaaTotals.lean).
  GIVEN WITH THE SEED: the statements are not yours to turn. If you find one false, say at which input.
  Laid BY PROGRAM, IN A SANDBOX (cutbox-rows.mjs): the forced cells as the released guide's own fill.sh prints them over the translation 5db06353900a9209… (all of the seat's roots in one cut). By AI agents, Wed Nov 11 2026. No macro, syntax, notation, axiom, sorry.
-/
import Derived.Test.YtaimnhlpdkpobaaChecked
import GoSem.Claim
import GoSem.ClaimJoined
import GoSem.ClaimMapViews
import Derived.JoinedTies
import Derived.KernelRfl
namespace Go.Proofs.Ytaimnhlpdkpobaa
/- THE CELL 'sum', in the pinned program and in every row, IS THE sha256 OF THE DUMP (.gsa) THAT YtaimnhlpdkpobaaProg.lean LOADS. Nothing in Lean hashes anything: it is a label: what it is worth is what the hold of that sum in a sandbox is worth. -/
noncomputable def Try.pinned : Pinned := { name := "ytaimnhlpdkpobaa", sum := "5db06353900a9209716934ceb2e0699b71e39245de6147038a5a899f6825f5b7", checked := Try.checked }
namespace Rows
def none {H : Type} : Left H := { results := [], args := [] }

/-- 'droverlaw04.BagActs': WHATEVER THE INPUT: true; the input reads as it did. -/
def bagActsSpec : ChangeSpec := { name := "bagActs", fn := fun _ => fun
  | [d1, d2] => { results := [.lit (.bool true)], args := [d1, d2] }
  | _ => none }
def bagActsRow : OpenClaim := { program := "ytaimnhlpdkpobaa", sum := "5db06353900a9209716934ceb2e0699b71e39245de6147038a5a899f6825f5b7", func := "drover/droverlaw04.BagActs", spec := "bagActs", unfollowed := true, recurses := true, apart := false }
def BagActsSaid : Prop := bagActsRow.holds Try.pinned (OpenSpec.ofChange bagActsSpec)

/-- ITS FALSE NEIGHBOUR: 'it returns false'. Refute it at one input. -/
def bagActsWrong : ChangeSpec := { name := "bagActs", fn := fun _ => fun
  | [d1, d2] => { results := [.lit (.bool false)], args := [d1, d2] }
  | _ => none }
def BagActsWrongFalsely : Prop := bagActsRow.holds Try.pinned (OpenSpec.ofChange bagActsWrong)

/-- 'droverlaw04.BagSames': WHATEVER THE INPUT: true; the input reads as it did. -/
def bagSamesSpec : ChangeSpec := { name := "bagSames", fn := fun _ => fun
  | [d1, d2] => { results := [.lit (.bool true)], args := [d1, d2] }
  | _ => none }
def bagSamesRow : OpenClaim := { program := "ytaimnhlpdkpobaa", sum := "5db06353900a9209716934ceb2e0699b71e39245de6147038a5a899f6825f5b7", func := "drover/droverlaw04.BagSames", spec := "bagSames", unfollowed := true, recurses := true, apart := false }
def BagSamesSaid : Prop := bagSamesRow.holds Try.pinned (OpenSpec.ofChange bagSamesSpec)

/-- ITS FALSE NEIGHBOUR: 'it returns false'. Refute it at one input. -/
def bagSamesWrong : ChangeSpec := { name := "bagSames", fn := fun _ => fun
  | [d1, d2] => { results := [.lit (.bool false)], args := [d1, d2] }
  | _ => none }
def BagSamesWrongFalsely : Prop := bagSamesRow.holds Try.pinned (OpenSpec.ofChange bagSamesWrong)

/-- 'droverlaw04.BagOwn': WHATEVER THE INPUT: true; the input reads as it did. -/
def bagOwnSpec : ChangeSpec := { name := "bagOwn", fn := fun _ => fun
  | [d] => { results := [.lit (.bool true)], args := [d] }
  | _ => none }
def bagOwnRow : OpenClaim := { program := "ytaimnhlpdkpobaa", sum := "5db06353900a9209716934ceb2e0699b71e39245de6147038a5a899f6825f5b7", func := "drover/droverlaw04.BagOwn", spec := "bagOwn", unfollowed := true, recurses := true, apart := false }
def BagOwnSaid : Prop := bagOwnRow.holds Try.pinned (OpenSpec.ofChange bagOwnSpec)

/-- ITS FALSE NEIGHBOUR: 'it returns false'. Refute it at one input. -/
def bagOwnWrong : ChangeSpec := { name := "bagOwn", fn := fun _ => fun
  | [d] => { results := [.lit (.bool false)], args := [d] }
  | _ => none }
def BagOwnWrongFalsely : Prop := bagOwnRow.holds Try.pinned (OpenSpec.ofChange bagOwnWrong)

/-- 'droverlaw04.BagOnce': WHATEVER THE INPUT: true; the input reads as it did. -/
def bagOnceSpec : ChangeSpec := { name := "bagOnce", fn := fun _ => fun
  | [d1, d2] => { results := [.lit (.bool true)], args := [d1, d2] }
  | _ => none }
def bagOnceRow : OpenClaim := { program := "ytaimnhlpdkpobaa", sum := "5db06353900a9209716934ceb2e0699b71e39245de6147038a5a899f6825f5b7", func := "drover/droverlaw04.BagOnce", spec := "bagOnce", unfollowed := true, recurses := true, apart := false }
def BagOnceSaid : Prop := bagOnceRow.holds Try.pinned (OpenSpec.ofChange bagOnceSpec)

/-- ITS FALSE NEIGHBOUR: 'it returns false'. Refute it at one input. -/
def bagOnceWrong : ChangeSpec := { name := "bagOnce", fn := fun _ => fun
  | [d1, d2] => { results := [.lit (.bool false)], args := [d1, d2] }
  | _ => none }
def BagOnceWrongFalsely : Prop := bagOnceRow.holds Try.pinned (OpenSpec.ofChange bagOnceWrong)

/-- 'droverlaw04.BagNone': WHATEVER THE INPUT: true; the input reads as it did. -/
def bagNoneSpec : ChangeSpec := { name := "bagNone", fn := fun _ => fun
  | [d] => { results := [.lit (.bool true)], args := [d] }
  | _ => none }
def bagNoneRow : OpenClaim := { program := "ytaimnhlpdkpobaa", sum := "5db06353900a9209716934ceb2e0699b71e39245de6147038a5a899f6825f5b7", func := "drover/droverlaw04.BagNone", spec := "bagNone", unfollowed := true, recurses := true, apart := false }
def BagNoneSaid : Prop := bagNoneRow.holds Try.pinned (OpenSpec.ofChange bagNoneSpec)

/-- ITS FALSE NEIGHBOUR: 'it returns false'. Refute it at one input. -/
def bagNoneWrong : ChangeSpec := { name := "bagNone", fn := fun _ => fun
  | [d] => { results := [.lit (.bool false)], args := [d] }
  | _ => none }
def BagNoneWrongFalsely : Prop := bagNoneRow.holds Try.pinned (OpenSpec.ofChange bagNoneWrong)

/-- 'droverlaw04.BagClears': WHATEVER THE INPUT: true; the input reads as it did. -/
def bagClearsSpec : ChangeSpec := { name := "bagClears", fn := fun _ => fun
  | [d1, d2] => { results := [.lit (.bool true)], args := [d1, d2] }
  | _ => none }
def bagClearsRow : OpenClaim := { program := "ytaimnhlpdkpobaa", sum := "5db06353900a9209716934ceb2e0699b71e39245de6147038a5a899f6825f5b7", func := "drover/droverlaw04.BagClears", spec := "bagClears", unfollowed := true, recurses := true, apart := false }
def BagClearsSaid : Prop := bagClearsRow.holds Try.pinned (OpenSpec.ofChange bagClearsSpec)

/-- ITS FALSE NEIGHBOUR: 'it returns false'. Refute it at one input. -/
def bagClearsWrong : ChangeSpec := { name := "bagClears", fn := fun _ => fun
  | [d1, d2] => { results := [.lit (.bool false)], args := [d1, d2] }
  | _ => none }
def BagClearsWrongFalsely : Prop := bagClearsRow.holds Try.pinned (OpenSpec.ofChange bagClearsWrong)

/- THE SECOND FORM. 'bulk': how many values and letters a reading holds, each counted each time it is reached (what is shared counts as often as it is met; a slice's spare places count too). A statement '..UptoSaid' is the law's where the arguments, and the package variables that the reading takes, are together of bulk at most 1048576: NARROWER than '..Said'. Prove '..Said' where nothing that the law and all that it calls make is longer than what came in: it says more and counts as full. Else prove '..UptoSaid'. A law counts once. -/
mutual
def uptoBulk {H : Type} : DataW H → Nat
  | .lit (.string bytes) => bytes.length + 1
  | .lit _ => 1
  | .nil => 1
  | .ptr d => uptoBulk d + 1
  | .slice elems spare => uptoBulkAll elems + uptoBulkAll spare + 1
  | .agg parts => uptoBulkAll parts + 1
  | .iface _ d => uptoBulk d + 1
  | .map entries => uptoBulkEntries entries + 1
  | .held _ => 1
def uptoBulkAll {H : Type} : List (DataW H) → Nat
  | [] => 0
  | d :: r => uptoBulk d + uptoBulkAll r
def uptoBulkEntries {H : Type} : List (Lit × DataW H) → Nat
  | [] => 0
  | x :: r => uptoBulkEntry x + uptoBulkEntries r
def uptoBulkEntry {H : Type} : Lit × DataW H → Nat
  | (.string bytes, d) => bytes.length + uptoBulk d + 1
  | (_, d) => uptoBulk d + 1
 end
def uptoSmall : (H : Type) → List (DataW H) → Bool := fun _ ds => decide (uptoBulkAll ds ≤ 1048576)
def OpenSpec.upto (s : _root_.Go.ChangeSpec) : _root_.Go.OpenSpec := { _root_.Go.OpenSpec.ofChange s with cond := some uptoSmall }

/-- 'droverlaw04.BagActs', WHERE WHAT IT READS IS OF BULK AT MOST 1048576: true; the input reads as it did. -/
def bagActsUptoRow : OpenClaim := { program := "ytaimnhlpdkpobaa", sum := "5db06353900a9209716934ceb2e0699b71e39245de6147038a5a899f6825f5b7", func := "drover/droverlaw04.BagActs", spec := "bagActs", unfollowed := true, recurses := true, apart := false, narrowed := true }
def BagActsUptoSaid : Prop := bagActsUptoRow.holds Try.pinned (OpenSpec.upto bagActsSpec)

/-- 'droverlaw04.BagSames', WHERE WHAT IT READS IS OF BULK AT MOST 1048576: true; the input reads as it did. -/
def bagSamesUptoRow : OpenClaim := { program := "ytaimnhlpdkpobaa", sum := "5db06353900a9209716934ceb2e0699b71e39245de6147038a5a899f6825f5b7", func := "drover/droverlaw04.BagSames", spec := "bagSames", unfollowed := true, recurses := true, apart := false, narrowed := true }
def BagSamesUptoSaid : Prop := bagSamesUptoRow.holds Try.pinned (OpenSpec.upto bagSamesSpec)

/-- 'droverlaw04.BagOwn', WHERE WHAT IT READS IS OF BULK AT MOST 1048576: true; the input reads as it did. -/
def bagOwnUptoRow : OpenClaim := { program := "ytaimnhlpdkpobaa", sum := "5db06353900a9209716934ceb2e0699b71e39245de6147038a5a899f6825f5b7", func := "drover/droverlaw04.BagOwn", spec := "bagOwn", unfollowed := true, recurses := true, apart := false, narrowed := true }
def BagOwnUptoSaid : Prop := bagOwnUptoRow.holds Try.pinned (OpenSpec.upto bagOwnSpec)

/-- 'droverlaw04.BagOnce', WHERE WHAT IT READS IS OF BULK AT MOST 1048576: true; the input reads as it did. -/
def bagOnceUptoRow : OpenClaim := { program := "ytaimnhlpdkpobaa", sum := "5db06353900a9209716934ceb2e0699b71e39245de6147038a5a899f6825f5b7", func := "drover/droverlaw04.BagOnce", spec := "bagOnce", unfollowed := true, recurses := true, apart := false, narrowed := true }
def BagOnceUptoSaid : Prop := bagOnceUptoRow.holds Try.pinned (OpenSpec.upto bagOnceSpec)

/-- 'droverlaw04.BagNone', WHERE WHAT IT READS IS OF BULK AT MOST 1048576: true; the input reads as it did. -/
def bagNoneUptoRow : OpenClaim := { program := "ytaimnhlpdkpobaa", sum := "5db06353900a9209716934ceb2e0699b71e39245de6147038a5a899f6825f5b7", func := "drover/droverlaw04.BagNone", spec := "bagNone", unfollowed := true, recurses := true, apart := false, narrowed := true }
def BagNoneUptoSaid : Prop := bagNoneUptoRow.holds Try.pinned (OpenSpec.upto bagNoneSpec)

/-- 'droverlaw04.BagClears', WHERE WHAT IT READS IS OF BULK AT MOST 1048576: true; the input reads as it did. -/
def bagClearsUptoRow : OpenClaim := { program := "ytaimnhlpdkpobaa", sum := "5db06353900a9209716934ceb2e0699b71e39245de6147038a5a899f6825f5b7", func := "drover/droverlaw04.BagClears", spec := "bagClears", unfollowed := true, recurses := true, apart := false, narrowed := true }
def BagClearsUptoSaid : Prop := bagClearsUptoRow.holds Try.pinned (OpenSpec.upto bagClearsSpec)

end Rows
end Go.Proofs.Ytaimnhlpdkpobaa
