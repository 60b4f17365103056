/-
  NARROWER THAN 'FOR EVERY INPUT', by the rows' own cells (each row's printed sentence says how): DefParses: laid · DefChecks: laid · DefBack: laid · DefSames: laid · DefBounds: laid · DefNames: laid.
  DERIVED. THE GIVEN ROWS OF THIS SEAT. 6 by the template 'for every input the law returns true; each argument reads behind the call as it read before'; 0 by the template 'total and deterministic' (their statements: YtdahnjcoflifbaaDoorTotals.lean).
  GIVEN WITH THE SEED: the statements are not yours to turn. If you find one false, say at which input.
  Laid BY PROGRAM, IN A SANDBOX (cutbox-rows.mjs): the forced cells as the released guide's own fill.sh prints them over the translation f033274d58ac1f05… (all of the seat's roots in one cut). By AI agents, Wed Nov 11 2026. No macro, syntax, notation, axiom, sorry.
-/
import Derived.Test.YtdahnjcoflifbaaDoorChecked
import GoSem.Claim
import GoSem.ClaimJoined
import GoSem.ClaimMapViews
import Derived.JoinedTies
import Derived.KernelRfl
namespace Go.Proofs.YtdahnjcoflifbaaDoor
/- THE CELL 'sum', in the pinned program and in every row, IS THE sha256 OF THE DUMP (.gsa) THAT YtdahnjcoflifbaaDoorProg.lean LOADS. Nothing in Lean hashes anything: it is a label: what it is worth is what the hold of that sum in a sandbox is worth. -/
noncomputable def Tryd.pinned : Pinned := { name := "ytdahnjcoflifbaadoor", sum := "f033274d58ac1f0527596f1237f5cf2d58b3a8ccb1f4a5ad20cea3896fef169b", checked := Tryd.checked }
namespace Rows
def none {H : Type} : Left H := { results := [], args := [] }

/- WHAT THE LISTED PACKAGE-LEVEL VARIABLES READ AS WHEN THE CALL BEGINS. Each datum BY PROGRAM (the guide's laid-datum.mjs) off the statement by which the dump's own 'gosem.cut.vars' lays the variable. In a bare row this is a premise. The card (YtdahnjcoflifbaaDoorCards.lean) ties it to the program's text. -/
def laid_drover_def_optional {H : Type} : DataW H := .agg [.lit (.string [114, 101, 116, 114, 121]), .lit (.string [119, 97, 105, 116]), .lit (.string [117, 110, 100, 111]), .lit (.string [112, 105, 118, 111, 116])]
def laid_math_bits_deBruijn32tab {H : Type} : DataW H := .agg [.lit (.int .u8 0), .lit (.int .u8 1), .lit (.int .u8 28), .lit (.int .u8 2), .lit (.int .u8 29), .lit (.int .u8 14), .lit (.int .u8 24), .lit (.int .u8 3), .lit (.int .u8 30), .lit (.int .u8 22), .lit (.int .u8 20), .lit (.int .u8 15), .lit (.int .u8 25), .lit (.int .u8 17), .lit (.int .u8 4), .lit (.int .u8 8), .lit (.int .u8 31), .lit (.int .u8 27), .lit (.int .u8 13), .lit (.int .u8 23), .lit (.int .u8 21), .lit (.int .u8 19), .lit (.int .u8 16), .lit (.int .u8 7), .lit (.int .u8 26), .lit (.int .u8 12), .lit (.int .u8 18), .lit (.int .u8 6), .lit (.int .u8 11), .lit (.int .u8 5), .lit (.int .u8 10), .lit (.int .u8 9)]
def laid_math_bits_deBruijn64tab {H : Type} : DataW H := .agg [.lit (.int .u8 0), .lit (.int .u8 1), .lit (.int .u8 56), .lit (.int .u8 2), .lit (.int .u8 57), .lit (.int .u8 49), .lit (.int .u8 28), .lit (.int .u8 3), .lit (.int .u8 61), .lit (.int .u8 58), .lit (.int .u8 42), .lit (.int .u8 50), .lit (.int .u8 38), .lit (.int .u8 29), .lit (.int .u8 17), .lit (.int .u8 4), .lit (.int .u8 62), .lit (.int .u8 47), .lit (.int .u8 59), .lit (.int .u8 36), .lit (.int .u8 45), .lit (.int .u8 43), .lit (.int .u8 51), .lit (.int .u8 22), .lit (.int .u8 53), .lit (.int .u8 39), .lit (.int .u8 33), .lit (.int .u8 30), .lit (.int .u8 24), .lit (.int .u8 18), .lit (.int .u8 12), .lit (.int .u8 5), .lit (.int .u8 63), .lit (.int .u8 55), .lit (.int .u8 48), .lit (.int .u8 27), .lit (.int .u8 60), .lit (.int .u8 41), .lit (.int .u8 37), .lit (.int .u8 16), .lit (.int .u8 46), .lit (.int .u8 35), .lit (.int .u8 44), .lit (.int .u8 21), .lit (.int .u8 52), .lit (.int .u8 32), .lit (.int .u8 23), .lit (.int .u8 11), .lit (.int .u8 54), .lit (.int .u8 26), .lit (.int .u8 40), .lit (.int .u8 15), .lit (.int .u8 34), .lit (.int .u8 20), .lit (.int .u8 31), .lit (.int .u8 10), .lit (.int .u8 25), .lit (.int .u8 14), .lit (.int .u8 19), .lit (.int .u8 9), .lit (.int .u8 13), .lit (.int .u8 8), .lit (.int .u8 7), .lit (.int .u8 6)]
def laid_internal_strconv_uint64pow10 {H : Type} : DataW H := .agg [.lit (.int .u64 1), .lit (.int .u64 10), .lit (.int .u64 100), .lit (.int .u64 1000), .lit (.int .u64 10000), .lit (.int .u64 100000), .lit (.int .u64 1000000), .lit (.int .u64 10000000), .lit (.int .u64 100000000), .lit (.int .u64 1000000000), .lit (.int .u64 10000000000), .lit (.int .u64 100000000000), .lit (.int .u64 1000000000000), .lit (.int .u64 10000000000000), .lit (.int .u64 100000000000000), .lit (.int .u64 1000000000000000), .lit (.int .u64 10000000000000000), .lit (.int .u64 100000000000000000), .lit (.int .u64 1000000000000000000), .lit (.int .u64 10000000000000000000)]

/-- 'droverlaw13.DefParses': WHATEVER THE INPUT: true; the input reads as it did. -/
def defParsesSpec : ChangeSpec := { name := "defParses", fn := fun _ => fun
  | [d] => { results := [.lit (.bool true)], args := [d] }
  | _ => none }
def defParsesRow : OpenClaim := { program := "ytdahnjcoflifbaadoor", sum := "f033274d58ac1f0527596f1237f5cf2d58b3a8ccb1f4a5ad20cea3896fef169b", func := "drover/droverlaw13.DefParses", spec := "defParses", inPlace := ["internal/bytealg.IndexByteString", "internal/bytealg.IndexString"], unfollowed := true, recurses := true, named := ["drover/def.optional", "internal/bytealg.MaxLen"], apart := false, laid := [("drover/def.optional", laid_drover_def_optional)] }
def DefParsesSaid : Prop := defParsesRow.holds Tryd.pinned (OpenSpec.ofChange defParsesSpec)

/-- ITS FALSE NEIGHBOUR: 'it returns false'. Refute it at one input. -/
def defParsesWrong : ChangeSpec := { name := "defParses", fn := fun _ => fun
  | [d] => { results := [.lit (.bool false)], args := [d] }
  | _ => none }
def DefParsesWrongFalsely : Prop := defParsesRow.holds Tryd.pinned (OpenSpec.ofChange defParsesWrong)

/-- 'droverlaw13.DefChecks': WHATEVER THE INPUT: true; the input reads as it did. -/
def defChecksSpec : ChangeSpec := { name := "defChecks", fn := fun _ => fun
  | [d] => { results := [.lit (.bool true)], args := [d] }
  | _ => none }
def defChecksRow : OpenClaim := { program := "ytdahnjcoflifbaadoor", sum := "f033274d58ac1f0527596f1237f5cf2d58b3a8ccb1f4a5ad20cea3896fef169b", func := "drover/droverlaw13.DefChecks", spec := "defChecks", inPlace := ["internal/bytealg.IndexByteString", "internal/bytealg.IndexString", "internal/abi.NoEscape"], unfollowed := true, recurses := true, named := ["drover/def.optional", "internal/strconv.uint64pow10", "math/bits.deBruijn32tab", "math/bits.deBruijn64tab", "internal/bytealg.MaxLen"], apart := false, laid := [("math/bits.deBruijn32tab", laid_math_bits_deBruijn32tab), ("math/bits.deBruijn64tab", laid_math_bits_deBruijn64tab), ("internal/strconv.uint64pow10", laid_internal_strconv_uint64pow10), ("drover/def.optional", laid_drover_def_optional)] }
def DefChecksSaid : Prop := defChecksRow.holds Tryd.pinned (OpenSpec.ofChange defChecksSpec)

/-- ITS FALSE NEIGHBOUR: 'it returns false'. Refute it at one input. -/
def defChecksWrong : ChangeSpec := { name := "defChecks", fn := fun _ => fun
  | [d] => { results := [.lit (.bool false)], args := [d] }
  | _ => none }
def DefChecksWrongFalsely : Prop := defChecksRow.holds Tryd.pinned (OpenSpec.ofChange defChecksWrong)

/-- 'droverlaw13.DefBack': WHATEVER THE INPUT: true; the input reads as it did. -/
def defBackSpec : ChangeSpec := { name := "defBack", fn := fun _ => fun
  | [d1, d2] => { results := [.lit (.bool true)], args := [d1, d2] }
  | _ => none }
def defBackRow : OpenClaim := { program := "ytdahnjcoflifbaadoor", sum := "f033274d58ac1f0527596f1237f5cf2d58b3a8ccb1f4a5ad20cea3896fef169b", func := "drover/droverlaw13.DefBack", spec := "defBack", inPlace := ["internal/bytealg.IndexByteString", "internal/bytealg.IndexString", "internal/abi.NoEscape"], unfollowed := true, recurses := true, named := ["drover/def.optional", "internal/strconv.uint64pow10", "math/bits.deBruijn32tab", "math/bits.deBruijn64tab", "internal/bytealg.MaxLen"], apart := false, laid := [("math/bits.deBruijn32tab", laid_math_bits_deBruijn32tab), ("math/bits.deBruijn64tab", laid_math_bits_deBruijn64tab), ("internal/strconv.uint64pow10", laid_internal_strconv_uint64pow10), ("drover/def.optional", laid_drover_def_optional)] }
def DefBackSaid : Prop := defBackRow.holds Tryd.pinned (OpenSpec.ofChange defBackSpec)

/-- ITS FALSE NEIGHBOUR: 'it returns false'. Refute it at one input. -/
def defBackWrong : ChangeSpec := { name := "defBack", fn := fun _ => fun
  | [d1, d2] => { results := [.lit (.bool false)], args := [d1, d2] }
  | _ => none }
def DefBackWrongFalsely : Prop := defBackRow.holds Tryd.pinned (OpenSpec.ofChange defBackWrong)

/-- 'droverlaw13.DefSames': WHATEVER THE INPUT: true; the input reads as it did. -/
def defSamesSpec : ChangeSpec := { name := "defSames", fn := fun _ => fun
  | [d1, d2] => { results := [.lit (.bool true)], args := [d1, d2] }
  | _ => none }
def defSamesRow : OpenClaim := { program := "ytdahnjcoflifbaadoor", sum := "f033274d58ac1f0527596f1237f5cf2d58b3a8ccb1f4a5ad20cea3896fef169b", func := "drover/droverlaw13.DefSames", spec := "defSames", inPlace := ["internal/bytealg.IndexByteString", "internal/bytealg.IndexString"], unfollowed := true, recurses := true, named := ["drover/def.optional", "internal/bytealg.MaxLen"], apart := false, laid := [("drover/def.optional", laid_drover_def_optional)] }
def DefSamesSaid : Prop := defSamesRow.holds Tryd.pinned (OpenSpec.ofChange defSamesSpec)

/-- ITS FALSE NEIGHBOUR: 'it returns false'. Refute it at one input. -/
def defSamesWrong : ChangeSpec := { name := "defSames", fn := fun _ => fun
  | [d1, d2] => { results := [.lit (.bool false)], args := [d1, d2] }
  | _ => none }
def DefSamesWrongFalsely : Prop := defSamesRow.holds Tryd.pinned (OpenSpec.ofChange defSamesWrong)

/-- 'droverlaw13.DefBounds': WHATEVER THE INPUT: true; the input reads as it did. -/
def defBoundsSpec : ChangeSpec := { name := "defBounds", fn := fun _ => fun
  | [d1, d2] => { results := [.lit (.bool true)], args := [d1, d2] }
  | _ => none }
def defBoundsRow : OpenClaim := { program := "ytdahnjcoflifbaadoor", sum := "f033274d58ac1f0527596f1237f5cf2d58b3a8ccb1f4a5ad20cea3896fef169b", func := "drover/droverlaw13.DefBounds", spec := "defBounds", inPlace := ["internal/bytealg.IndexByteString", "internal/bytealg.IndexString"], unfollowed := true, recurses := true, named := ["drover/def.optional", "internal/bytealg.MaxLen"], apart := false, laid := [("drover/def.optional", laid_drover_def_optional)] }
def DefBoundsSaid : Prop := defBoundsRow.holds Tryd.pinned (OpenSpec.ofChange defBoundsSpec)

/-- ITS FALSE NEIGHBOUR: 'it returns false'. Refute it at one input. -/
def defBoundsWrong : ChangeSpec := { name := "defBounds", fn := fun _ => fun
  | [d1, d2] => { results := [.lit (.bool false)], args := [d1, d2] }
  | _ => none }
def DefBoundsWrongFalsely : Prop := defBoundsRow.holds Tryd.pinned (OpenSpec.ofChange defBoundsWrong)

/-- 'droverlaw13.DefNames': WHATEVER THE INPUT: true; the input reads as it did. -/
def defNamesSpec : ChangeSpec := { name := "defNames", fn := fun _ => fun
  | [d1, d2, d3] => { results := [.lit (.bool true)], args := [d1, d2, d3] }
  | _ => none }
def defNamesRow : OpenClaim := { program := "ytdahnjcoflifbaadoor", sum := "f033274d58ac1f0527596f1237f5cf2d58b3a8ccb1f4a5ad20cea3896fef169b", func := "drover/droverlaw13.DefNames", spec := "defNames", inPlace := ["internal/bytealg.IndexByteString", "internal/bytealg.IndexString"], unfollowed := true, recurses := true, named := ["drover/def.optional", "internal/bytealg.MaxLen"], apart := false, laid := [("drover/def.optional", laid_drover_def_optional)] }
def DefNamesSaid : Prop := defNamesRow.holds Tryd.pinned (OpenSpec.ofChange defNamesSpec)

/-- ITS FALSE NEIGHBOUR: 'it returns false'. Refute it at one input. -/
def defNamesWrong : ChangeSpec := { name := "defNames", fn := fun _ => fun
  | [d1, d2, d3] => { results := [.lit (.bool false)], args := [d1, d2, d3] }
  | _ => none }
def DefNamesWrongFalsely : Prop := defNamesRow.holds Tryd.pinned (OpenSpec.ofChange defNamesWrong)

/- THE SECOND FORM. 'bulk': how many values and letters a reading holds, each counted each time it is reached (what is shared counts as often as it is met; a slice's spare places count too). A statement '..UptoSaid' is the law's where the arguments, and the package variables that the reading takes, are together of bulk at most 1048576: NARROWER than '..Said'. Prove '..Said' where nothing that the law and all that it calls make is longer than what came in: it says more and counts as full. Else prove '..UptoSaid'. A law counts once. -/
mutual
def uptoBulk {H : Type} : DataW H → Nat
  | .lit (.string bytes) => bytes.length + 1
  | .lit _ => 1
  | .nil => 1
  | .ptr d => uptoBulk d + 1
  | .slice elems spare => uptoBulkAll elems + uptoBulkAll spare + 1
  | .agg parts => uptoBulkAll parts + 1
  | .iface _ d => uptoBulk d + 1
  | .map entries => uptoBulkEntries entries + 1
  | .held _ => 1
def uptoBulkAll {H : Type} : List (DataW H) → Nat
  | [] => 0
  | d :: r => uptoBulk d + uptoBulkAll r
def uptoBulkEntries {H : Type} : List (Lit × DataW H) → Nat
  | [] => 0
  | x :: r => uptoBulkEntry x + uptoBulkEntries r
def uptoBulkEntry {H : Type} : Lit × DataW H → Nat
  | (.string bytes, d) => bytes.length + uptoBulk d + 1
  | (_, d) => uptoBulk d + 1
 end
def uptoSmall : (H : Type) → List (DataW H) → Bool := fun _ ds => decide (uptoBulkAll ds ≤ 1048576)
def OpenSpec.upto (s : _root_.Go.ChangeSpec) : _root_.Go.OpenSpec := { _root_.Go.OpenSpec.ofChange s with cond := some uptoSmall }

/-- 'droverlaw13.DefParses', WHERE WHAT IT READS IS OF BULK AT MOST 1048576: true; the input reads as it did. -/
def defParsesUptoRow : OpenClaim := { program := "ytdahnjcoflifbaadoor", sum := "f033274d58ac1f0527596f1237f5cf2d58b3a8ccb1f4a5ad20cea3896fef169b", func := "drover/droverlaw13.DefParses", spec := "defParses", inPlace := ["internal/bytealg.IndexByteString", "internal/bytealg.IndexString"], unfollowed := true, recurses := true, named := ["drover/def.optional", "internal/bytealg.MaxLen"], apart := false, laid := [("drover/def.optional", laid_drover_def_optional)], narrowed := true }
def DefParsesUptoSaid : Prop := defParsesUptoRow.holds Tryd.pinned (OpenSpec.upto defParsesSpec)

/-- 'droverlaw13.DefChecks', WHERE WHAT IT READS IS OF BULK AT MOST 1048576: true; the input reads as it did. -/
def defChecksUptoRow : OpenClaim := { program := "ytdahnjcoflifbaadoor", sum := "f033274d58ac1f0527596f1237f5cf2d58b3a8ccb1f4a5ad20cea3896fef169b", func := "drover/droverlaw13.DefChecks", spec := "defChecks", inPlace := ["internal/bytealg.IndexByteString", "internal/bytealg.IndexString", "internal/abi.NoEscape"], unfollowed := true, recurses := true, named := ["drover/def.optional", "internal/strconv.uint64pow10", "math/bits.deBruijn32tab", "math/bits.deBruijn64tab", "internal/bytealg.MaxLen"], apart := false, laid := [("math/bits.deBruijn32tab", laid_math_bits_deBruijn32tab), ("math/bits.deBruijn64tab", laid_math_bits_deBruijn64tab), ("internal/strconv.uint64pow10", laid_internal_strconv_uint64pow10), ("drover/def.optional", laid_drover_def_optional)], narrowed := true }
def DefChecksUptoSaid : Prop := defChecksUptoRow.holds Tryd.pinned (OpenSpec.upto defChecksSpec)

/-- 'droverlaw13.DefBack', WHERE WHAT IT READS IS OF BULK AT MOST 1048576: true; the input reads as it did. -/
def defBackUptoRow : OpenClaim := { program := "ytdahnjcoflifbaadoor", sum := "f033274d58ac1f0527596f1237f5cf2d58b3a8ccb1f4a5ad20cea3896fef169b", func := "drover/droverlaw13.DefBack", spec := "defBack", inPlace := ["internal/bytealg.IndexByteString", "internal/bytealg.IndexString", "internal/abi.NoEscape"], unfollowed := true, recurses := true, named := ["drover/def.optional", "internal/strconv.uint64pow10", "math/bits.deBruijn32tab", "math/bits.deBruijn64tab", "internal/bytealg.MaxLen"], apart := false, laid := [("math/bits.deBruijn32tab", laid_math_bits_deBruijn32tab), ("math/bits.deBruijn64tab", laid_math_bits_deBruijn64tab), ("internal/strconv.uint64pow10", laid_internal_strconv_uint64pow10), ("drover/def.optional", laid_drover_def_optional)], narrowed := true }
def DefBackUptoSaid : Prop := defBackUptoRow.holds Tryd.pinned (OpenSpec.upto defBackSpec)

/-- 'droverlaw13.DefSames', WHERE WHAT IT READS IS OF BULK AT MOST 1048576: true; the input reads as it did. -/
def defSamesUptoRow : OpenClaim := { program := "ytdahnjcoflifbaadoor", sum := "f033274d58ac1f0527596f1237f5cf2d58b3a8ccb1f4a5ad20cea3896fef169b", func := "drover/droverlaw13.DefSames", spec := "defSames", inPlace := ["internal/bytealg.IndexByteString", "internal/bytealg.IndexString"], unfollowed := true, recurses := true, named := ["drover/def.optional", "internal/bytealg.MaxLen"], apart := false, laid := [("drover/def.optional", laid_drover_def_optional)], narrowed := true }
def DefSamesUptoSaid : Prop := defSamesUptoRow.holds Tryd.pinned (OpenSpec.upto defSamesSpec)

/-- 'droverlaw13.DefBounds', WHERE WHAT IT READS IS OF BULK AT MOST 1048576: true; the input reads as it did. -/
def defBoundsUptoRow : OpenClaim := { program := "ytdahnjcoflifbaadoor", sum := "f033274d58ac1f0527596f1237f5cf2d58b3a8ccb1f4a5ad20cea3896fef169b", func := "drover/droverlaw13.DefBounds", spec := "defBounds", inPlace := ["internal/bytealg.IndexByteString", "internal/bytealg.IndexString"], unfollowed := true, recurses := true, named := ["drover/def.optional", "internal/bytealg.MaxLen"], apart := false, laid := [("drover/def.optional", laid_drover_def_optional)], narrowed := true }
def DefBoundsUptoSaid : Prop := defBoundsUptoRow.holds Tryd.pinned (OpenSpec.upto defBoundsSpec)

/-- 'droverlaw13.DefNames', WHERE WHAT IT READS IS OF BULK AT MOST 1048576: true; the input reads as it did. -/
def defNamesUptoRow : OpenClaim := { program := "ytdahnjcoflifbaadoor", sum := "f033274d58ac1f0527596f1237f5cf2d58b3a8ccb1f4a5ad20cea3896fef169b", func := "drover/droverlaw13.DefNames", spec := "defNames", inPlace := ["internal/bytealg.IndexByteString", "internal/bytealg.IndexString"], unfollowed := true, recurses := true, named := ["drover/def.optional", "internal/bytealg.MaxLen"], apart := false, laid := [("drover/def.optional", laid_drover_def_optional)], narrowed := true }
def DefNamesUptoSaid : Prop := defNamesUptoRow.holds Tryd.pinned (OpenSpec.upto defNamesSpec)

end Rows
end Go.Proofs.YtdahnjcoflifbaaDoor
