/-
  No cell of these rows narrows 'for every input' (looked for: loops, veiled, ifaces, maps, wideKeys, modest, calm, conditions, laid).
  DERIVED. THE GIVEN ROWS OF THIS SEAT. 5 by the template 'for every input the law returns true; each argument reads behind the call as it read before'; 0 by the template 'total and deterministic' (their statements: YtdkiopajilakcaaGreatTotals.lean).
  GIVEN WITH THE SEED: the statements are not yours to turn. If you find one false, say at which input.
  Laid BY PROGRAM, IN A SANDBOX (cutbox-rows.mjs): the forced cells as the released guide's own fill.sh prints them over the translation 0571d539f35d1e0c… (all of the seat's roots in one cut). By AI agents, Wed Nov 11 2026. No macro, syntax, notation, axiom, sorry.
-/
import Derived.Test.YtdkiopajilakcaaGreatChecked
import GoSem.Claim
import GoSem.ClaimJoined
import GoSem.ClaimMapViews
import Derived.JoinedTies
import Derived.KernelRfl
namespace Go.Proofs.YtdkiopajilakcaaGreat
/- THE CELL 'sum', in the pinned program and in every row, IS THE sha256 OF THE DUMP (.gsa) THAT YtdkiopajilakcaaGreatProg.lean LOADS. Nothing in Lean hashes anything: it is a label: what it is worth is what the hold of that sum in a sandbox is worth. -/
noncomputable def Tryz.pinned : Pinned := { name := "ytdkiopajilakcaagreat", sum := "0571d539f35d1e0c964e6f8769a98c8fd77eeb7e9fb8f406763246326a956b35", checked := Tryz.checked }
namespace Rows
def none {H : Type} : Left H := { results := [], args := [] }

/-- 'droverlaw18.OutboxActs': WHATEVER THE INPUT: true; the input reads as it did. -/
def outboxActsSpec : ChangeSpec := { name := "outboxActs", fn := fun _ => fun
  | [d1, d2] => { results := [.lit (.bool true)], args := [d1, d2] }
  | _ => none }
def outboxActsRow : OpenClaim := { program := "ytdkiopajilakcaagreat", sum := "0571d539f35d1e0c964e6f8769a98c8fd77eeb7e9fb8f406763246326a956b35", func := "drover/droverlaw18.OutboxActs", spec := "outboxActs", inPlace := ["internal/bytealg.IndexByteString", "internal/bytealg.IndexString"], unfollowed := true, recurses := true, named := ["internal/bytealg.MaxLen"], apart := false }
def OutboxActsSaid : Prop := outboxActsRow.holds Tryz.pinned (OpenSpec.ofChange outboxActsSpec)

/-- ITS FALSE NEIGHBOUR: 'it returns false'. Refute it at one input. -/
def outboxActsWrong : ChangeSpec := { name := "outboxActs", fn := fun _ => fun
  | [d1, d2] => { results := [.lit (.bool false)], args := [d1, d2] }
  | _ => none }
def OutboxActsWrongFalsely : Prop := outboxActsRow.holds Tryz.pinned (OpenSpec.ofChange outboxActsWrong)

/-- 'droverlaw18.OutboxOnce': WHATEVER THE INPUT: true; the input reads as it did. -/
def outboxOnceSpec : ChangeSpec := { name := "outboxOnce", fn := fun _ => fun
  | [d1, d2] => { results := [.lit (.bool true)], args := [d1, d2] }
  | _ => none }
def outboxOnceRow : OpenClaim := { program := "ytdkiopajilakcaagreat", sum := "0571d539f35d1e0c964e6f8769a98c8fd77eeb7e9fb8f406763246326a956b35", func := "drover/droverlaw18.OutboxOnce", spec := "outboxOnce", inPlace := ["internal/bytealg.IndexByteString", "internal/bytealg.IndexString"], unfollowed := true, recurses := true, named := ["internal/bytealg.MaxLen"], apart := false }
def OutboxOnceSaid : Prop := outboxOnceRow.holds Tryz.pinned (OpenSpec.ofChange outboxOnceSpec)

/-- ITS FALSE NEIGHBOUR: 'it returns false'. Refute it at one input. -/
def outboxOnceWrong : ChangeSpec := { name := "outboxOnce", fn := fun _ => fun
  | [d1, d2] => { results := [.lit (.bool false)], args := [d1, d2] }
  | _ => none }
def OutboxOnceWrongFalsely : Prop := outboxOnceRow.holds Tryz.pinned (OpenSpec.ofChange outboxOnceWrong)

/-- 'droverlaw18.OutboxLapses': WHATEVER THE INPUT: true; the input reads as it did. -/
def outboxLapsesSpec : ChangeSpec := { name := "outboxLapses", fn := fun _ => fun
  | [d1, d2] => { results := [.lit (.bool true)], args := [d1, d2] }
  | _ => none }
def outboxLapsesRow : OpenClaim := { program := "ytdkiopajilakcaagreat", sum := "0571d539f35d1e0c964e6f8769a98c8fd77eeb7e9fb8f406763246326a956b35", func := "drover/droverlaw18.OutboxLapses", spec := "outboxLapses", inPlace := ["internal/bytealg.IndexByteString", "internal/bytealg.IndexString"], unfollowed := true, recurses := true, named := ["internal/bytealg.MaxLen"], apart := false }
def OutboxLapsesSaid : Prop := outboxLapsesRow.holds Tryz.pinned (OpenSpec.ofChange outboxLapsesSpec)

/-- ITS FALSE NEIGHBOUR: 'it returns false'. Refute it at one input. -/
def outboxLapsesWrong : ChangeSpec := { name := "outboxLapses", fn := fun _ => fun
  | [d1, d2] => { results := [.lit (.bool false)], args := [d1, d2] }
  | _ => none }
def OutboxLapsesWrongFalsely : Prop := outboxLapsesRow.holds Tryz.pinned (OpenSpec.ofChange outboxLapsesWrong)

/-- 'droverlaw18.OutboxNone': WHATEVER THE INPUT: true; the input reads as it did. -/
def outboxNoneSpec : ChangeSpec := { name := "outboxNone", fn := fun _ => fun
  | [d] => { results := [.lit (.bool true)], args := [d] }
  | _ => none }
def outboxNoneRow : OpenClaim := { program := "ytdkiopajilakcaagreat", sum := "0571d539f35d1e0c964e6f8769a98c8fd77eeb7e9fb8f406763246326a956b35", func := "drover/droverlaw18.OutboxNone", spec := "outboxNone", inPlace := ["internal/bytealg.IndexByteString", "internal/bytealg.IndexString"], unfollowed := true, recurses := true, named := ["internal/bytealg.MaxLen"], apart := false }
def OutboxNoneSaid : Prop := outboxNoneRow.holds Tryz.pinned (OpenSpec.ofChange outboxNoneSpec)

/-- ITS FALSE NEIGHBOUR: 'it returns false'. Refute it at one input. -/
def outboxNoneWrong : ChangeSpec := { name := "outboxNone", fn := fun _ => fun
  | [d] => { results := [.lit (.bool false)], args := [d] }
  | _ => none }
def OutboxNoneWrongFalsely : Prop := outboxNoneRow.holds Tryz.pinned (OpenSpec.ofChange outboxNoneWrong)

/-- 'droverlaw18.OutboxViews': WHATEVER THE INPUT: true; the input reads as it did. -/
def outboxViewsSpec : ChangeSpec := { name := "outboxViews", fn := fun _ => fun
  | [d1, d2] => { results := [.lit (.bool true)], args := [d1, d2] }
  | _ => none }
def outboxViewsRow : OpenClaim := { program := "ytdkiopajilakcaagreat", sum := "0571d539f35d1e0c964e6f8769a98c8fd77eeb7e9fb8f406763246326a956b35", func := "drover/droverlaw18.OutboxViews", spec := "outboxViews", inPlace := ["internal/bytealg.IndexByteString", "internal/bytealg.IndexString"], unfollowed := true, recurses := true, named := ["internal/bytealg.MaxLen"], apart := false }
def OutboxViewsSaid : Prop := outboxViewsRow.holds Tryz.pinned (OpenSpec.ofChange outboxViewsSpec)

/-- ITS FALSE NEIGHBOUR: 'it returns false'. Refute it at one input. -/
def outboxViewsWrong : ChangeSpec := { name := "outboxViews", fn := fun _ => fun
  | [d1, d2] => { results := [.lit (.bool false)], args := [d1, d2] }
  | _ => none }
def OutboxViewsWrongFalsely : Prop := outboxViewsRow.holds Tryz.pinned (OpenSpec.ofChange outboxViewsWrong)

/- THE SECOND FORM. 'bulk': how many values and letters a reading holds, each counted each time it is reached (what is shared counts as often as it is met; a slice's spare places count too). A statement '..UptoSaid' is the law's where the arguments, and the package variables that the reading takes, are together of bulk at most 1048576: NARROWER than '..Said'. Prove '..Said' where nothing that the law and all that it calls make is longer than what came in: it says more and counts as full. Else prove '..UptoSaid'. A law counts once. -/
mutual
def uptoBulk {H : Type} : DataW H → Nat
  | .lit (.string bytes) => bytes.length + 1
  | .lit _ => 1
  | .nil => 1
  | .ptr d => uptoBulk d + 1
  | .slice elems spare => uptoBulkAll elems + uptoBulkAll spare + 1
  | .agg parts => uptoBulkAll parts + 1
  | .iface _ d => uptoBulk d + 1
  | .map entries => uptoBulkEntries entries + 1
  | .held _ => 1
def uptoBulkAll {H : Type} : List (DataW H) → Nat
  | [] => 0
  | d :: r => uptoBulk d + uptoBulkAll r
def uptoBulkEntries {H : Type} : List (Lit × DataW H) → Nat
  | [] => 0
  | x :: r => uptoBulkEntry x + uptoBulkEntries r
def uptoBulkEntry {H : Type} : Lit × DataW H → Nat
  | (.string bytes, d) => bytes.length + uptoBulk d + 1
  | (_, d) => uptoBulk d + 1
 end
def uptoSmall : (H : Type) → List (DataW H) → Bool := fun _ ds => decide (uptoBulkAll ds ≤ 1048576)
def OpenSpec.upto (s : _root_.Go.ChangeSpec) : _root_.Go.OpenSpec := { _root_.Go.OpenSpec.ofChange s with cond := some uptoSmall }

/-- 'droverlaw18.OutboxActs', WHERE WHAT IT READS IS OF BULK AT MOST 1048576: true; the input reads as it did. -/
def outboxActsUptoRow : OpenClaim := { program := "ytdkiopajilakcaagreat", sum := "0571d539f35d1e0c964e6f8769a98c8fd77eeb7e9fb8f406763246326a956b35", func := "drover/droverlaw18.OutboxActs", spec := "outboxActs", inPlace := ["internal/bytealg.IndexByteString", "internal/bytealg.IndexString"], unfollowed := true, recurses := true, named := ["internal/bytealg.MaxLen"], apart := false, narrowed := true }
def OutboxActsUptoSaid : Prop := outboxActsUptoRow.holds Tryz.pinned (OpenSpec.upto outboxActsSpec)

/-- 'droverlaw18.OutboxOnce', WHERE WHAT IT READS IS OF BULK AT MOST 1048576: true; the input reads as it did. -/
def outboxOnceUptoRow : OpenClaim := { program := "ytdkiopajilakcaagreat", sum := "0571d539f35d1e0c964e6f8769a98c8fd77eeb7e9fb8f406763246326a956b35", func := "drover/droverlaw18.OutboxOnce", spec := "outboxOnce", inPlace := ["internal/bytealg.IndexByteString", "internal/bytealg.IndexString"], unfollowed := true, recurses := true, named := ["internal/bytealg.MaxLen"], apart := false, narrowed := true }
def OutboxOnceUptoSaid : Prop := outboxOnceUptoRow.holds Tryz.pinned (OpenSpec.upto outboxOnceSpec)

/-- 'droverlaw18.OutboxLapses', WHERE WHAT IT READS IS OF BULK AT MOST 1048576: true; the input reads as it did. -/
def outboxLapsesUptoRow : OpenClaim := { program := "ytdkiopajilakcaagreat", sum := "0571d539f35d1e0c964e6f8769a98c8fd77eeb7e9fb8f406763246326a956b35", func := "drover/droverlaw18.OutboxLapses", spec := "outboxLapses", inPlace := ["internal/bytealg.IndexByteString", "internal/bytealg.IndexString"], unfollowed := true, recurses := true, named := ["internal/bytealg.MaxLen"], apart := false, narrowed := true }
def OutboxLapsesUptoSaid : Prop := outboxLapsesUptoRow.holds Tryz.pinned (OpenSpec.upto outboxLapsesSpec)

/-- 'droverlaw18.OutboxNone', WHERE WHAT IT READS IS OF BULK AT MOST 1048576: true; the input reads as it did. -/
def outboxNoneUptoRow : OpenClaim := { program := "ytdkiopajilakcaagreat", sum := "0571d539f35d1e0c964e6f8769a98c8fd77eeb7e9fb8f406763246326a956b35", func := "drover/droverlaw18.OutboxNone", spec := "outboxNone", inPlace := ["internal/bytealg.IndexByteString", "internal/bytealg.IndexString"], unfollowed := true, recurses := true, named := ["internal/bytealg.MaxLen"], apart := false, narrowed := true }
def OutboxNoneUptoSaid : Prop := outboxNoneUptoRow.holds Tryz.pinned (OpenSpec.upto outboxNoneSpec)

/-- 'droverlaw18.OutboxViews', WHERE WHAT IT READS IS OF BULK AT MOST 1048576: true; the input reads as it did. -/
def outboxViewsUptoRow : OpenClaim := { program := "ytdkiopajilakcaagreat", sum := "0571d539f35d1e0c964e6f8769a98c8fd77eeb7e9fb8f406763246326a956b35", func := "drover/droverlaw18.OutboxViews", spec := "outboxViews", inPlace := ["internal/bytealg.IndexByteString", "internal/bytealg.IndexString"], unfollowed := true, recurses := true, named := ["internal/bytealg.MaxLen"], apart := false, narrowed := true }
def OutboxViewsUptoSaid : Prop := outboxViewsUptoRow.holds Tryz.pinned (OpenSpec.upto outboxViewsSpec)

end Rows
end Go.Proofs.YtdkiopajilakcaaGreat
