/- The document's Copy, at messages that are not too great. -/
import Derived.Test.YtaimnhlpdkpobaaRefCopyN
import Derived.Test.YtaimnhlpdkpobaaCopy
namespace Go.Proofs.Ytaimnhlpdkpobaa
open Go.RowKit

theorem refcopy_own (F : Nat → Prop) (m : MsgD) (v : Value) (w : World) (h : MsgAt F w v m) (hl : m.light) (hi : m.incs.length ≤ 1000000) :
    Calls Try.prog 31 #[v] w (Owned m w) :=
  refcopyn_own F m v w h ⟨by have := hl.1; omega, by have := hl.2.1; omega, fun o ho => by have := hl.2.2 o ho; omega⟩ hi
theorem refcopy_any (F : Nat → Prop) (m : MsgD) (v : Value) (w : World) (h : MsgAt F w v m) (hl : m.light) (hi : m.incs.length ≤ 1000000) :
    Calls Try.prog 31 #[v] w (Copied m w) := (refcopy_own F m v w h hl hi).mono fun _ _ => Owned.copied
end Go.Proofs.Ytaimnhlpdkpobaa
