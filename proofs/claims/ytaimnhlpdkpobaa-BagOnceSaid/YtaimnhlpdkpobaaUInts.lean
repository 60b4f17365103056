/- From what a row says of a slice of uints that came in to what the walks are told of it. -/
import Derived.Test.YtaimnhlpdkpobaaOpenA
import Derived.Test.YtaimnhlpdkpobaaOnceK
namespace Go.Proofs.Ytaimnhlpdkpobaa
open Go.RowKit
section
variable {H : Type} {enc : TypeId × Value → H} {W : World}
theorem open_uints {n : Nat} {v : Value} {x : DataW H × List MemPlace} (h : Rd enc W n 67 [v] x) (hs : Sm 67 x.1) : ∃ l, UintsAt (· < W.heap.size) W v l ∧ ∀ a ∈ l, 0 ≤ a ∧ a < 18446744073709551616 := by
  obtain ⟨ys, h1, h2⟩ := open_elems (fun a : Int => [.int .u64 a]) (fun a => 0 ≤ a ∧ a < 18446744073709551616) 1 (by decide) (fun _ => rfl) Try.underlying67 (by kernel_rfl) (fun n cs x h hs => by
    obtain ⟨a, h0, _, w0⟩ := DataW.trod_int Try.underlying68 h
    have b0 := bounds_u64 w0
    exact ⟨a, h0, by omega⟩) (fun y _ u hu => by obtain rfl : u = .int .u64 y := by simpa using hu
                                                 rfl) h hs
  refine ⟨ys, ?_, h2⟩
  unfold UintsAt
  rw [List.map_eq_flatMap]
  exact h1
theorem arg_uints {A : Option Addr} {len cap : Nat} {d : DataW H} {p : List MemPlace} (h : DataW.Trod enc Try.prog W 0 (fun _ => true) true 67 (.slice A len cap) d p) (hs : Sm 67 d) : ∃ l, UintsAt (· < W.heap.size) W (.slice A len cap) l ∧ ∀ a ∈ l, 0 ≤ a ∧ a < 18446744073709551616 := by
  obtain ⟨fuel, hf⟩ := h
  exact open_uints (n := fuel) (x := (d, p)) hf hs
end
end Go.Proofs.Ytaimnhlpdkpobaa
