/- From what a row says of a slice of ints that came in to what the walks are told of it. -/
import Derived.Test.YtnmkndnaomgmhaaInts
import Derived.ProofKit
import Derived.OpenShut
import Derived.Deep.Slices
import Derived.ChangeArms
import Derived.SizedLaws
namespace Go.Proofs.Ytnmkndnaomgmhaa
open Go.RowKit

theorem iholds_of_row {w : World} {x : Addr} {len cap : Nat} {zs : List Int} (hl : len ≤ cap) (hz : zs.length = cap)
    (hcell : ∀ i, i < zs.length → w.cell? (x.add i) = some (.int .i64 (zs.getD i 0))) (hwz : ∀ n ∈ zs, (Lit.int .i64 n).wf = true) :
    ∃ l, IHolds w w.heap.size (some x) len l := by
  refine ⟨zs.take len, by simp; omega, ?_, fun h0 => ?_⟩
  · intro y hy
    have := bounds_i64 (hwz y (List.mem_of_mem_take hy))
    omega
  · obtain ⟨b, off, spot⟩ := x
    have h1 := hcell 0 (by omega)
    have hspot : spot = none := by simpa [Addr.add] using World.cell?_spot h1
    subst hspot
    refine ⟨b, off, rfl, ?_, fun i hi => ?_⟩
    · exact World.block_lt_of_cell? w _ (by simpa [Addr.add] using h1)
    · have h2 := hcell i (by omega)
      rw [Addr.add_lit] at h2
      rw [h2]
      have hiz : i < zs.length := by omega
      have h4 : (zs.take len).getD i 0 = zs[i] := by
        simp [List.getD, hi, hiz]
      have h5 : zs.getD i 0 = zs[i] := by simp [List.getD, hiz]
      rw [h4, h5]

/-- An argument that is a slice of ints. -/
theorem ints_of_arg {H : Type} {enc : TypeId × Value → H} {W : World} {a : Option Addr} {len cap : Nat} {d : DataW H} {p : List MemPlace}
    (h : DataW.Trod enc Try.prog W 0 (fun _ => true) true 27 (.slice a len cap) d p) : ∃ l, IHolds W W.heap.size a len l ∧ len ≤ maxLen := by
  obtain ⟨fuel, hf⟩ := h
  rcases ChangeShapes.open_ints Try.underlying27 Try.underlying3 (by kernel_rfl) hf with ⟨hcs, _⟩ | ⟨x, l, c, zs, hcs, _, hl, hm, hz, _, hcell, hwz⟩
  · simp [Value.cells] at hcs
    obtain ⟨rfl, rfl, rfl⟩ := hcs
    exact ⟨[], IHolds.nil_ _ _, by simp [maxLen]⟩
  · simp [Value.cells] at hcs
    obtain ⟨rfl, rfl, rfl⟩ := hcs
    obtain ⟨l', h'⟩ := iholds_of_row hl (by simpa using hz) hcell hwz
    exact ⟨l', h', by omega⟩
end Go.Proofs.Ytnmkndnaomgmhaa
