/- From what a row says of a slice of fields that came in to what the walks are told of it. -/
import Derived.Test.YtjfcakpglbpeaaaOpen
import Derived.Test.YtjfcakpglbpeaaaLight
import Derived.Deep.Slices
import Derived.ChangeArms
namespace Go.Proofs.Ytjfcakpglbpeaaa
open Go.RowKit

theorem cap_of_arg {H : Type} {enc : TypeId × Value → H} {W : World} {t e : TypeId} {a : Option Addr} {len cap : Nat} {d : DataW H} {p : List MemPlace} (ht : Try.prog.underlying t = some (.slice e))
    (h : DataW.Trod enc Try.prog W 0 (fun _ => true) true t (.slice a len cap) d p) : len ≤ cap ∧ cap ≤ maxLen := by
  obtain ⟨fuel, hf⟩ := h
  rcases Go.Deep.open_slice ht hf with ⟨hcs, _⟩ | ⟨_, l, c, _, _, _, _, hcs, _, hl, hm, _⟩
  · simp [Value.cells] at hcs
    obtain ⟨rfl, rfl, rfl⟩ := hcs
    simp [maxLen]
  · simp [Value.cells] at hcs
    obtain ⟨rfl, rfl, rfl⟩ := hcs
    exact ⟨hl, hm⟩

theorem fd_row : Try.prog.cellsOf 34 = 4 ∧ Try.prog.cellsOf 3 = 1 ∧ Try.prog.cellsOf 4 = 1 ∧ Try.prog.cellsOf 23 = 1 ∧ Try.prog.cellsOf 22 = 1 := ⟨by kernel_rfl, by kernel_rfl, by kernel_rfl, by kernel_rfl, by kernel_rfl⟩

/-- One field, from its cells. -/
theorem field_of_cells {H : Type} {enc : TypeId × Value → H} {W : World} {a : Addr} {n : Nat} {cs : List Value} {x : DataW H × List MemPlace}
    (hc : W.cells? 0 a 4 = some cs) (h : DataW.trod enc Try.prog W 0 (fun _ => true) true n 34 cs = some x) :
    ∃ f : Fd, f.ok W W.heap.size ∧ f.n ≤ maxLen ∧ ∀ j u, f.cells[j]? = some u → W.cell? (a.add j) = some u := by
  obtain ⟨_, hl, hat⟩ := World.cells?_some hc
  obtain ⟨xs, n', _, _, _, hxl, hf⟩ := DataW.trod_struct Try.underlying34 h
  obtain ⟨_, r1, r2, r3, r4⟩ := fd_row
  match cs, hl with
  | [c0, c1, c2, c3], _ =>
    match xs, hxl with
    | [x0, x1, x2, x3], _ =>
      have e0 : ([c0, c1, c2, c3].drop 0).take (Try.prog.cellsOf 3) = [c0] := by rw [r1]; rfl
      have g0 : DataW.trod enc Try.prog W 0 (fun _ => true) true n' 3 [c0] = some x0 := (congrArg (fun q => DataW.trod enc Try.prog W 0 (fun _ => true) true n' 3 q) e0).symm.trans (hf 0 _ rfl)
      have e1 : ([c0, c1, c2, c3].drop 1).take (Try.prog.cellsOf 4) = [c1] := by rw [r2]; rfl
      have g1 : DataW.trod enc Try.prog W 0 (fun _ => true) true n' 4 [c1] = some x1 := (congrArg (fun q => DataW.trod enc Try.prog W 0 (fun _ => true) true n' 4 q) e1).symm.trans (hf 1 _ rfl)
      have e2 : ([c0, c1, c2, c3].drop 2).take (Try.prog.cellsOf 23) = [c2] := by rw [r3]; rfl
      have g2 : DataW.trod enc Try.prog W 0 (fun _ => true) true n' 23 [c2] = some x2 := (congrArg (fun q => DataW.trod enc Try.prog W 0 (fun _ => true) true n' 23 q) e2).symm.trans (hf 2 _ rfl)
      have e3 : ([c0, c1, c2, c3].drop 3).take (Try.prog.cellsOf 22) = [c3] := by rw [r4]; rfl
      have g3 : DataW.trod enc Try.prog W 0 (fun _ => true) true n' 22 [c3] = some x3 := (congrArg (fun q => DataW.trod enc Try.prog W 0 (fun _ => true) true n' 22 q) e3).symm.trans (hf 3 _ rfl)
      obtain ⟨num, h0, _, w0⟩ := DataW.trod_int Try.underlying3 g0
      obtain ⟨text, h1, _⟩ := DataW.trod_bool Try.underlying4 g1
      obtain ⟨v, h2, _, w2⟩ := DataW.trod_int Try.underlying23 g2
      have b0 := bounds_i64 w0
      have b2 := bounds_u64 w2
      have hs : ∃ (A : Option Addr) (l c : Nat), c3 = .slice A l c := by
        rcases Go.Deep.open_slice Try.underlying22 g3 with ⟨hcs, _⟩ | ⟨A, l, c, _, _, _, _, hcs, _⟩
        · exact ⟨none, 0, 0, by simpa using hcs⟩
        · exact ⟨some A, l, c, by simpa using hcs⟩
      obtain ⟨A, l, c, rfl⟩ := hs
      have ht : DataW.Trod enc Try.prog W 0 (fun _ => true) true 22 (.slice A l c) x3.1 x3.2 := ⟨n', g3⟩
      obtain ⟨b, hb, hm⟩ := bytes_of_arg ht
      have hlc := (cap_of_arg Try.underlying22 ht).1
      simp only [List.cons.injEq, and_true] at h0 h1 h2
      subst h0 h1 h2
      obtain ⟨V, rfl⟩ := Int.eq_ofNat_of_zero_le b2.1
      refine ⟨⟨num, text, V, A, l, c, b⟩, ⟨⟨by simp only; omega, by simp only; omega⟩, by simp only; omega, hlc, hb⟩, hm, fun j u hu => ?_⟩
      have hj : j < 4 := by
        have := (Array.getElem?_eq_some_iff.1 hu).1
        simpa [Fd.cells] using this
      rw [hat j hj]
      simpa [Fd.cells] using hu

instance : Inhabited Fd := ⟨⟨0, false, 0, none, 0, 0, []⟩⟩

/-- An argument that is a slice of fields. -/
theorem fields_of_arg {H : Type} {enc : TypeId × Value → H} {W : World} {a : Option Addr} {len cap : Nat} {d : DataW H} {p : List MemPlace}
    (h : DataW.Trod enc Try.prog W 0 (fun _ => true) true 31 (.slice a len cap) d p) : ∃ l, FHolds W W.heap.size a len l ∧ len ≤ maxLen ∧ ∀ f ∈ l, f.n ≤ maxLen := by
  obtain ⟨fuel, hf⟩ := h
  rcases Go.Deep.open_slice Try.underlying31 hf with ⟨hcs, _⟩ | ⟨x, l, c, m, n, D, Pl, hcs, _, hl, hm, hmm, _, hx⟩
  · simp [Value.cells] at hcs
    obtain ⟨rfl, rfl, rfl⟩ := hcs
    exact ⟨[], ⟨rfl, by simp, fun h => by omega⟩, by simp [maxLen], by simp⟩
  · simp [Value.cells] at hcs
    obtain ⟨rfl, rfl, rfl⟩ := hcs
    rw [fd_row.1] at hx
    simp only [if_true] at hmm
    subst hmm
    obtain ⟨F, hF⟩ := Go.Deep.choose_lt fun i (hi : i < len) => by
      obtain ⟨cs', h1, h2⟩ := hx i (by omega)
      exact field_of_cells h1 h2
    refine ⟨(List.range len).map F, ⟨by simp, ?_, fun hn => ?_⟩, by omega, ?_⟩
    · intro f hf
      obtain ⟨i, hi, rfl⟩ := List.mem_map.1 hf
      exact (hF i (List.mem_range.1 hi)).1
    · obtain ⟨b, off, spot⟩ := x
      have h0 := (hF 0 hn).2.2 0 _ rfl
      have hspot : spot = none := by simpa [Addr.add] using World.cell?_spot h0
      subst hspot
      refine ⟨b, off, rfl, World.block_lt_of_cell? W _ (by simpa [Addr.add] using h0), fun i f hi j u hu => ?_⟩
      have hil : i < len := by
        have := (List.getElem?_eq_some_iff.1 hi).1
        simpa using this
      have he : f = F i := by
        simp [hil] at hi
        exact hi.symm
      subst he
      have h5 := (hF i hil).2.2 j u hu
      rw [Go.Deep.add_add, Addr.add_lit] at h5
      rw [show off + i * 4 + j = off + (i * 4 + j) from by omega]
      exact h5
    · intro f hf
      obtain ⟨i, hi, rfl⟩ := List.mem_map.1 hf
      exact (hF i (List.mem_range.1 hi)).2.1
end Go.Proofs.Ytjfcakpglbpeaaa
