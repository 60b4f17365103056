/- From what a row says of lists of ints, of messages and of arrays of five numbers that came in to what the walks are told of them. -/
import Derived.Test.YtflphpjfmbkeiaaMsgV
import Derived.Test.YtflphpjfmbkeiaaSl
namespace Go.Proofs.Ytflphpjfmbkeiaa
open Go.RowKit Go.WideShapes

section
variable {H : Type} {enc : TypeId × Value → H} {W : World}
theorem arg_ints {A : Option Addr} {len cap : Nat} {d : DataW H} {p : List MemPlace} (h : DataW.Trod enc Try.prog W 0 (fun _ => true) true 22 (.slice A len cap) d p) (hs : Sm 22 d) : ∃ l : List Int, SlI (· < W.heap.size) W (.slice A len cap) l ∧ Fit l := by
  obtain ⟨fuel, hf⟩ := h
  obtain ⟨l, h1, h2⟩ := open_incs (n := fuel) (x := (d, p)) hf hs
  have hft : Fit l := fun a ha => h2 a ha
  exact ⟨l, ⟨h1, hft⟩, hft⟩
theorem trod_array5 {P : Program} {t e : TypeId} {fuel : Nat} {c0 c1 c2 c3 c4 : Value} {base : Nat} {spare : Nat → Bool} {held : Bool} {x : DataW H × List MemPlace} (ht : P.underlying t = some (.array 5 e)) (hce : P.cellsOf e = 1)
    (h : DataW.trod enc P W base spare held fuel t [c0, c1, c2, c3, c4] = some x) :
    ∃ y0 y1 y2 y3 y4 n, DataW.trod enc P W base spare held n e [c0] = some y0 ∧ DataW.trod enc P W base spare held n e [c1] = some y1 ∧ DataW.trod enc P W base spare held n e [c2] = some y2 ∧ DataW.trod enc P W base spare held n e [c3] = some y3 ∧ DataW.trod enc P W base spare held n e [c4] = some y4 := by
  cases fuel with
  | zero => simp [DataW.trod] at h
  | succ n =>
    unfold DataW.trod at h
    rw [ht] at h
    have r5 : List.range 5 = [0, 1, 2, 3, 4] := rfl
    simp [r5, hce] at h
    obtain ⟨_, h⟩ := h
    cases h0 : DataW.trod enc P W base spare held n e [c0] with
    | none => simp [h0] at h
    | some y0 =>
      cases h1 : DataW.trod enc P W base spare held n e [c1] with
      | none => simp [h0, h1] at h
      | some y1 =>
        cases h2 : DataW.trod enc P W base spare held n e [c2] with
        | none => simp [h0, h1, h2] at h
        | some y2 =>
          cases h3 : DataW.trod enc P W base spare held n e [c3] with
          | none => simp [h0, h1, h2, h3] at h
          | some y3 =>
            cases h4 : DataW.trod enc P W base spare held n e [c4] with
            | none => simp [h0, h1, h2, h3, h4] at h
            | some y4 =>
              simp [h0, h1, h2, h3, h4] at h
              exact ⟨y0, y1, y2, y3, y4, n, h0, h1, h2, h3, h4⟩
/-- An array of five numbers. -/
def five (l : List Nat) : Value := .agg (l.map fun (x : Nat) => Value.int .u64 (x : Int)).toArray
theorem arg_five {v : Value} {d : DataW H} {p : List MemPlace} {base : Nat} (hv : Value.okWide Try.prog W .any base 46 v) (h : DataW.Trod enc Try.prog W 0 (fun _ => true) true 46 v d p) :
    ∃ l : List Nat, v = five l ∧ l.length = 5 ∧ ∀ x ∈ l, x < 18446744073709551616 := by
  simp only [Value.okWide, Try.underlying46] at hv
  obtain ⟨cs, rfl, hsz, _⟩ := hv
  have hsz : cs.size = 5 := hsz
  obtain ⟨fuel, hf⟩ := h
  rcases cs with ⟨l⟩
  match l, hsz with
  | [c0, c1, c2, c3, c4], _ =>
    obtain ⟨y0, y1, y2, y3, y4, n, h0, h1, h2, h3, h4⟩ := trod_array5 Try.underlying46 (by kernel_rfl) hf
    obtain ⟨a0, e0, _, w0⟩ := DataW.trod_int Try.underlying45 h0
    have b0 := bounds_u64 w0
    simp only [List.cons.injEq, and_true] at e0
    subst e0
    obtain ⟨N0, rfl⟩ := Int.eq_ofNat_of_zero_le b0.1
    obtain ⟨a1, e1, _, w1⟩ := DataW.trod_int Try.underlying45 h1
    have b1 := bounds_u64 w1
    simp only [List.cons.injEq, and_true] at e1
    subst e1
    obtain ⟨N1, rfl⟩ := Int.eq_ofNat_of_zero_le b1.1
    obtain ⟨a2, e2, _, w2⟩ := DataW.trod_int Try.underlying45 h2
    have b2 := bounds_u64 w2
    simp only [List.cons.injEq, and_true] at e2
    subst e2
    obtain ⟨N2, rfl⟩ := Int.eq_ofNat_of_zero_le b2.1
    obtain ⟨a3, e3, _, w3⟩ := DataW.trod_int Try.underlying45 h3
    have b3 := bounds_u64 w3
    simp only [List.cons.injEq, and_true] at e3
    subst e3
    obtain ⟨N3, rfl⟩ := Int.eq_ofNat_of_zero_le b3.1
    obtain ⟨a4, e4, _, w4⟩ := DataW.trod_int Try.underlying45 h4
    have b4 := bounds_u64 w4
    simp only [List.cons.injEq, and_true] at e4
    subst e4
    obtain ⟨N4, rfl⟩ := Int.eq_ofNat_of_zero_le b4.1
    refine ⟨[N0, N1, N2, N3, N4], rfl, rfl, fun x hx => ?_⟩
    simp at hx
    rcases hx with rfl | rfl | rfl | rfl | rfl <;> omega
end
end Go.Proofs.Ytflphpjfmbkeiaa
