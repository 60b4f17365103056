/- Worlds in which some integers have turned, and nothing else. -/
import Derived.Test.YtgjpdfolnkjhfaaCopyOp
import Derived.Test.YtgjpdfolnkjhfaaTurned
namespace Go.Proofs.Ytgjpdfolnkjhfaa
open Go.RowKit

/-- From w to w' only cells of S's blocks have turned, integers into integers. -/
structure Spoilt (S : Nat → Prop) (w w' : World) : Prop where
  turned : Turned S w w'
  cell : ∀ b o v, w.cell? ⟨b, o, none⟩ = some v → ∃ v', w'.cell? ⟨b, o, none⟩ = some v' ∧ (v' = v ∨ ∃ x y, v = .int .i64 x ∧ v' = .int .i64 y)
  frozen : ∀ b o, w.frozen? ⟨b, o, none⟩ = false → w'.frozen? ⟨b, o, none⟩ = false
section
variable {S : Nat → Prop} {w a b c : World}
theorem Spoilt.refl (S : Nat → Prop) (w : World) : Spoilt S w w := ⟨Turned.refl S w, fun _ _ v h => ⟨v, h, .inl rfl⟩, fun _ _ h => h⟩
/-- An integer is still one. -/
theorem Spoilt.int (h : Spoilt S a b) {g o : Nat} {x : Int} (hc : a.cell? ⟨g, o, none⟩ = some (.int .i64 x)) : ∃ y, b.cell? ⟨g, o, none⟩ = some (.int .i64 y) := by
  obtain ⟨v', h1, rfl | ⟨x', y, _, rfl⟩⟩ := h.cell g o _ hc
  · exact ⟨x, h1⟩
  · exact ⟨y, h1⟩
theorem Spoilt.slice (h : Spoilt S a b) {g o n k : Nat} {A : Option Addr} (hc : a.cell? ⟨g, o, none⟩ = some (.slice A n k)) : b.cell? ⟨g, o, none⟩ = some (.slice A n k) := by
  obtain ⟨v', h1, rfl | ⟨x', y, e, _⟩⟩ := h.cell g o _ hc
  · exact h1
  · cases e
theorem Spoilt.store (h : Spoilt S a b) {g o : Nat} {x : Int} (hc : b.cell? ⟨g, o, none⟩ = some (.int .i64 x)) (hg : S g) (y : Int) : Spoilt S a (b.setCell ⟨g, o, none⟩ (.int .i64 y)) := by
  refine ⟨h.turned.trans (Turned.of_grown (grown_set b g o _) fun g' e => by rw [← Option.some.inj e]; exact hg), fun g' o' v hv => ?_, fun g' o' hf => by rw [World.frozen?_setCell]; exact h.frozen g' o' hf⟩
  obtain ⟨v', h1, h2⟩ := h.cell g' o' v hv
  by_cases e : (⟨g', o', none⟩ : Addr) = ⟨g, o, none⟩
  · injection e with e1 e2 _
    subst e1 e2
    refine ⟨_, World.cell?_setCell_same b _ _ hc, .inr ?_⟩
    rw [hc] at h1
    obtain rfl := Option.some.inj h1
    rcases h2 with e3 | ⟨x', y', e4, _⟩
    · exact ⟨x, y, e3.symm, rfl⟩
    · exact ⟨x', y, e4, rfl⟩
  · exact ⟨v', by rw [World.cell?_setCell_other _ _ _ _ (Ne.symm e)]; exact h1, h2⟩
end
end Go.Proofs.Ytgjpdfolnkjhfaa
