/- The law droverlaw12.LexerBack is true at every text: the text of a text's tokens has these tokens. -/
import Derived.Test.YtjnpclpjdlimaaaBaseL1
import Derived.Test.YtjnpclpjdlimaaaBaseL2
import Derived.Test.YtjnpclpjdlimaaaRows
import Derived.ProofKit
import Derived.OpenShut
import Derived.ShutString
import Derived.ChangeOld
/- The law with its world ahead of what is known of its arguments. -/
namespace Go.Proofs.Ytjnpclpjdlimaaa
open Go.RowKit
theorem law_backW (s : ByteArray) (W : World) (h0 : s.size ≤ 9223372036854775807) : Calls Try.prog 4 #[.string s] W fun e w' => e = .returned (.bool true) ∧ Later W w' :=
  law_back (w := W) s h0
end Go.Proofs.Ytjnpclpjdlimaaa
namespace Go.Proofs.Ytjnpclpjdlimaaa
open Go.ChangeShapes Go.WideShapes Go.ChangeAt Go.RowKit

theorem lexerBack_lawKnobs : ownKnob Try.prog.godebug = none := by kernel_rfl
theorem lexerBack_allLaid : laidOutB Try.prog = true := by kernel_rfl

set_option maxRecDepth 100000 in
set_option maxHeartbeats 1000000 in
theorem lexerBack_lifted (os : Os) (started : os.Started) (H : Type) (enc : TypeId × Value → H) :
    ReturnsInHanded {} Try.checked os 4 .any (Rows.lexerBackSpec.pre6 enc Try.prog Try.f4 Rows.lexerBackRow.domain false) (Rows.lexerBackSpec.post enc Try.prog Try.f4 false true false false) := by
  refine returnsInHanded_of_change_sized (C := Try.checked) lexerBack_lawKnobs started (by kernel_rfl) Try.func4
    (ChangeSpec.witness6 (enc := enc) (C := Try.checked) false ⟨#[], #[.string ⟨#[]⟩], []⟩ 8 (by kernel_rfl) (by kernel_rfl) (by kernel_rfl) (by kernel_rfl)) ?_
  intro W base args ds gs before hval0 hW hcnd hsz _
  have hval : ∀ (j : Nat) t v, Try.f4.params[j]? = some t → args[j]? = some v → Value.okWide Try.prog W .any base t v := hval0
  have hW' := hW
  obtain ⟨p, q, hA0, hV, rfl, _, _⟩ := hW
  have hA : DataW.TrodAll enc Try.prog W 0 (fun _ => true) true Try.f4.params.toList args.toList ds p := hA0
  rw [Try.params4] at hA hval
  obtain ⟨v0, vs0, d0, ds0, p0, q0, hargs, rfl, rfl, h0, r0⟩ := trodAll_cons hA
  obtain ⟨rfl, rfl, rfl⟩ := trodAll_nil r0
  obtain rfl : args = #[v0] := by cases args; simp_all
  obtain ⟨rfl, rfl⟩ := trodVars_none hV
  have k0 := h0
  obtain ⟨a0, rfl, rfl, rfl, w0⟩ := Go.ChangeMaps.open_string Try.underlying9 (hval 0 9 v0 rfl rfl) h0
  clear hA0 hval0
  refine (law_backW a0 W (by unfold maxLen at w0; omega)).mono fun e W' ⟨he, bel⟩ => ?_
  subst he
  exact ⟨_, rfl, _, _, _, [], _, [], hW', trodAll_mk1 (shut_bool Try.underlying4 _), (trodAll_cons_mk (Go.ChangeMaps.shut_string Try.underlying9 w0) trodAll_mk0), rfl, bel.frame _, fun h => by cases h⟩

theorem lexerBack_over : Rows.lexerBackRow.holds Try.pinned (OpenSpec.ofChange Rows.lexerBackSpec) :=
  OpenClaim.holds_of_wide 4 Try.f4 rfl rfl rfl rfl rfl rfl rfl ⟨rfl, rfl, rfl, rfl, rfl⟩ rfl rfl rfl rfl rfl (by kernel_rfl) Try.func4 (by kernel_rfl)
    (of_decide_eq_true (by kernel_rfl)) (by unfold Func.isWrapper; first | (rw [if_pos (by decide +kernel)]; kernel_rfl) | (rw [if_neg (by decide +kernel)]; exact ⟨rfl, rfl⟩))
    (fun os started H enc _ => lexerBack_lifted os started H enc)

theorem lexerBack_holds : Rows.LexerBackSaid := lexerBack_over
#print axioms lexerBack_holds
end Go.Proofs.Ytjnpclpjdlimaaa
