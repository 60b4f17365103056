/- The law's spoil: it writes integers into operations and their steps, and nothing else. -/
import Derived.Test.YtgjpdfolnkjhfaaSpoilt
import Derived.Test.YtgjpdfolnkjhfaaOrder
import Derived.Test.YtgjpdfolnkjhfaaProg
namespace Go.Proofs.Ytgjpdfolnkjhfaa
open Go.RowKit

set_option maxHeartbeats 2000000 in
set_option maxRecDepth 100000 in
theorem spoil6_any (S : Nat → Prop) (v : Value) (ps : List (OpD × Value)) (w : World) (ho : OpsIn S w v ps) (fo : Free S w v) (fp : ∀ p ∈ ps, Free S w p.2) :
    Calls Try.prog 36 #[v] w fun e w' => e = .returned (.tuple #[]) ∧ Turned S w w' := by
  obtain ⟨oA, oc, rfl, hoc, hoc2, _⟩ := FlatAt.shape ho.1
  unfold maxLen at hoc2
  have HOO : Hid (∀ k, k < ps.length → ∃ b off x xA xn xc, oA = some ⟨b, off, none⟩ ∧ S b ∧ w.cell? ⟨b, off + k * 10, none⟩ = some (.int .i64 x) ∧ (∀ j, w.frozen? ⟨b, j, none⟩ = false) ∧
      w.cell? ⟨b, off + k * 10 + 4, none⟩ = some (.slice xA xn xc) ∧ xn ≤ xc ∧ xc ≤ 2 ^ 63 - 1 ∧
      ∀ l, l < xn → ∃ b2 off2 x2, xA = some ⟨b2, off2, none⟩ ∧ S b2 ∧ w.cell? ⟨b2, off2 + l * 6 + 3, none⟩ = some (.int .i64 x2) ∧ (∀ j, w.frozen? ⟨b2, j, none⟩ = false)) := fun k hk => by
    obtain ⟨x, xs, b, off, c, hx, hv, _, hS, hb, hr, hxs⟩ := OpsIn.at_ ho hk
    obtain ⟨rfl, rfl⟩ : oA = some ⟨b, off, none⟩ ∧ oc = c := by injection hv with e1 _ e3; exact ⟨e1, e3⟩
    obtain ⟨r0, _, _, _, r4, _⟩ := range_op hr
    obtain ⟨xA, xc, rfl, hxc, hxc2, _⟩ := FlatAt.shape hxs
    unfold maxLen at hxc2
    refine ⟨b, off, _, xA, _, xc, rfl, hS, r0, fun j => fo.frozen b off _ _ rfl j, r4, hxc, hxc2, fun l hl => ?_⟩
    obtain ⟨st, b2, off2, c2, _, hv2, _, hS2, hb2, hr2⟩ := StepsAt.at_ hxs hl
    obtain ⟨rfl, rfl⟩ : xA = some ⟨b2, off2, none⟩ ∧ xc = c2 := by injection hv2 with e1 _ e3; exact ⟨e1, e3⟩
    exact ⟨b2, off2, _, rfl, hS2, (range_step hr2).2.2.2.1, fun j => (fp _ (List.mem_of_getElem? hx)).frozen b2 off2 _ _ rfl j⟩
  obtain ⟨no, hno⟩ : ∃ n, ps.length = n := ⟨_, rfl⟩
  rw [hno] at HOO hoc ⊢
  clear ho fo fp hno
  go_enter Try.func36, Try.ntmps36
  go_wp2
  go_loopw [6] (fun j wr => ∃ k : Nat, k ≤ no ∧ j = .int .i64 (k : Int) ∧ Spoilt S w wr) (fun j _ => no - (Go.RowKit.intOf j).toNat)
  case atStart => exact ⟨0, by omega, rfl, Spoilt.refl S w⟩
  case round =>
    obtain ⟨k, hk, rfl, hrel⟩ := hrel
    have REL := hide hrel
    clear hrel
    by_cases hkn : k < no
    · obtain ⟨b, off, x, xA, xn, xc, rfl, hS, hc, hf, hx, hxc, hxc2, hel⟩ := HOO.out k hkn
      obtain ⟨y, hy⟩ := REL.out.int hc
      have hfr := REL.out.frozen b (off + k * 10) (hf _)
      have HS1 := hide hS
      have HY := hide hy
      have HX := hide hx
      have HEL := hide hel
      have REL2 : Hid (∀ z, Spoilt S w (wr.setCell ⟨b, off + k * 10, none⟩ (.int .i64 z))) := fun z => REL.out.store HY.out HS1.out z
      have h4 : Hid (∀ z, (wr.setCell ⟨b, off + k * 10, none⟩ (.int .i64 z)).cell? ⟨b, off + k * 10 + 4, none⟩ = some (.slice xA xn xc)) := fun z => (REL2.out z).slice HX.out
      have h4' : wr.cell? ⟨b, off + k * 10 + 4, none⟩ = some (.slice xA xn xc) := REL.out.slice HX.out
      clear hc hf hS hx hel
      go_wp2
      rename_i KK hKK
      clear h4' hy hfr
      go_loopw [24] (fun j w' => ∃ q : Nat, q ≤ xn ∧ j = .int .i64 (q : Int) ∧ Spoilt S w w') (fun j _ => xn - (Go.RowKit.intOf j).toNat)
      case atStart => exact ⟨0, by omega, rfl, REL2.out _⟩
      case round =>
        obtain ⟨q, hq, rfl, hrel⟩ := hrel
        have RELQ := hide hrel
        clear hrel
        by_cases hqn : q < xn
        · obtain ⟨b2, off2, x2, rfl, hS2, hc2, hf2⟩ := HEL.out q hqn
          obtain ⟨y2, hy2⟩ := RELQ.out.int hc2
          have hfr2 := RELQ.out.frozen b2 (off2 + q * 6 + 3) (hf2 _)
          have hsl := RELQ.out.slice HX.out
          have HS3 := hide hS2
          have HY2 := hide hy2
          clear hc2 hf2 hS2
          go_wp2
          all_goals go_roundw
          case rel => exact ⟨q + 1, by omega, by go_num, RELQ.out.store HY2.out HS3.out _⟩
          case measure => simp [Go.RowKit.intOf]; omega
        · go_wp2
          all_goals go_roundw
          case rel => exact ⟨k + 1, by omega, by go_num, RELQ.out⟩
          case measure => simp [Go.RowKit.intOf]; omega
    · go_wp2
      go_end0
      exact ⟨rfl, REL.out.turned⟩
end Go.Proofs.Ytgjpdfolnkjhfaa
