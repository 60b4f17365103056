/- The walk over droverlaw06.OplogOwn: what is kept and told is new memory: who writes to it changes nothing. -/
import Derived.Test.YtgjpdfolnkjhfaaLives6
import Derived.Test.YtgjpdfolnkjhfaaSpoil6
import Derived.Test.YtgjpdfolnkjhfaaRefCopyN
namespace Go.Proofs.Ytgjpdfolnkjhfaa
open Go.RowKit

theorem own_join (l : List OpD) (h : l.length ≤ 300) : joinR [] 0 0 l = (l, 0) := by
  unfold joinR
  rw [if_neg (by simp), if_neg (by simp; omega)]
  simp
theorem field_ops (l : List OpD) (s o i : Value) (w : World) : (Instr.field 63 (.agg ((opsMsg l).cells s o i).toArray) 15).run Try.prog w = .ok o w := by kernel_rfl
/-- What was told may be spoilt: it lies in blocks of its own. -/
theorem told_spoil {a b : World} {v : Value} {rs : List (OpD × Value)} (h : OpsFree (a.heap.size ≤ ·) b v rs) : OpsFree (fun i => a.heap.size ≤ i ∧ i < b.heap.size) b v rs := h.mono fun _ hi hf => ⟨hf, hi⟩
theorem below_turned {w a b : World} {S : Nat → Prop} (hb : Below w.heap.size w a) (ht : Turned S a b) (hs : ∀ i, S i → w.heap.size ≤ i) : Below w.heap.size w b := hb.trans (ht.below hs hb.size)

set_option maxHeartbeats 4000000 in
set_option maxRecDepth 100000 in
theorem law_own (F : Nat → Prop) (v : Value) (l : List OpD) (w : World) (h0 : OpsAt F w v l) (hw : ∀ o ∈ l, o.wf) :
    Calls Try.prog 6 #[v] w fun e w' => e = .returned (.bool true) ∧ Below w.heap.size w w' := by
  have h : OpsAt (· < w.heap.size) w v l := h0.mono fun i hi _ => hi
  clear h0
  have S1 := hide (small_any _ v l w h hw)
  have HI : Hid (∀ w', Below w.heap.size w w' → OpsAt (· < w.heap.size) w' v l) := fun w' hb => h.kept (Kept.of_below hb _)
  have LIVE : Hid (∀ w', Calls Try.prog 11 #[] w' fun e w'' => e = .returned (.bool true) ∧ Below w'.heap.size w' w'') := lives_any
  obtain ⟨A, c, rfl, hA1, hA2⟩ : ∃ A c, v = .slice A l.length c ∧ l.length ≤ c ∧ c ≤ maxLen := by
    obtain ⟨ps, e, h2⟩ := h
    obtain ⟨A, c, e2, e3, e4, _⟩ := FlatAt.shape h2.1
    rw [← e, List.length_map]
    exact ⟨A, c, e2, e3, e4⟩
  unfold maxLen at hA2
  clear h hw
  go_enter Try.func6, Try.ntmps6
  go_wp2_with (fail)
  refine S1.out.mono ?_
  rintro e w1 ⟨b1, rfl, hsm, hb1⟩
  have B1 : Hid (Below w.heap.size w w1) := hb1
  have HSM := hide hsm
  clear hb1 S1 hsm
  cases b1 with
  | false =>
    go_wp2_with (fail)
    refine (LIVE.out _).mono ?_
    rintro e w2 ⟨rfl, hb2⟩
    have B2 := hide (B1.out.trans (hb2.mono B1.out.size))
    clear hb2
    go_wp2
    go_ret
    exact ⟨rfl, B2.out⟩
  | true =>
    have HS2 : Hid (SmallOps l) := HSM.out rfl
    clear HSM
    go_wp2_with (fail)
    refine (lg_new w1).mono ?_
    rintro e w2 ⟨g, S, rfl, hl, hb⟩
    have s1 := B1.out.size
    have s2 := hb.size
    have B2 : Hid (Below w.heap.size w w2) := B1.out.trans (hb.mono s1)
    have C3 : Hid (Calls Try.prog 35 #[.agg ((opsMsg l).cells (.slice none 0 0) (.slice A l.length c) (.slice none 0 0)).toArray] w2 (Owned (opsMsg l) w2)) :=
      hide (refcopyn_own _ (opsMsg l) _ w2 ⟨_, _, _, rfl, StepsAt.nil_ (· < w.heap.size) w2, HI.out w2 B2.out, IncsAt.nil_ _ _⟩ ⟨by simp [opsMsg], by have := HS2.out.1; show l.length ≤ 1000; omega, fun o ho => by have := HS2.out.2 o ho; omega⟩ (by simp [opsMsg]))
    have HL := hide hl
    clear hl hb
    unfold MsgD.cells opsMsg at C3
    simp only at C3
    go_wp2_with (fail)
    refine C3.out.mono ?_
    rintro e w3 ⟨sO, oO, iO, qs, rfl, hfree, hb3⟩
    obtain ⟨_, f2, f3, _, _, f6, _, f8⟩ := hfree
    have f3 : qs.map (·.1) = l := f3
    obtain ⟨A3, c3, rfl, g31, g32, _⟩ := FlatAt.shape f2.1
    have hql : qs.length = l.length := by rw [← f3, List.length_map]
    rw [hql] at f2 f6 g31
    unfold maxLen at g32
    have s3 := hb3.size
    have B3 : Hid (Below w.heap.size w w3) := B2.out.trans (hb3.mono B2.out.size)
    have HL3 := hide (HL.out.below hb3)
    have C4 := hide (lg_join 0 _ l HL3.out ⟨qs, f3, f2⟩ HS2.out.mild)
    rw [own_join l HS2.out.1] at C4
    have F2 := hide (f2.mono (G := fun i => w2.heap.size ≤ i ∧ i < w3.heap.size) fun i hi hf => ⟨hf, hi⟩)
    have F6 := hide (f6.mono (G := fun i => w2.heap.size ≤ i ∧ i < w3.heap.size) fun i hi hf => ⟨hf, hi⟩)
    have F8 := hide (fun p hp => (f8 p hp).mono (G := fun i => w2.heap.size ≤ i ∧ i < w3.heap.size) fun i hi hf => ⟨hf, hi⟩)
    have SB : Hid (∀ i, S i → w1.heap.size ≤ i ∧ i < w2.heap.size) := HL.out.1
    clear f2 f3 f6 f8 hb3 C3 HL
    unfold MsgD.cells
    simp only
    rw [hql]
    have hfd := field_ops l sO (.slice A3 l.length c3) iO
    unfold MsgD.cells opsMsg at hfd
    simp only at hfd
    go_wp2_with (fail)
    refine C4.out.mono ?_
    rintro e w4 ⟨rfl, T, hl, hT, ht⟩
    have s4 := ht.size
    have B4 : Hid (Below w.heap.size w w4) := below_turned B3.out ht fun i hi => by have := (SB.out i hi).1; omega
    have K4 : Kept (fun i => w2.heap.size ≤ i ∧ i < w3.heap.size) w3 w4 := ht.kept fun i hi hs => by have := (SB.out i hs).2; omega
    have C5 := hide (spoil6_any _ _ qs w4 (F2.out.kept K4) (F6.out.kept K4) (fun p hp => (F8.out p hp).kept K4))
    have HL4 := hide hl
    have TB : Hid (∀ i, T i → w1.heap.size ≤ i ∧ i < w4.heap.size ∧ ¬ (w2.heap.size ≤ i ∧ i < w3.heap.size)) := fun i hi => ⟨(hl.1 i hi).1, (hl.1 i hi).2, fun hh => by
      rcases hT i hi with h1 | h1
      · have := (SB.out i h1).2
        omega
      · omega⟩
    clear hl hT ht K4 C4 F2 F6 F8 SB
    go_wp2_with (fail)
    refine C5.out.mono ?_
    rintro e w5 ⟨rfl, ht⟩
    have s5 := ht.size
    have B5 : Hid (Below w.heap.size w w5) := below_turned B4.out ht fun i hi => by omega
    have HL5 := hide (HL4.out.later (ht.kept fun i hi hs => (TB.out i hi).2.2 hs))
    have C6 := hide (lg_since 0 HL5.out)
    rw [show l.drop (fromOf l.length 0) = l from by simp [fromOf]] at C6
    clear ht C5 HL4
    go_wp2_with (fail)
    refine C6.out.mono ?_
    rintro e w6 ⟨ht6, hl, ht⟩
    obtain ⟨A6, c6, rs, rfl, hrs, hf6⟩ := ht6.one
    have s6 := ht.size
    have B6 : Hid (Below w.heap.size w w6) := below_turned B5.out ht fun i hi => by have := (TB.out i hi).1; omega
    have C7 := hide (same_ops _ _ _ _ l l w6 ⟨rs, hrs, hf6.ops⟩ (HI.out w6 B6.out))
    rw [decide_eq_true rfl] at C7
    have HF6 := hide (told_spoil hf6)
    have HL6 := hide hl
    clear ht6 hl ht hf6 hrs C6 HL5
    go_wp2_with (fail)
    refine C7.out.mono ?_
    rintro e w7 ⟨rfl, hb7⟩
    have s7 := hb7.size
    have B7 : Hid (Below w.heap.size w w7) := B6.out.trans (hb7.mono B6.out.size)
    have HF7 := hide (HF6.out.kept (Kept.of_below hb7 _))
    have HL7 := hide (HL6.out.below hb7)
    have C8 := hide (spoil6_any _ _ rs w7 HF7.out.ops HF7.out.row HF7.out.steps)
    clear hb7 C7 HF6 HL6
    go_wp2_with (fail)
    refine C8.out.mono ?_
    rintro e w8 ⟨rfl, ht⟩
    have s8 := ht.size
    have B8 : Hid (Below w.heap.size w w8) := below_turned B7.out ht fun i hi => by omega
    have HL8 := hide (HL7.out.later (ht.kept fun i hi hs => by have := (TB.out i hi).2.1; omega))
    have C9 := hide (lg_commit (l.length : Int) HL8.out)
    rw [show comTo 0 l.length (l.length : Int) = l.length from by simp [comTo], show (l.take l.length).drop 0 = l from by simp] at C9
    clear ht C8 HF7 HL7
    go_wp2_with (fail)
    refine C9.out.mono ?_
    rintro e w9 ⟨ht9, hl, ht⟩
    obtain ⟨A9, c9, rs9, rfl, hrs, hf9⟩ := ht9.one
    have s9 := ht.size
    have B9 : Hid (Below w.heap.size w w9) := below_turned B8.out ht fun i hi => by have := (TB.out i hi).1; omega
    have HF9 := hide (told_spoil hf9)
    have C10 := hide (spoil6_any _ _ rs9 w9 HF9.out.ops HF9.out.row HF9.out.steps)
    have HL9 := hide hl
    clear ht9 hl ht hf9 hrs C9 HL8
    go_wp2_with (fail)
    refine C10.out.mono ?_
    rintro e w10 ⟨rfl, ht⟩
    have s10 := ht.size
    have B10 : Hid (Below w.heap.size w w10) := below_turned B9.out ht fun i hi => by omega
    have HL10 := hide (HL9.out.later (ht.kept fun i hi hs => by have := (TB.out i hi).2.1; omega))
    have C11 := hide (lg_since 0 HL10.out)
    rw [show l.drop (fromOf l.length 0) = l from by simp [fromOf]] at C11
    clear ht C10 HF9 HL9
    go_wp2_with (fail)
    refine C11.out.mono ?_
    rintro e w11 ⟨ht11, hl, ht⟩
    obtain ⟨A11, c11, rs11, rfl, hrs, hf11⟩ := ht11.one
    have s11 := ht.size
    have B11 : Hid (Below w.heap.size w w11) := below_turned B10.out ht fun i hi => by have := (TB.out i hi).1; omega
    have C12 := hide (same_ops _ _ _ _ l l w11 ⟨rs11, hrs, hf11.ops⟩ (HI.out w11 B11.out))
    rw [decide_eq_true rfl] at C12
    have HL11 := hide hl
    clear ht11 hl ht hf11 hrs C11 HL10
    go_wp2_with (fail)
    refine C12.out.mono ?_
    rintro e w12 ⟨rfl, hb12⟩
    have B12 : Hid (Below w.heap.size w w12) := B11.out.trans (hb12.mono B11.out.size)
    have C13 := hide (lg_committed (HL11.out.below hb12))
    clear hb12 C12 HL11
    go_wp2_with (fail)
    refine C13.out.mono ?_
    rintro e w13 ⟨rfl, rfl⟩
    have hee : ((l.length : Int) == (l.length : Int)) = true := by simp
    go_wp2_with (fail)
    refine (LIVE.out _).mono ?_
    rintro e w14 ⟨rfl, hb⟩
    have B14 := hide (B12.out.trans (hb.mono B12.out.size))
    clear hb
    go_wp2
    go_ret
    exact ⟨rfl, B14.out⟩
end Go.Proofs.Ytgjpdfolnkjhfaa
