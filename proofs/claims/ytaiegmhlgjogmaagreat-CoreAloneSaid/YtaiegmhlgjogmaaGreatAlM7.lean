/- The law droverlaw11.CoreAlone is true at every two numbers, number of ticks and operations: one node of several, that hears nobody, commits nothing, and changes views one by one. -/
import Derived.Test.YtaiegmhlgjogmaaGreatAlM1
import Derived.Test.YtaiegmhlgjogmaaGreatAlM2
import Derived.Test.YtaiegmhlgjogmaaGreatAlM3
import Derived.Test.YtaiegmhlgjogmaaGreatAlM4
import Derived.Test.YtaiegmhlgjogmaaGreatAlM5
import Derived.Test.YtaiegmhlgjogmaaGreatAlM6
import Derived.Test.YtaiegmhlgjogmaaGreatRows
import Derived.ProofKit
import Derived.OpenShut
import Derived.ShutString
import Derived.ChangeOld
/- The walk over the law CoreAlone. -/
namespace Go.Proofs.YtaiegmhlgjogmaaGreat
open Go.RowKit Go.Maps

/-- A message of operations alone. -/
def opsM (l : List OpD) : MsgD := { MsgD.zero with ops := l }
theorem opsM_wf {l : List OpD} (h : ∀ o ∈ l, o.wf) : (opsM l).wf := by
  simp only [MsgD.wf, opsM, MsgD.zero, OpD.zero, OpD.wf, I64]
  exact ⟨by decide, by decide, by decide, by decide, by decide, by decide, by decide, by decide, by decide, ⟨by decide, by decide, by decide, by decide, by simp, by decide, by decide, by decide⟩, by decide, by decide, by decide, by decide, by decide, by decide, by decide, by decide, by decide, h, by simp⟩

theorem field_view (a b c d e : Int) (w : World) : (Instr.field 76 (.agg #[.int .i64 a, .int .i64 b, .int .i64 c, .int .i64 d, .int .i64 e]) 3).run Tryz.prog w = .ok (.int .i64 d) w := by kernel_rfl
theorem field_last (a b c d e : Int) (w : World) : (Instr.field 76 (.agg #[.int .i64 a, .int .i64 b, .int .i64 c, .int .i64 d, .int .i64 e]) 4).run Tryz.prog w = .ok (.int .i64 e) w := by kernel_rfl
theorem Proposed.ret {x : RepD} {o : OpD} {c : Nat → Nat} {w w' : World} {e : Ending} (h : Proposed x o c w e w') : ∃ t, e = .returned t := by
  unfold Proposed at h
  split at h
  · exact ⟨_, h⟩
  · split at h
    · obtain ⟨v, _, h⟩ := h
      exact ⟨_, h⟩
    · exact ⟨_, h⟩

set_option maxHeartbeats 16000000 in
set_option maxRecDepth 100000 in
theorem law_alone (U V T : Nat) (v : Value) (l : List OpD) (w : World) (hU : U < 18446744073709551616) (hV : V < 18446744073709551616) (hT : T < 18446744073709551616) (h : OpsAt (· < w.heap.size) w v l) (wl : ∀ o ∈ l, o.wf) :
    Calls Tryz.prog 10 #[.agg #[.int .u64 (U : Int), .int .u64 (V : Int)], .int .u64 (T : Int), v] w fun e w' => e = .returned (.bool true) ∧ Below w.heap.size w w' := by
  obtain ⟨W, hW⟩ : ∃ W, W = w.alloc (.cells #[.int .u64 (U : Int), .int .u64 (V : Int)] 81 (0, 0)) := ⟨_, rfl⟩
  have LB : Hid (Later w W) := by rw [hW]; exact (Below.refl _ _).alloc (Nat.le_refl _) _
  have XB : W.heap[w.heap.size]? = some (.cells #[.int .u64 (U : Int), .int .u64 (V : Int)] 81 (0, 0)) := by rw [hW]; exact heap_alloc_new _ _
  have b0 : W.cell? ⟨w.heap.size, 0, none⟩ = some (.int .u64 (U : Int)) := cell_of_row W _ 0 _ _ _ XB
  have b1 : W.cell? ⟨w.heap.size, 1, none⟩ = some (.int .u64 (V : Int)) := cell_of_row W _ 1 _ _ _ XB
  obtain ⟨ps, hps, hop⟩ := h
  obtain ⟨A, cp, rfl, _, hcp, _⟩ := FlatAt.shape hop.1
  have hln : ps.length = l.length := by rw [← hps, List.length_map]
  have HI := hide hop
  have HPS := hide hps
  have CS0 : Hid (∀ w', Later w w' → Calls Tryz.prog 32 #[.agg ((opsM l).cells (.slice none 0 0) (.slice A ps.length cp) (.slice none 0 0)).toArray, .int .i64 200] w' (CountsN 200 (opsM l) w')) := fun w' hl =>
    stepsn_any 200 (by decide) (by decide) (· < w.heap.size) (opsM l) _ _ _ w' (opsM_wf wl) ⟨StepsAt.nil_ _ _, ⟨ps, hps, hop.kept (Kept.of_below hl _)⟩, IncsAt.nil_ _ _⟩
  have CS := hide CS0.out
  simp only [MsgD.cells, opsM, MsgD.zero, OpD.zero] at CS
  have LIVE : Hid (∀ w', Calls Tryz.prog 12 #[] w' fun e w'' => e = .returned (.bool true) ∧ Later w' w'') := lives_any
  unfold maxLen at hcp
  obtain ⟨N, hN⟩ : ∃ N, ps.length = N := ⟨_, rfl⟩
  have HN := hide hN
  have HLN := hide hln
  rw [hN] at CS ⊢
  obtain ⟨b, hb⟩ : ∃ b, b = V % 4 := ⟨_, rfl⟩
  have hb4 : b < 4 := by omega
  have hb2 : (V : Int) % 4 = (b : Int) := by omega
  obtain ⟨a, ha⟩ : ∃ a, a = U % (2 + b) := ⟨_, rfl⟩
  have ha4 : a < 2 + b := by rw [ha]; exact Nat.mod_lt _ (by omega)
  have ha2 : (U : Int) % (2 + (b : Int)) = (a : Int) := by rw [ha, Int.natCast_emod, Int.natCast_add]; rfl
  obtain ⟨m, hm⟩ : ∃ m, m = T % 100 := ⟨_, rfl⟩
  have hm4 : m < 100 := by omega
  have hm2 : (T : Int) % 100 = (m : Int) := by omega
  have CN := hide (new_any (q := 0) (n := 2 + b) (id := 1 + (a : Int)) (w := W.drew) (col := fun _ => 0) (fun _ _ => rfl) (fun i e => by have e : 0 < (0 : Nat) ∧ (0 : Nat) ≤ 0 + 5 := e; omega) ⟨by omega, by omega⟩ ⟨by omega, by omega⟩)
  rw [show ((2 + b : Nat) : Int) = 2 + (b : Int) from by omega] at CN
  have LD : Hid (Later w W.drew) := LB.out.trans (Later.drew W)
  clear hop hps hln wl XB ha hb hm hN CS0
  go_enter Tryz.func10, Tryz.ntmps10
  go_wp2
  rw [← hW]
  clear hW
  go_region
  go_wp2_with (fail)
  refine CN.out.mono ?_
  rintro e w1 ⟨r, p, c1, iv, rfl, hmd⟩
  have HONE := hide (One.made hmd)
  have HCALM : Hid (Calm (newR (1 + (a : Int)) (2 + b) iv) 0) := calm_new _ _ _
  clear hmd CN b0 b1 hb2 ha2
  by_cases h30 : 30 < N
  · go_wp2_with (fail)
    refine (LIVE.out _).mono ?_
    rintro e w2 ⟨rfl, hl⟩
    have HL := hide hl
    clear hl
    go_wp2
    go_ret
    exact ⟨rfl, (LD.out.trans HONE.out.later).trans HL.out⟩
  have CS1 := hide (CS.out w1 (LD.out.trans HONE.out.later))
  clear CS
  go_wp2_with (fail)
  refine CS1.out.mono ?_
  rintro e w2 ⟨z, rfl, hlight, hl2⟩
  have HONE2 := hide (HONE.out.on hl2)
  have HLI := hide hlight
  clear hlight hl2 HONE CS1
  by_cases hz : z ≤ 200
  · have hlg := HLI.out hz
    have HSTEP : Hid (∀ o ∈ l, o.steps.length ≤ 200) := fun o ho => by have := hlg.2.2 o ho; omega
    clear hlg HLI
    go_wp2
    go_loopw [52] (fun j wr => ∃ (k : Nat) (ck : Nat → Nat) (x : RepD), k ≤ N ∧ j = .int .i64 (k : Int) ∧ One W.drew ck wr W.drew.heap.size r p x 1 ∧ Calm x 0) (fun j _ => N - (Go.RowKit.intOf j).toNat)
    case atStart => exact ⟨0, c1, _, by omega, rfl, HONE2.out, HCALM.out⟩
    case round =>
      obtain ⟨k, ck, x, hk, rfl, ho, hc⟩ := hrel
      have HO := hide ho
      have HC := hide hc
      clear ho hc HONE2 HCALM
      by_cases hlt : k < N
      · obtain ⟨o, s, bb, off, c', hx, hv, _, _, _, hr, hst⟩ := OpsIn.at_ (HI.out.kept (Kept.of_below (LD.out.trans HO.out.later) _)) (i := k) (by rw [HN.out]; exact hlt)
        rw [HN.out] at hv
        obtain ⟨rfl, rfl⟩ : A = some ⟨bb, off, none⟩ ∧ cp = c' := by injection hv with e1 _ e3; exact ⟨e1, e3⟩
        obtain ⟨r0, r1, r2, r3, r4, r5, r6, r7, r8, r9⟩ := range_op hr
        have hol : o ∈ l := by rw [← HPS.out]; exact List.mem_map.2 ⟨(o, s), List.mem_of_getElem? hx, rfl⟩
        have hsl := HSTEP.out o hol
        have hwd : w.heap.size ≤ W.drew.heap.size := Below.size LD.out
        obtain ⟨sA, sc, rfl, _, _, _⟩ := FlatAt.shape hst
        have CP := hide (fun w' (hl : Later wr w') => propose_any (HO.out.a.later hl) ((hst.mono fun i _ hi => HO.out.old i (Nat.lt_of_lt_of_le hi hwd)).kept (Kept.of_below hl _)) hsl)
        unfold OpD.cells at CP
        clear hx hv hr hst hol hsl hwd
        go_wp2_with (fail)
        refine (CP.out _ ((Below.refl _ _).alloc (Nat.le_refl _) _)).mono ?_
        rintro e w4 ⟨c4, hs4, hp4⟩
        obtain ⟨t4, rfl⟩ := hp4.ret
        have HO4 := hide ((HO.out.on ((Below.refl _ _).alloc (Nat.le_refl _) _)).next hs4)
        clear hs4 hp4 CP r0 r1 r2 r3 r4 r5 r6 r7 r8 r9
        go_wp2
        go_roundw
        case rel => exact ⟨k + 1, c4, _, by omega, by go_num, HO4.out, HC.out.add o⟩
        case measure => simp [Go.RowKit.intOf]; omega
      · clear HSTEP HI HPS
        go_wp2
        clear hlt hk
        go_loopw [13, 14] (fun was j wr => ∃ (k : Nat) (ck : Nat → Nat) (x : RepD) (v : Int) (g : Nat), k ≤ m ∧ was = .int .i64 v ∧ j = .int .i64 (k : Int) ∧ One W.drew ck wr W.drew.heap.size r p x g ∧ Calm x v ∧ 0 ≤ v ∧ v ≤ k ∧ g ≤ 1 + 4 * k) (fun _ j _ => m - (Go.RowKit.intOf j).toNat)
        case atStart => exact ⟨0, ck, x, 0, 1, by omega, rfl, rfl, HO.out, HC.out, by omega, by omega, by omega⟩
        case round =>
          obtain ⟨i, ci, y, v, g, hi, rfl, rfl, hone, hcalm, hv0, hvi, hgi⟩ := hrel
          have HONE := hide hone
          have HCALM := hide hcalm
          clear hone hcalm HO HC
          by_cases him : i < m
          · obtain ⟨due, tm, hT⟩ := HCALM.out.timer
            obtain ⟨v', hv', hcm⟩ := HCALM.out.tick hT
            have CT := hide (tick_any HONE.out.a hT (by rw [HCALM.out.view]; omega) (by omega))
            have HCM := hide hcm
            clear hcm hT HCALM
            have h74 : ¬ v' < v := by omega
            have h79 : ¬ v + 1 < v' := by omega
            have hw1 : IntKind.i64.wrap (v + 1) = v + 1 := IntWalk.i64_in _ (by omega)
            have hw2 : IntKind.i64.wrap ((i : Int) + 1) = (i : Int) + 1 := IntWalk.i64_in _ (by omega)
            have hb1 : 0 ≤ v' ∧ v' ≤ (i : Int) + 1 := by omega
            have fv := field_view
            have fl := field_last
            clear hv'
            go_wp2_with (fail)
            refine CT.out.mono ?_
            rintro e w4 ⟨c4, hs4, u4, ps4, base4, rfl, _⟩
            have HO4 := hide (HONE.out.next hs4)
            have CSt := hide (rstatus_any HO4.out.a)
            rw [HCM.out.view, HCM.out.last] at CSt
            clear hs4 CT HONE
            go_wp2_with (fail)
            refine CSt.out.mono ?_
            rintro e w5 ⟨rfl, hl5⟩
            have HO5 := hide (HO4.out.on hl5)
            have CC := hide (rcommitted_any HO5.out.a)
            rw [HCM.out.com] at CC
            have CSt2 := hide (rstatus_any HO5.out.a)
            rw [HCM.out.view, HCM.out.last] at CSt2
            clear hl5 CSt HO4
            go_wp2_with (fail)
            refine CC.out.mono ?_
            rintro e w6 ⟨rfl, rfl⟩
            go_wp2_with (fail)
            refine CSt2.out.mono ?_
            rintro e w6 ⟨rfl, hl6⟩
            have HO6 := hide (HO5.out.on hl6)
            clear hl6 CSt2 CC HO5
            go_wp2
            go_roundw
            case rel => exact ⟨i + 1, c4, _, v', g + 4, by omega, rfl, by go_num, HO6.out, HCM.out, by omega, by omega, by omega⟩
            case measure => simp [Go.RowKit.intOf]; omega
          · have CTk := hide (take_none HONE.out.a (by rw [HCALM.out.taken, HCALM.out.com]))
            go_wp2_with (fail)
            refine CTk.out.mono ?_
            rintro e w4 ⟨rfl, hl4⟩
            have HL4 := hide hl4
            clear hl4 CTk
            go_wp2_with (fail)
            refine (LIVE.out _).mono ?_
            rintro e w5 ⟨rfl, hl5⟩
            have HL5 := hide hl5
            clear hl5
            go_wp2
            go_ret
            exact ⟨rfl, ((LD.out.trans HONE.out.later).trans HL4.out).trans HL5.out⟩
  · go_wp2_with (fail)
    refine (LIVE.out _).mono ?_
    rintro e w3 ⟨rfl, hl⟩
    have HL := hide hl
    clear hl
    go_wp2
    go_ret
    exact ⟨rfl, (LD.out.trans HONE2.out.later).trans HL.out⟩
end Go.Proofs.YtaiegmhlgjogmaaGreat
/- From what a row says of arguments that came in to what the walks are told of them. -/
namespace Go.Proofs.YtaiegmhlgjogmaaGreat
open Go.RowKit Go.WideShapes

section
variable {H : Type} {enc : TypeId × Value → H} {W : World}
theorem trod_array2 {P : Program} {t e : TypeId} {fuel : Nat} {c0 c1 : Value} {base : Nat} {spare : Nat → Bool} {held : Bool} {x : DataW H × List MemPlace} (ht : P.underlying t = some (.array 2 e)) (hce : P.cellsOf e = 1)
    (h : DataW.trod enc P W base spare held fuel t [c0, c1] = some x) :
    ∃ y0 y1 n, x = (.agg [y0.1, y1.1], y0.2 ++ y1.2) ∧ DataW.trod enc P W base spare held n e [c0] = some y0 ∧ DataW.trod enc P W base spare held n e [c1] = some y1 := by
  cases fuel with
  | zero => simp [DataW.trod] at h
  | succ n =>
    unfold DataW.trod at h
    rw [ht] at h
    have r2 : List.range 2 = [0, 1] := rfl
    simp [r2, hce] at h
    obtain ⟨_, h⟩ := h
    cases h0 : DataW.trod enc P W base spare held n e [c0] with
    | none => simp [h0] at h
    | some y0 =>
      cases h1 : DataW.trod enc P W base spare held n e [c1] with
      | none => simp [h0, h1] at h
      | some y1 =>
        simp [h0, h1] at h
        exact ⟨y0, y1, n, h.symm, h0, h1⟩
set_option maxRecDepth 100000 in
theorem arg_pair {v : Value} {d : DataW H} {p : List MemPlace} {base : Nat} (hv : Value.okWide Tryz.prog W .any base 81 v) (h : DataW.Trod enc Tryz.prog W 0 (fun _ => true) true 81 v d p) :
    ∃ U V : Nat, v = .agg #[.int .u64 (U : Int), .int .u64 (V : Int)] ∧ U < 18446744073709551616 ∧ V < 18446744073709551616 := by
  simp only [Value.okWide, Tryz.underlying81] at hv
  obtain ⟨cs, rfl, hsz, _⟩ := hv
  have hsz : cs.size = 2 := hsz
  obtain ⟨fuel, hf⟩ := h
  rcases cs with ⟨l⟩
  match l, hsz with
  | [c0, c1], _ =>
    obtain ⟨y0, y1, n, _, h0, h1⟩ := trod_array2 Tryz.underlying81 (by kernel_rfl) hf
    obtain ⟨a, ha, _, wa⟩ := DataW.trod_int Tryz.underlying48 h0
    obtain ⟨b, hb, _, wb⟩ := DataW.trod_int Tryz.underlying48 h1
    have ba := bounds_u64 wa
    have bb := bounds_u64 wb
    simp only [List.cons.injEq, and_true] at ha hb
    subst ha hb
    obtain ⟨U, rfl⟩ := Int.eq_ofNat_of_zero_le ba.1
    obtain ⟨V, rfl⟩ := Int.eq_ofNat_of_zero_le bb.1
    exact ⟨U, V, rfl, by omega, by omega⟩
set_option maxRecDepth 100000 in
theorem arg_ops {A : Option Addr} {len cap : Nat} {d : DataW H} {p : List MemPlace} (h : DataW.Trod enc Tryz.prog W 0 (fun _ => true) true 39 (.slice A len cap) d p) (hs : Sm 39 d) : ∃ l : List OpD, OpsAt (· < W.heap.size) W (.slice A len cap) l ∧ ∀ o ∈ l, o.wf := by
  obtain ⟨fuel, hf⟩ := h
  exact open_ops (n := fuel) (x := (d, p)) hf hs
end
end Go.Proofs.YtaiegmhlgjogmaaGreat
namespace Go.Proofs.YtaiegmhlgjogmaaGreat
open Go.ChangeShapes Go.WideShapes Go.ChangeAt Go.RowKit

theorem coreAlone_lawKnobs : ownKnob Tryz.prog.godebug = none := by kernel_rfl
theorem coreAlone_allLaid : laidOutB Tryz.prog = true := by kernel_rfl

set_option maxRecDepth 100000 in
set_option maxHeartbeats 1000000 in
theorem coreAlone_lifted (os : Os) (started : os.Started) (H : Type) (enc : TypeId × Value → H) :
    ReturnsInHanded {} Tryz.checked os 10 .any (Rows.coreAloneSpec.pre6 enc Tryz.prog Tryz.f10 Rows.coreAloneRow.domain false) (Rows.coreAloneSpec.post enc Tryz.prog Tryz.f10 false true false false) := by
  refine returnsInHanded_of_change_sized (C := Tryz.checked) coreAlone_lawKnobs started (by kernel_rfl) Tryz.func10
    (ChangeSpec.witness6 (enc := enc) (C := Tryz.checked) false ⟨#[], #[.agg #[.int .u64 0, .int .u64 0], .int .u64 0, .slice none 0 0], []⟩ 8 (by kernel_rfl) (by kernel_rfl) (by kernel_rfl) (by kernel_rfl)) ?_
  intro W base args ds gs before hval0 hW hcnd hsz _
  have hval : ∀ (j : Nat) t v, Tryz.f10.params[j]? = some t → args[j]? = some v → Value.okWide Tryz.prog W .any base t v := hval0
  have hW' := hW
  obtain ⟨p, q, hA0, hV, rfl, _, _⟩ := hW
  have hA : DataW.TrodAll enc Tryz.prog W 0 (fun _ => true) true Tryz.f10.params.toList args.toList ds p := hA0
  rw [Tryz.params10] at hA hval
  obtain ⟨v0, vs0, d0, ds0, p0, q0, hargs, rfl, rfl, h0, r0⟩ := trodAll_cons hA
  obtain ⟨v1, vs1, d1, ds1, p1, q1, rfl, rfl, rfl, h1, r1⟩ := trodAll_cons r0
  obtain ⟨v2, vs2, d2, ds2, p2, q2, rfl, rfl, rfl, h2, r2⟩ := trodAll_cons r1
  obtain ⟨rfl, rfl, rfl⟩ := trodAll_nil r2
  obtain rfl : args = #[v0, v1, v2] := by cases args; simp_all
  obtain ⟨rfl, rfl⟩ := trodVars_none hV
  have k0 := h0
  have lt0 : ∀ x ∈ p0, x.block < W.heap.size := by obtain ⟨m, hm⟩ := k0; exact DataW.trod_lt m _ _ _ hm
  obtain ⟨U0, V0, rfl, hU0, hV0⟩ := arg_pair (hval 0 81 v0 rfl rfl) h0
  have k1 := h1
  obtain ⟨a1, rfl, rfl, rfl, w1⟩ := open_int Tryz.underlying48 (hval 1 48 v1 rfl rfl) h1
  have b1 := bounds_u64 w1
  obtain ⟨V1, rfl⟩ := Int.eq_ofNat_of_zero_le b1.1
  have k2 := h2
  have lt2 : ∀ x ∈ p2, x.block < W.heap.size := by obtain ⟨m, hm⟩ := k2; exact DataW.trod_lt m _ _ _ hm
  have s2 : Sm 39 d2 := sm_of hsz (j := 2) rfl rfl
  obtain ⟨A2, len2, cap2, rfl⟩ := okWide_slice Tryz.underlying39 (hval 2 39 v2 rfl rfl)
  obtain ⟨l2, hl2, wf2⟩ := arg_ops h2 s2
  clear hA0 hval0
  refine (law_alone U0 V0 V1 (.slice A2 len2 cap2) l2 W hU0 hV0 (by omega) hl2 wf2).mono fun e W' ⟨he, bel⟩ => ?_
  subst he
  exact ⟨_, rfl, _, _, _, [], _, [], hW', trodAll_mk1 (shut_bool Tryz.underlying4 _), (trodAll_cons_mk (Below.trod coreAlone_allLaid (by kernel_rfl) (of_decide_eq_true (by kernel_rfl)) k0 bel lt0) (trodAll_cons_mk (shut_int Tryz.underlying48 w1) (trodAll_cons_mk (Below.trod coreAlone_allLaid (by kernel_rfl) (of_decide_eq_true (by kernel_rfl)) k2 bel lt2) trodAll_mk0))), rfl, bel.frame _, fun h => by cases h⟩

set_option maxRecDepth 100000 in
theorem coreAlone_over : Rows.coreAloneRow.holds Tryz.pinned (OpenSpec.ofChange Rows.coreAloneSpec) :=
  OpenClaim.holds_of_wide 10 Tryz.f10 rfl rfl rfl rfl rfl rfl rfl ⟨rfl, rfl, rfl, rfl, rfl⟩ rfl rfl rfl rfl rfl (by kernel_rfl) Tryz.func10 (by kernel_rfl)
    (of_decide_eq_true (by kernel_rfl)) (by unfold Func.isWrapper; first | (rw [if_pos (by decide +kernel)]; kernel_rfl) | (rw [if_neg (by decide +kernel)]; exact ⟨rfl, rfl⟩))
    (fun os started H enc _ => coreAlone_lifted os started H enc)

theorem coreAlone_holds : Rows.CoreAloneSaid := coreAlone_over
#print axioms coreAlone_holds
end Go.Proofs.YtaiegmhlgjogmaaGreat
