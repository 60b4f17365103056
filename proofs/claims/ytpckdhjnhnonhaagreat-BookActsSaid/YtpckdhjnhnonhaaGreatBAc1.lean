/- Whatever the room, whatever operations are applied and whatever number is looked at: the program's book and the document's tell the same replies, and have the same sagas, counts and statuses behind each; no condition. -/
import Derived.Test.YtpckdhjnhnonhaaGreatBaseK1
import Derived.Test.YtpckdhjnhnonhaaGreatBaseK2
import Derived.Test.YtpckdhjnhnonhaaGreatBaseK3
import Derived.Test.YtpckdhjnhnonhaaGreatBaseK4
import Derived.Test.YtpckdhjnhnonhaaGreatBaseK5
import Derived.Test.YtpckdhjnhnonhaaGreatBaseK6
import Derived.Test.YtpckdhjnhnonhaaGreatBaseK7
import Derived.Test.YtpckdhjnhnonhaaGreatBaseK8
import Derived.Deep.CutBlock
import Derived.Deep.DeepCutAuto
import Derived.Test.YtpckdhjnhnonhaaGreatRows
import Derived.ProofKit
import Derived.OpenShut
import Derived.ShutString
import Derived.ChangeOld
/- BookApart. -/
namespace Go.Proofs.YtpckdhjnhnonhaaGreat
open Go.RowKit Go.Maps
def LawTrue (w : World) (e : Ending) (w' : World) : Prop := e = .returned (.bool true) ∧ Later w w'
section
variable {ops : Array Oper} {rest : List Oper} {op : Oper} {a : Act} {W : World} {Q : Exit → Act → World → Prop} {g : Nat} {o z : OpD} {s sz : Value}
theorem op_put (x y : OpD) (s t : Value) : putAt (x.cells s).toArray 0 (y.cells t) = (y.cells t).toArray := by simp [putAt, OpD.cells]
theorem wpList_store_op (hgd : op.guard = none) (x y : Operand) (ho : op.op = .store 33 x y) (hx : a.eval x = .pointer (some ⟨g, 0, none⟩)) (hg : OBox g z sz W) (hs : s.oneCell' = true) (hy : a.eval y = .agg (o.cells s).toArray)
    (h : ∀ w', OBox g o s w' → W.grownBy w' (some g) → wpList Tryz.prog ops Q rest (a.put op.dst undef) w') : wpList Tryz.prog ops Q (op :: rest) a W :=
  wpList_store_box hgd 33 x y ho g 0 (o.cells s).toArray hx hy _ _ hg (by kernel_rfl) (by exact Nat.le_of_ble_eq_true rfl) (by exact o.one hs) (fun w' hb hg' => h w' (by rw [show (o.cells s).toArray.toList = o.cells s from rfl, op_put] at hb; exact hb) hg')
theorem exec_load_op (x : Operand) (ho : op.op = .load 33 x) (hx : a.eval x = .pointer (some ⟨g, 0, none⟩)) (hg : OBox g o s W) : (execOp a.eval op).run Tryz.prog W = .ok (.value (.agg (o.cells s).toArray)) W :=
  exec_load_box 33 x ho g 0 hx _ _ hg 10 _ Tryz.underlying33 (by rfl) (by kernel_rfl) (o.cells s) (by rfl) (by rfl)
theorem exec_load_row (x : Operand) (ho : op.op = .load 33 x) {b off : Nat} (hx : a.eval x = .pointer (some ⟨b, off, none⟩)) (hr : W.rangeAt b off (o.cells s)) : (execOp a.eval op).run Tryz.prog W = .ok (.value (.agg (o.cells s).toArray)) W :=
  exec_load_range 33 x ho b off hx (o.cells s) hr _ Tryz.underlying33 (by rfl) (by kernel_rfl)
end
section
variable {w : World}
end
end Go.Proofs.YtpckdhjnhnonhaaGreat
/- BookKeeps. -/
namespace Go.Proofs.YtpckdhjnhnonhaaGreat
open Go.RowKit Go.Maps
theorem pre_turned (S : Nat → Prop) : Pre (Turned S) := ⟨fun w => Turned.refl S w, fun h k => h.trans k⟩
section
variable {w : World}
end
end Go.Proofs.YtpckdhjnhnonhaaGreat
/- BookActs. -/
namespace Go.Proofs.YtpckdhjnhnonhaaGreat
open Go.RowKit Go.Maps
section
variable {w : World}
set_option maxHeartbeats 32000000 in
set_option maxRecDepth 100000 in
theorem law_acts {F0 : Nat → Prop} {v : Value} {l : List OpD} (m look : Int) (hm : I64 m) (hlk : I64 look) (hl : OpsAt F0 w v l) (hwl : ∀ x ∈ l, x.wf) :
    Calls Tryz.prog 3 #[.int .i64 m, v, .int .i64 look] w (LawTrue w) := by
  have HLK := hide hlk
  have HO := hide hl
  have HWL := hide hwl
  obtain ⟨ps, hps, hop⟩ := hl
  obtain ⟨A, cp, rfl, _, _, _⟩ := FlatAt.shape hop.1
  have hsmall : ps.length ≤ 9223372036854775807 := by
    obtain ⟨A', c', _, q1, q2, _⟩ := FlatAt.shape hop.1
    unfold maxLen at q2
    omega
  have hln : ps.length = l.length := by rw [← hps, List.length_map]
  have HOP := hide hop
  have HPS := hide hps
  obtain ⟨n, hn⟩ : ∃ n, ps.length = n := ⟨_, rfl⟩
  have HNP := hide hn
  rw [hn] at HO hsmall hln ⊢
  have HN : Hid (l.length = n) := hln.symm
  have HM := hide hm
  have CL1 := hide (light_any (w := w) HO.out HWL.out)
  clear hwl hop hps hln hn hm hlk
  go_enter Tryz.func3, Tryz.ntmps3
  go_wp2_with (fail)
  refine CL1.out.mono ?_
  rintro e w1 ⟨q1, rfl, hq1, hl1⟩
  have L1 : Hid (Later w w1) := hl1
  have HQ1 := hide hq1
  clear hl1 hq1 CL1
  cases q1 with
  | false =>
    go_wp2_with (fail)
    refine (lives_any (w := w1)).mono ?_
    rintro e w9 ⟨rfl, hl⟩
    have La : Later w w1 := L1.out
    have L9 : Hid (Later w w9) := Later.trans La hl
    clear hl La
    go_wp2
    go_ret
    exact ⟨rfl, L9.out⟩
  | true =>
    obtain ⟨h80, hst⟩ := HQ1.out rfl
    rw [HN.out] at h80
    clear hst
    by_cases hr : 0 ≤ m ∧ m ≤ 32
    · have CN := hide (new_yes m w1 hr.1 hr.2)
      have HRG := hide hr
      clear hr
      go_wp2_with (fail)
      refine CN.out.mono ?_
      rintro e w2 ⟨g, b, rfl, hg, hb, hl2, hbk⟩
      have HGB : Hid (w1.heap.size ≤ g ∧ w1.heap.size ≤ b) := ⟨hg, hb⟩
      have HBK := hide hbk
      have L2a : Later w w1 := L1.out
      have L2 : Hid (Later w w2) := Later.trans L2a hl2
      have L12 : Hid (Later w1 w2) := hl2
      clear hg hb hl2 hbk CN L2a
      have CR := hide (rnew_yes m w2 HRG.out.1 HRG.out.2)
      go_wp2_with (fail)
      refine CR.out.mono ?_
      rintro e w3 ⟨g2, rfl, hg2, hl3, hrk⟩
      obtain ⟨FF, hFF⟩ : ∃ FF : Nat → Prop, FF = fun i => i ≠ g ∧ i ≠ b ∧ i ≠ g2 := ⟨_, rfl⟩
      have HFF := hide hFF
      have HB3a := HBK.out FF (by rw [hFF]; exact fun e => e.1 rfl) (by rw [hFF]; exact fun e => e.2.1 rfl)
      have HLB := HB3a.lt
      have HB3 : Hid (BookAt FF w3 g b 0 m ⟨0, []⟩) := HB3a.later hl3
      have HR3 : Hid (RBookAt FF w3 g2 m ⟨0, []⟩) := hrk FF (by rw [hFF]; exact fun e => e.2.2 rfl)
      have HAP : Hid (g ≠ b ∧ g2 ≠ g ∧ g2 ≠ b) := ⟨HB3a.apart.1, by omega, by omega⟩
      have HG2 : Hid (w2.heap.size ≤ g2) := hg2
      have L3a : Later w w2 := L2.out
      have L3 : Hid (Later w w3) := Later.trans L3a hl3
      have HGL : Hid (w.heap.size ≤ g ∧ w.heap.size ≤ b ∧ w.heap.size ≤ g2) := by
        have a1 := Below.size L1.out
        have a2 := Below.size L2.out
        have a3 := HGB.out
        exact ⟨by omega, by omega, by omega⟩
      clear hg2 hl3 hrk HB3a HLB L3a CR hFF HBK
      go_wp2
      go_loopw [33] (fun s wr => ∃ (q k : Nat) (t : BkS), q ≤ n ∧ s = .int .i64 (q : Int) ∧ k ≤ q ∧ Hid (t.last ≤ (q : Int) ∧ t.L.length ≤ q) ∧ Hid (BookAt FF wr g b k m t) ∧ Hid (RBookAt FF wr g2 m t) ∧ Hid (Turned (fun i => i = g ∨ (i = b ∨ i = g2)) w3 wr)) (fun s _ => n - (Go.RowKit.intOf s).toNat)
      case atStart => exact ⟨0, 0, ⟨0, []⟩, by omega, rfl, by omega, ⟨by decide, by decide⟩, HB3.out, HR3.out, Turned.refl _ _⟩
      case round =>
        obtain ⟨q, k, t, hq, rfl, hk, HT, HB, HRB, TR⟩ := hrel
        have LR : Hid (Later w wr) := ((Turned.of_below L3.out (fun _ => False)).onto TR.out (fun i hi => .inr (by have b1 := HGL.out; rcases hi with hi | hi | hi <;> omega))).below (fun i hi => hi.elim) (Nat.le_refl _)
        by_cases hqn : q < n
        · obtain ⟨x, xs, xb, off, c', hx, hv, _, _, _, hr, hst⟩ := OpsIn.at_ (HOP.out.kept (Kept.of_below LR.out _)) (i := q) (by rw [HNP.out]; exact hqn)
          rw [HNP.out] at hv
          obtain ⟨rfl, rfl⟩ : A = some ⟨xb, off, none⟩ ∧ cp = c' := by injection hv with e1 _ e3; exact ⟨e1, e3⟩
          have hxm : x ∈ l := by rw [← HPS.out]; exact List.mem_map.2 ⟨_, List.mem_of_getElem? hx, rfl⟩
          have HXW := hide (HWL.out x hxm)
          have HR := hide hr
          have HST := hide hst
          obtain ⟨yA, yc, hys, _, _, _⟩ := FlatAt.shape hst
          have O5 : Hid (OBox wr.heap.size OpD.zero (.slice none 0 0) (wr.alloc (.cells #[.int .i64 0, .int .i64 0, .int .i64 0, .string ⟨#[]⟩, .slice none 0 0, .int .i64 0, .int .i64 0, .int .i64 0, .bool false, .bool false] 33 (0, 0)))) := heap_alloc_new _ _
          have L5a : Hid (Later wr (wr.alloc (.cells #[.int .i64 0, .int .i64 0, .int .i64 0, .string ⟨#[]⟩, .slice none 0 0, .int .i64 0, .int .i64 0, .int .i64 0, .bool false, .bool false] 33 (0, 0)))) := (Below.refl _ _).alloc (Nat.le_refl _) _
          have HYS := hide hys
          have HSW : Hid (StepsAt (fun i => F0 i ∧ i < w.heap.size) w xs x.steps) := by
            obtain ⟨x2, xs2, _, _, _, hx2, _, _, _, _, _, hst2⟩ := OpsIn.at_ HOP.out (i := q) (by rw [HNP.out]; exact hqn)
            rw [hx] at hx2
            obtain ⟨rfl, rfl⟩ : x = x2 ∧ xs = xs2 := by injection hx2 with e; injection e with e1 e2; exact ⟨e1, e2⟩
            exact StepsAt.mono hst2 (fun i hi hf => ⟨hf, hi⟩)
          clear hx hv hr hst hxm hys
          go_wp2_with (first | (refine wpList_val rfl (by rfl) (exec_load_row _ (by rfl) (by rfl) HR.out) ?_) | (refine wpList_store_op (o := x) (s := xs) (by rfl) _ _ (by rfl) (by rfl) O5.out (FlatAt.oneCell HST.out) (by rfl) ?_))
          intro w4 Z4 G4
          obtain ⟨d, hd⟩ : ∃ d, wr.heap.size = d := ⟨_, rfl⟩
          rw [hd] at Z4 G4
          rw [hd]
          have X4 : Hid (OBox d x xs w4) := Z4
          have L4 : Hid (Later wr w4) := L5a.out.grown G4 (by simp) (fun k hk => by have b1 := Option.some.inj hk; omega)
          have HDG : Hid (g < d ∧ b < d ∧ g2 < d) := by
            have a1 := HB.out.lt
            have a2 := HRB.out.lt
            exact ⟨by omega, by omega, by omega⟩
          have CS := hide (saga_any (id := look) (HB.out.later L4.out) HLK.out)
          obtain ⟨s1, hs1⟩ : ∃ s1, atS t look = s1 := ⟨_, rfl⟩
          obtain ⟨l1, hl1⟩ : ∃ l1, atL t look = l1 := ⟨_, rfl⟩
          obtain ⟨b1, hb1⟩ : ∃ b1, atB t look = b1 := ⟨_, rfl⟩
          rw [hs1, hl1, hb1] at CS
          have HS1 := hide (And.intro hs1 (And.intro hl1 hb1))
          clear Z4 G4 O5 L5a hd hs1 hl1 hb1
          go_wp2_with (fail)
          refine CS.out.mono ?_
          rintro e w5 ⟨p5, m5, c5, rfl, _, hl5⟩
          obtain ⟨s5, hs5⟩ : ∃ s5, s1.withV p5 m5 c5 = s5 := ⟨_, rfl⟩
          rw [hs5]
          have T5 : Hid (SBox 36 w5.heap.size SagaD.zero (w5.alloc (.cells #[.string ⟨#[]⟩, .slice none 0 0, .int .i64 0, .int .i64 0, .int .i64 0, .bool false, .bool false, .bool false, .bool false, .bool false, .bool false, .bool false, .bool false] 36 (0, 0)))) := heap_alloc_new _ _
          have L5b : Hid (Later w5 (w5.alloc (.cells #[.string ⟨#[]⟩, .slice none 0 0, .int .i64 0, .int .i64 0, .int .i64 0, .bool false, .bool false, .bool false, .bool false, .bool false, .bool false, .bool false, .bool false] 36 (0, 0)))) := (Below.refl _ _).alloc (Nat.le_refl _) _
          have L5 : Hid (Later w4 w5) := hl5
          clear hl5 hs5 CS
          go_wp2_with (refine wpList_store_saga (s := s5) (by rfl) _ _ (by rfl) (by rfl) T5.out (by rfl) ?_)
          intro w5b Z5 G5
          have L56 : Later w5 w5b := L5b.out.grown G5 (by simp) (fun k hk => by have := Option.some.inj hk; omega)
          have L46a : Later w4 w5 := L5.out
          have L46 : Later w4 w5b := Later.trans L46a L56
          have L4b : Later wr w4 := L4.out
          have LR5 : Hid (Later wr w5b) := Later.trans L4b L46
          have X5 : Hid (OBox d x xs w5b) := X4.out.below L46
          have CQ := hide (rsaga_any (id := look) (HRB.out.later LR5.out) (by have b3 : t.last ≤ (q : Int) ∧ t.L.length ≤ q := HT.out; omega))
          rw [HS1.out.1, HS1.out.2.1, HS1.out.2.2] at CQ
          clear Z5 G5 L56 L46a L46 L4b T5 L5b
          go_wp2_with (fail)
          refine CQ.out.mono ?_
          rintro e w6 ⟨p6, m6, c6, rfl, _, hl6⟩
          obtain ⟨s6, hs6⟩ : ∃ s6, s1.withV p6 m6 c6 = s6 := ⟨_, rfl⟩
          rw [hs6]
          have T6 : Hid (SBox 39 w6.heap.size SagaD.zero (w6.alloc (.cells #[.string ⟨#[]⟩, .slice none 0 0, .int .i64 0, .int .i64 0, .int .i64 0, .bool false, .bool false, .bool false, .bool false, .bool false, .bool false, .bool false, .bool false] 39 (0, 0)))) := heap_alloc_new _ _
          have L6b : Hid (Later w6 (w6.alloc (.cells #[.string ⟨#[]⟩, .slice none 0 0, .int .i64 0, .int .i64 0, .int .i64 0, .bool false, .bool false, .bool false, .bool false, .bool false, .bool false, .bool false, .bool false] 39 (0, 0)))) := (Below.refl _ _).alloc (Nat.le_refl _) _
          have L6 : Hid (Later w5b w6) := hl6
          clear hl6 hs6 CQ
          go_wp2_with (refine wpList_rstore_saga (s := s6) (by rfl) _ _ (by rfl) (by rfl) T6.out (by rfl) ?_)
          intro w7 Z7 G7
          have L67 : Later w6 w7 := L6b.out.grown G7 (by simp) (fun k hk => by have := Option.some.inj hk; omega)
          have L57a : Later w5b w6 := L6.out
          have L57 : Later w5b w7 := Later.trans L57a L67
          have LR5a : Later wr w5b := LR5.out
          have LR7 : Hid (Later wr w7) := Later.trans LR5a L57
          have X7 : Hid (OBox d x xs w7) := X5.out.below L57
          have HB7 : Hid (BookAt FF w7 g b k m t) := HB.out.later LR7.out
          have HR7 : Hid (RBookAt FF w7 g2 m t) := HRB.out.later LR7.out
          have HFO : ∀ i, w7.heap.size ≤ i → FF i := fun i hi => by
            have a1 := HB7.out.lt
            have a2 := HR7.out.lt
            rw [HFF.out]
            exact ⟨by omega, by omega, by omega⟩
          have TW7 : Hid (Turned (fun i => i = g ∨ (i = b ∨ i = g2)) w w7) := by
            have a1 : Turned (fun i => i = g ∨ (i = b ∨ i = g2)) w w3 := Turned.of_below L3.out _
            exact (a1.trans TR.out).trans (Turned.of_below LR7.out _)
          have HSX : Hid (∀ W, Turned (fun i => i = g ∨ (i = b ∨ i = g2)) w7.drew W → StepsAt (fun i => F0 i ∧ i < w.heap.size) W (.slice yA x.steps.length yc) x.steps) := fun W hW => by
            have a1 : Turned (fun i => i = g ∨ (i = b ∨ i = g2)) w W := TW7.out.trans (Turned.of_drew hW)
            have a2 := StepsAt.kept HSW.out (a1.kept (fun i hi e => by have c1 := HGL.out; have c2 := hi.2; rcases e with e | e | e <;> omega))
            rw [HYS.out] at a2
            exact a2
          obtain ⟨rr, hrr⟩ : ∃ rr, applyR m t x = rr := ⟨_, rfl⟩
          obtain ⟨t6, ht6⟩ : ∃ t6, applyS m t x = t6 := ⟨_, rfl⟩
          have HRR := hide hrr
          have HT6 := hide ht6
          have CA := hide (apply_any (w := w7.drew) (o := x) (A := yA) (n := x.steps.length) (c := yc) (HB7.out.later (Later.drew _)) (by omega) (by have b3 : t.last ≤ (q : Int) ∧ t.L.length ≤ q := HT.out; omega) (HSX.out w7.drew (Turned.refl _ _)) HXW.out (by have b3 : t.last ≤ (q : Int) ∧ t.L.length ≤ q := HT.out; omega) (fun i hi => HFO i hi))
          rw [← HYS.out, hrr, ht6] at CA
          have HFU : Hid (∀ i, FF i ↔ (i ≠ g ∧ i ≠ b ∧ i ≠ g2)) := fun i => by rw [HFF.out]
          clear Z7 G7 L67 L57a L57 LR5a hrr ht6 HFO T6 L6b
          go_wp2_with (fail)
          refine wp_region_R (R := Turned (fun i => i = g ∨ (i = b ∨ i = g2))) (by kernel_rfl) ?_
          refine wpAnyR_take (pre_turned (fun i => i = g ∨ (i = b ∨ i = g2))) (i := 0) (d := some 49) (v := ?vaa0) rfl rfl (by kernel_rfl) (by kernel_rfl) (by kernel_rfl) (fun _ _ _ h => h) (by rfl) ?yaa0 ?_
          case yaa0 => (intro w' hw'; go_simp; try (with_reducible rfl))
          simp only [Act.put]; try simp only [List.setIfInBounds_toArray]; try simp only [List.set_cons_zero, List.set_cons_succ]
          refine wpAnyR_take (pre_turned (fun i => i = g ∨ (i = b ∨ i = g2))) (i := 1) (d := some 50) (v := .agg (x.cells xs).toArray) rfl rfl (by kernel_rfl) (by kernel_rfl) (by kernel_rfl) (fun _ _ _ h => h) (by rfl) ?yaa1 ?_
          case yaa1 => (intro w' hw'; have hwt : Turned (fun i => i = g ∨ (i = b ∨ i = g2)) w7.drew w' := hw'; exact exec_load_op _ (by rfl) (by rfl) ((X7.out.below (Later.drew _)).turned hwt (fun e => by have := HDG.out; omega)))
          simp only [Act.put]; try simp only [List.setIfInBounds_toArray]; try simp only [List.set_cons_zero, List.set_cons_succ]
          refine wpAnyR_take (pre_turned (fun i => i = g ∨ (i = b ∨ i = g2))) (i := 3) (d := some 52) (v := ?vaa3) rfl rfl (by kernel_rfl) (by kernel_rfl) (by kernel_rfl) (fun _ _ _ h => h) (by rfl) ?yaa3 ?_
          case yaa3 => (intro w' hw'; go_simp; try (with_reducible rfl))
          simp only [Act.put]; try simp only [List.setIfInBounds_toArray]; try simp only [List.set_cons_zero, List.set_cons_succ]
          refine wpAnyR_take (pre_turned (fun i => i = g ∨ (i = b ∨ i = g2))) (i := 4) (d := some 53) (v := .agg (x.cells xs).toArray) rfl rfl (by kernel_rfl) (by kernel_rfl) (by kernel_rfl) (fun _ _ _ h => h) (by rfl) ?yaa4 ?_
          case yaa4 => (intro w' hw'; have hwt : Turned (fun i => i = g ∨ (i = b ∨ i = g2)) w7.drew w' := hw'; exact exec_load_op _ (by rfl) (by rfl) ((X7.out.below (Later.drew _)).turned hwt (fun e => by have := HDG.out; omega)))
          simp only [Act.put]; try simp only [List.setIfInBounds_toArray]; try simp only [List.set_cons_zero, List.set_cons_succ]
          refine wpAnyR_only (i := 2) rfl (by kernel_rfl) (by rfl) fun K hK => ?_
          go_simp
          refine CA.out.mono ?_
          rintro e v1 ⟨rfl, hb1, ht1⟩
          have HBV := hide hb1
          have HT1 := hide ht1
          have TV1 : Hid (Turned (fun i => i = g ∨ (i = b ∨ i = g2)) w7.drew v1) := ht1.mono (fun i hi => hi.elim .inl (fun e => .inr (.inl e)))
          have HRV : Hid (RBookAt FF v1 g2 m t) := (HR7.out.later (Later.drew _)).turned ht1 (fun e => by have := HAP.out; omega) (fun i hi e => by have a1 := (HFU.out i).1 hi; omega)
          have XV1 : Hid (OBox d x xs v1) := (X7.out.below (Later.drew _)).turned ht1 (fun e => by have := HDG.out; omega)
          refine hK.out _ _ TV1.out ?_
          clear hb1 ht1 CA
          clear hK K
          try (simp only [Act.put]; try simp only [List.setIfInBounds_toArray]; try simp only [List.set_cons_zero, List.set_cons_succ])
          refine wpAnyR_only (i := 5) rfl (by kernel_rfl) (by rfl) fun K hK => ?_
          go_simp
          have CB := hide (rapply_any (w := v1) (o := x) (A := yA) (n := x.steps.length) (c := yc) HRV.out (by have b3 : t.last ≤ (q : Int) ∧ t.L.length ≤ q := HT.out; omega) (HSX.out v1 TV1.out) HXW.out (by have b3 : t.last ≤ (q : Int) ∧ t.L.length ≤ q := HT.out; omega) (fun i hi => by have a1 := HBV.out.lt; have a2 := HRV.out.lt; exact (HFU.out i).2 ⟨by omega, by omega, by omega⟩))
          rw [← HYS.out, HRR.out, HT6.out] at CB
          refine CB.out.mono ?_
          rintro e v2 ⟨rfl, hb2, ht2⟩
          have HRV2 := hide hb2
          have TV2 : Hid (Turned (fun i => i = g ∨ (i = b ∨ i = g2)) v1 v2) := ht2.mono (fun i hi => .inr (.inr hi))
          have HBV2 : Hid (BookAt FF v2 g b (k + 1) m t6) := HBV.out.turned ht2 (fun e => by have := HAP.out; omega) (fun e => by have := HAP.out; omega) (fun i hi e => by have a1 := (HFU.out i).1 hi; omega)
          refine hK.out _ _ TV2.out ?_
          clear hb2 ht2 CB
          have HN6 : Hid (t6.last ≤ (q : Int) + 1 ∧ t6.L.length ≤ q + 1) := by have g1 := apply_grow m t x; rw [HT6.out] at g1; have b3 : t.last ≤ (q : Int) ∧ t.L.length ≤ q := HT.out; exact ⟨by omega, by omega⟩
          have KS : Hid (∀ W, Later v2 W → Calls Tryz.prog 13 #[.pointer (some ⟨g, 0, none⟩), .pointer (some ⟨g2, 0, none⟩)] W (Gives (.bool true) W)) := fun W hW => lsame_any (HBV2.out.later hW) (HRV2.out.later hW) (by have := HN6.out; omega)
          have KA : Hid (∀ W, Later v2 W → Calls Tryz.prog 14 #[.pointer (some ⟨g, 0, none⟩), .int .i64 look] W (Gives (statusF t6.L look).val W)) := fun W hW => status_any (HBV2.out.later hW) HLK.out
          have KB : Hid (∀ W, Later v2 W → Calls Tryz.prog 15 #[.pointer (some ⟨g2, 0, none⟩), .int .i64 look] W (Gives (statusF t6.L look).val W)) := fun W hW => rstatus_any (HRV2.out.later hW) (by have := HN6.out; omega)
          have KC : Hid (∀ st W, Later v2 W → Calls Tryz.prog 16 #[.pointer (some ⟨g, 0, none⟩), .int .i64 st] W (Gives (.int .i64 ((stateN t6.L st : Nat) : Int)) W)) := fun st W hW => counts_any st (HBV2.out.later hW) (by have := HN6.out; omega)
          have KD : Hid (∀ st W, Later v2 W → Calls Tryz.prog 17 #[.pointer (some ⟨g2, 0, none⟩), .int .i64 st] W (Gives (.int .i64 ((stateN t6.L st : Nat) : Int)) W)) := fun st W hW => rcount_any st (HRV2.out.later hW) (by have := HN6.out; omega)
          generalize statusF t6.L look = r1 at KA KB
          obtain ⟨ca, hca⟩ : ∃ ca : Int, ((stateN t6.L look : Nat) : Int) = ca := ⟨_, rfl⟩
          obtain ⟨cb, hcb⟩ : ∃ cb : Int, ((stateN t6.L 1 : Nat) : Int) = cb := ⟨_, rfl⟩
          have KC1 : Hid (∀ W, Later v2 W → Calls Tryz.prog 16 #[.pointer (some ⟨g, 0, none⟩), .int .i64 look] W (Gives (.int .i64 ca) W)) := fun W hW => by rw [← hca]; exact KC.out look W hW
          have KC2 : Hid (∀ W, Later v2 W → Calls Tryz.prog 16 #[.pointer (some ⟨g, 0, none⟩), .int .i64 1] W (Gives (.int .i64 cb) W)) := fun W hW => by rw [← hcb]; exact KC.out 1 W hW
          have KD1 : Hid (∀ W, Later v2 W → Calls Tryz.prog 17 #[.pointer (some ⟨g2, 0, none⟩), .int .i64 look] W (Gives (.int .i64 ca) W)) := fun W hW => by rw [← hca]; exact KD.out look W hW
          have KD2 : Hid (∀ W, Later v2 W → Calls Tryz.prog 17 #[.pointer (some ⟨g2, 0, none⟩), .int .i64 1] W (Gives (.int .i64 cb) W)) := fun W hW => by rw [← hcb]; exact KD.out 1 W hW
          clear hca hcb KC KD
          clear hK K
          try (simp only [Act.put]; try simp only [List.setIfInBounds_toArray]; try simp only [List.set_cons_zero, List.set_cons_succ])
          refine wpAnyR_take (pre_turned (fun i => i = g ∨ (i = b ∨ i = g2))) (i := 6) (d := some 55) (v := .bool false) rfl rfl (by kernel_rfl) (by kernel_rfl) (by kernel_rfl) (fun _ _ _ h => h) (by rfl) ?yaa6 ?_
          case yaa6 => (intro w' hw'; exact (exec_neq_rep rr rr _ _ _ (by rfl) (by rfl) (by rfl)).trans (by rw [show (!decide (rr = rr)) = false from by simp]))
          simp only [Act.put]; try simp only [List.setIfInBounds_toArray]; try simp only [List.set_cons_zero, List.set_cons_succ]
          refine wpAnyR_take (pre_turned (fun i => i = g ∨ (i = b ∨ i = g2))) (i := 7) (d := some 56) (v := ?vaa7) rfl rfl (by kernel_rfl) (by kernel_rfl) (by kernel_rfl) (fun _ _ _ h => h) (by rfl) ?yaa7 ?_
          case yaa7 => (intro w' hw'; go_simp; try (with_reducible rfl))
          simp only [Act.put]; try simp only [List.setIfInBounds_toArray]; try simp only [List.set_cons_zero, List.set_cons_succ]
          refine wpAnyR_take (pre_turned (fun i => i = g ∨ (i = b ∨ i = g2))) (i := 8) (d := some 57) (v := ?vaa8) rfl rfl (by kernel_rfl) (by kernel_rfl) (by kernel_rfl) (fun _ _ _ h => h) (by rfl) ?yaa8 ?_
          case yaa8 => (intro w' hw'; go_simp; try (with_reducible rfl))
          simp only [Act.put]; try simp only [List.setIfInBounds_toArray]; try simp only [List.set_cons_zero, List.set_cons_succ]
          refine wpAnyR_take (pre_turned (fun i => i = g ∨ (i = b ∨ i = g2))) (i := 9) (d := some 58) (v := ?vaa9) rfl rfl (by kernel_rfl) (by kernel_rfl) (by kernel_rfl) (fun _ _ _ h => h) (by rfl) ?yaa9 ?_
          case yaa9 => (intro w' hw'; go_simp; try (with_reducible rfl))
          simp only [Act.put]; try simp only [List.setIfInBounds_toArray]; try simp only [List.set_cons_zero, List.set_cons_succ]
          refine wpAnyR_only (i := 10) rfl (by kernel_rfl) (by rfl) fun K hK => ?_
          go_simp
          refine (KS.out _ (Later.refl _)).mono ?_
          rintro e v3 ⟨rfl, hlv3⟩
          have V3L : Hid (Later v2 v3) := Later.trans (show Later v2 _ from (Later.refl _)) hlv3
          refine hK.out _ _ (Turned.of_below hlv3 _) ?_
          clear hlv3
          clear hK K
          try (simp only [Act.put]; try simp only [List.setIfInBounds_toArray]; try simp only [List.set_cons_zero, List.set_cons_succ])
          refine wpAnyR_take (pre_turned (fun i => i = g ∨ (i = b ∨ i = g2))) (i := 11) (d := some 60) (v := ?vaa11) rfl rfl (by kernel_rfl) (by kernel_rfl) (by kernel_rfl) (fun _ _ _ h => h) (by rfl) ?yaa11 ?_
          case yaa11 => (intro w' hw'; go_simp; try (with_reducible rfl))
          simp only [Act.put]; try simp only [List.setIfInBounds_toArray]; try simp only [List.set_cons_zero, List.set_cons_succ]
          refine wpAnyR_take (pre_turned (fun i => i = g ∨ (i = b ∨ i = g2))) (i := 12) (d := some 61) (v := ?vaa12) rfl rfl (by kernel_rfl) (by kernel_rfl) (by kernel_rfl) (fun _ _ _ h => h) (by rfl) ?yaa12 ?_
          case yaa12 => (intro w' hw'; go_simp; try (with_reducible rfl))
          simp only [Act.put]; try simp only [List.setIfInBounds_toArray]; try simp only [List.set_cons_zero, List.set_cons_succ]
          refine wpAnyR_take (pre_turned (fun i => i = g ∨ (i = b ∨ i = g2))) (i := 13) (d := some 62) (v := ?vaa13) rfl rfl (by kernel_rfl) (by kernel_rfl) (by kernel_rfl) (fun _ _ _ h => h) (by rfl) ?yaa13 ?_
          case yaa13 => (intro w' hw'; go_simp; try (with_reducible rfl))
          simp only [Act.put]; try simp only [List.setIfInBounds_toArray]; try simp only [List.set_cons_zero, List.set_cons_succ]
          refine wpAnyR_take (pre_turned (fun i => i = g ∨ (i = b ∨ i = g2))) (i := 14) (d := some 63) (v := ?vaa14) rfl rfl (by kernel_rfl) (by kernel_rfl) (by kernel_rfl) (fun _ _ _ h => h) (by rfl) ?yaa14 ?_
          case yaa14 => (intro w' hw'; go_simp; try (with_reducible rfl))
          simp only [Act.put]; try simp only [List.setIfInBounds_toArray]; try simp only [List.set_cons_zero, List.set_cons_succ]
          refine wpAnyR_take (pre_turned (fun i => i = g ∨ (i = b ∨ i = g2))) (i := 15) (d := some 64) (v := ?vaa15) rfl rfl (by kernel_rfl) (by kernel_rfl) (by kernel_rfl) (fun _ _ _ h => h) (by rfl) ?yaa15 ?_
          case yaa15 => (intro w' hw'; go_simp; try (with_reducible rfl))
          simp only [Act.put]; try simp only [List.setIfInBounds_toArray]; try simp only [List.set_cons_zero, List.set_cons_succ]
          refine wpAnyR_take (pre_turned (fun i => i = g ∨ (i = b ∨ i = g2))) (i := 16) (d := some 65) (v := .bool false) rfl rfl (by kernel_rfl) (by kernel_rfl) (by kernel_rfl) (fun _ _ _ h => h) (by rfl) ?yaa16 ?_
          case yaa16 => (intro w' hw'; go_simp; try (with_reducible rfl))
          simp only [Act.put]; try simp only [List.setIfInBounds_toArray]; try simp only [List.set_cons_zero, List.set_cons_succ]
          refine wpAnyR_take (pre_turned (fun i => i = g ∨ (i = b ∨ i = g2))) (i := 17) (d := some 66) (v := ?vaa17) rfl rfl (by kernel_rfl) (by kernel_rfl) (by kernel_rfl) (fun _ _ _ h => h) (by rfl) ?yaa17 ?_
          case yaa17 => (intro w' hw'; go_simp; try (with_reducible rfl))
          simp only [Act.put]; try simp only [List.setIfInBounds_toArray]; try simp only [List.set_cons_zero, List.set_cons_succ]
          refine wpAnyR_take (pre_turned (fun i => i = g ∨ (i = b ∨ i = g2))) (i := 18) (d := some 67) (v := ?vaa18) rfl rfl (by kernel_rfl) (by kernel_rfl) (by kernel_rfl) (fun _ _ _ h => h) (by rfl) ?yaa18 ?_
          case yaa18 => (intro w' hw'; go_simp; try (with_reducible rfl))
          simp only [Act.put]; try simp only [List.setIfInBounds_toArray]; try simp only [List.set_cons_zero, List.set_cons_succ]
          refine wpAnyR_take (pre_turned (fun i => i = g ∨ (i = b ∨ i = g2))) (i := 19) (d := some 68) (v := ?vaa19) rfl rfl (by kernel_rfl) (by kernel_rfl) (by kernel_rfl) (fun _ _ _ h => h) (by rfl) ?yaa19 ?_
          case yaa19 => (intro w' hw'; go_simp; try (with_reducible rfl))
          simp only [Act.put]; try simp only [List.setIfInBounds_toArray]; try simp only [List.set_cons_zero, List.set_cons_succ]
          refine wpAnyR_take (pre_turned (fun i => i = g ∨ (i = b ∨ i = g2))) (i := 20) (d := some 69) (v := ?vaa20) rfl rfl (by kernel_rfl) (by kernel_rfl) (by kernel_rfl) (fun _ _ _ h => h) (by rfl) ?yaa20 ?_
          case yaa20 => (intro w' hw'; go_simp; try (with_reducible rfl))
          simp only [Act.put]; try simp only [List.setIfInBounds_toArray]; try simp only [List.set_cons_zero, List.set_cons_succ]
          refine wpAnyR_take (pre_turned (fun i => i = g ∨ (i = b ∨ i = g2))) (i := 22) (d := some 71) (v := ?vaa22) rfl rfl (by kernel_rfl) (by kernel_rfl) (by kernel_rfl) (fun _ _ _ h => h) (by rfl) ?yaa22 ?_
          case yaa22 => (intro w' hw'; go_simp; try (with_reducible rfl))
          simp only [Act.put]; try simp only [List.setIfInBounds_toArray]; try simp only [List.set_cons_zero, List.set_cons_succ]
          refine wpAnyR_take (pre_turned (fun i => i = g ∨ (i = b ∨ i = g2))) (i := 23) (d := some 72) (v := ?vaa23) rfl rfl (by kernel_rfl) (by kernel_rfl) (by kernel_rfl) (fun _ _ _ h => h) (by rfl) ?yaa23 ?_
          case yaa23 => (intro w' hw'; go_simp; try (with_reducible rfl))
          simp only [Act.put]; try simp only [List.setIfInBounds_toArray]; try simp only [List.set_cons_zero, List.set_cons_succ]
          refine wpAnyR_only (i := 21) rfl (by kernel_rfl) (by rfl) fun K hK => ?_
          go_simp
          refine (KA.out _ V3L.out).mono ?_
          rintro e v4 ⟨rfl, hlv4⟩
          have V4L : Hid (Later v2 v4) := Later.trans (show Later v2 _ from V3L.out) hlv4
          refine hK.out _ _ (Turned.of_below hlv4 _) ?_
          clear hlv4
          clear hK K
          try (simp only [Act.put]; try simp only [List.setIfInBounds_toArray]; try simp only [List.set_cons_zero, List.set_cons_succ])
          refine wpAnyR_only (i := 24) rfl (by kernel_rfl) (by rfl) fun K hK => ?_
          go_simp
          refine (KB.out _ V4L.out).mono ?_
          rintro e v5 ⟨rfl, hlv5⟩
          have V5L : Hid (Later v2 v5) := Later.trans (show Later v2 _ from V4L.out) hlv5
          refine hK.out _ _ (Turned.of_below hlv5 _) ?_
          clear hlv5
          clear hK K
          try (simp only [Act.put]; try simp only [List.setIfInBounds_toArray]; try simp only [List.set_cons_zero, List.set_cons_succ])
          refine wpAnyR_take (pre_turned (fun i => i = g ∨ (i = b ∨ i = g2))) (i := 25) (d := some 74) (v := .bool false) rfl rfl (by kernel_rfl) (by kernel_rfl) (by kernel_rfl) (fun _ _ _ h => h) (by rfl) ?yaa25 ?_
          case yaa25 => (intro w' hw'; exact (exec_neq_rep r1 r1 _ _ _ (by rfl) (by rfl) (by rfl)).trans (by rw [show (!decide (r1 = r1)) = false from by simp]))
          simp only [Act.put]; try simp only [List.setIfInBounds_toArray]; try simp only [List.set_cons_zero, List.set_cons_succ]
          refine wpAnyR_take (pre_turned (fun i => i = g ∨ (i = b ∨ i = g2))) (i := 26) (d := some 75) (v := ?vaa26) rfl rfl (by kernel_rfl) (by kernel_rfl) (by kernel_rfl) (fun _ _ _ h => h) (by rfl) ?yaa26 ?_
          case yaa26 => (intro w' hw'; go_simp; try (with_reducible rfl))
          simp only [Act.put]; try simp only [List.setIfInBounds_toArray]; try simp only [List.set_cons_zero, List.set_cons_succ]
          refine wpAnyR_take (pre_turned (fun i => i = g ∨ (i = b ∨ i = g2))) (i := 27) (d := some 76) (v := ?vaa27) rfl rfl (by kernel_rfl) (by kernel_rfl) (by kernel_rfl) (fun _ _ _ h => h) (by rfl) ?yaa27 ?_
          case yaa27 => (intro w' hw'; go_simp; try (with_reducible rfl))
          simp only [Act.put]; try simp only [List.setIfInBounds_toArray]; try simp only [List.set_cons_zero, List.set_cons_succ]
          refine wpAnyR_take (pre_turned (fun i => i = g ∨ (i = b ∨ i = g2))) (i := 28) (d := some 77) (v := ?vaa28) rfl rfl (by kernel_rfl) (by kernel_rfl) (by kernel_rfl) (fun _ _ _ h => h) (by rfl) ?yaa28 ?_
          case yaa28 => (intro w' hw'; go_simp; try (with_reducible rfl))
          simp only [Act.put]; try simp only [List.setIfInBounds_toArray]; try simp only [List.set_cons_zero, List.set_cons_succ]
          refine wpAnyR_take (pre_turned (fun i => i = g ∨ (i = b ∨ i = g2))) (i := 29) (d := some 78) (v := ?vaa29) rfl rfl (by kernel_rfl) (by kernel_rfl) (by kernel_rfl) (fun _ _ _ h => h) (by rfl) ?yaa29 ?_
          case yaa29 => (intro w' hw'; go_simp; try (with_reducible rfl))
          simp only [Act.put]; try simp only [List.setIfInBounds_toArray]; try simp only [List.set_cons_zero, List.set_cons_succ]
          refine wpAnyR_take (pre_turned (fun i => i = g ∨ (i = b ∨ i = g2))) (i := 31) (d := some 80) (v := ?vaa31) rfl rfl (by kernel_rfl) (by kernel_rfl) (by kernel_rfl) (fun _ _ _ h => h) (by rfl) ?yaa31 ?_
          case yaa31 => (intro w' hw'; go_simp; try (with_reducible rfl))
          simp only [Act.put]; try simp only [List.setIfInBounds_toArray]; try simp only [List.set_cons_zero, List.set_cons_succ]
          refine wpAnyR_take (pre_turned (fun i => i = g ∨ (i = b ∨ i = g2))) (i := 32) (d := some 81) (v := ?vaa32) rfl rfl (by kernel_rfl) (by kernel_rfl) (by kernel_rfl) (fun _ _ _ h => h) (by rfl) ?yaa32 ?_
          case yaa32 => (intro w' hw'; go_simp; try (with_reducible rfl))
          simp only [Act.put]; try simp only [List.setIfInBounds_toArray]; try simp only [List.set_cons_zero, List.set_cons_succ]
          refine wpAnyR_only (i := 30) rfl (by kernel_rfl) (by rfl) fun K hK => ?_
          go_simp
          refine (KC1.out _ V5L.out).mono ?_
          rintro e v6 ⟨rfl, hlv6⟩
          have V6L : Hid (Later v2 v6) := Later.trans (show Later v2 _ from V5L.out) hlv6
          refine hK.out _ _ (Turned.of_below hlv6 _) ?_
          clear hlv6
          clear hK K
          try (simp only [Act.put]; try simp only [List.setIfInBounds_toArray]; try simp only [List.set_cons_zero, List.set_cons_succ])
          refine wpAnyR_only (i := 33) rfl (by kernel_rfl) (by rfl) fun K hK => ?_
          go_simp
          refine (KD1.out _ V6L.out).mono ?_
          rintro e v7 ⟨rfl, hlv7⟩
          have V7L : Hid (Later v2 v7) := Later.trans (show Later v2 _ from V6L.out) hlv7
          refine hK.out _ _ (Turned.of_below hlv7 _) ?_
          clear hlv7
          clear hK K
          try (simp only [Act.put]; try simp only [List.setIfInBounds_toArray]; try simp only [List.set_cons_zero, List.set_cons_succ])
          refine wpAnyR_take (pre_turned (fun i => i = g ∨ (i = b ∨ i = g2))) (i := 34) (d := some 83) (v := .bool false) rfl rfl (by kernel_rfl) (by kernel_rfl) (by kernel_rfl) (fun _ _ _ h => h) (by rfl) ?yaa34 ?_
          case yaa34 => (intro w' hw'; go_simp; try (with_reducible rfl))
          simp only [Act.put]; try simp only [List.setIfInBounds_toArray]; try simp only [List.set_cons_zero, List.set_cons_succ]
          refine wpAnyR_take (pre_turned (fun i => i = g ∨ (i = b ∨ i = g2))) (i := 35) (d := some 84) (v := ?vaa35) rfl rfl (by kernel_rfl) (by kernel_rfl) (by kernel_rfl) (fun _ _ _ h => h) (by rfl) ?yaa35 ?_
          case yaa35 => (intro w' hw'; go_simp; try (with_reducible rfl))
          simp only [Act.put]; try simp only [List.setIfInBounds_toArray]; try simp only [List.set_cons_zero, List.set_cons_succ]
          refine wpAnyR_take (pre_turned (fun i => i = g ∨ (i = b ∨ i = g2))) (i := 36) (d := some 85) (v := ?vaa36) rfl rfl (by kernel_rfl) (by kernel_rfl) (by kernel_rfl) (fun _ _ _ h => h) (by rfl) ?yaa36 ?_
          case yaa36 => (intro w' hw'; go_simp; try (with_reducible rfl))
          simp only [Act.put]; try simp only [List.setIfInBounds_toArray]; try simp only [List.set_cons_zero, List.set_cons_succ]
          refine wpAnyR_take (pre_turned (fun i => i = g ∨ (i = b ∨ i = g2))) (i := 37) (d := some 86) (v := ?vaa37) rfl rfl (by kernel_rfl) (by kernel_rfl) (by kernel_rfl) (fun _ _ _ h => h) (by rfl) ?yaa37 ?_
          case yaa37 => (intro w' hw'; go_simp; try (with_reducible rfl))
          simp only [Act.put]; try simp only [List.setIfInBounds_toArray]; try simp only [List.set_cons_zero, List.set_cons_succ]
          refine wpAnyR_take (pre_turned (fun i => i = g ∨ (i = b ∨ i = g2))) (i := 39) (d := some 88) (v := ?vaa39) rfl rfl (by kernel_rfl) (by kernel_rfl) (by kernel_rfl) (fun _ _ _ h => h) (by rfl) ?yaa39 ?_
          case yaa39 => (intro w' hw'; go_simp; try (with_reducible rfl))
          simp only [Act.put]; try simp only [List.setIfInBounds_toArray]; try simp only [List.set_cons_zero, List.set_cons_succ]
          refine wpAnyR_only (i := 38) rfl (by kernel_rfl) (by rfl) fun K hK => ?_
          go_simp
          refine (KC2.out _ V7L.out).mono ?_
          rintro e v8 ⟨rfl, hlv8⟩
          have V8L : Hid (Later v2 v8) := Later.trans (show Later v2 _ from V7L.out) hlv8
          refine hK.out _ _ (Turned.of_below hlv8 _) ?_
          clear hlv8
          clear hK K
          try (simp only [Act.put]; try simp only [List.setIfInBounds_toArray]; try simp only [List.set_cons_zero, List.set_cons_succ])
          refine wpAnyR_only (i := 40) rfl (by kernel_rfl) (by rfl) fun K hK => ?_
          go_simp
          refine (KD2.out _ V8L.out).mono ?_
          rintro e v9 ⟨rfl, hlv9⟩
          have V9L : Hid (Later v2 v9) := Later.trans (show Later v2 _ from V8L.out) hlv9
          refine hK.out _ _ (Turned.of_below hlv9 _) ?_
          clear hlv9
          clear hK K
          try (simp only [Act.put]; try simp only [List.setIfInBounds_toArray]; try simp only [List.set_cons_zero, List.set_cons_succ])
          refine wpAnyR_take (pre_turned (fun i => i = g ∨ (i = b ∨ i = g2))) (i := 41) (d := some 90) (v := .bool false) rfl rfl (by kernel_rfl) (by kernel_rfl) (by kernel_rfl) (fun _ _ _ h => h) (by rfl) ?yaa41 ?_
          case yaa41 => (intro w' hw'; go_simp; try (with_reducible rfl))
          simp only [Act.put]; try simp only [List.setIfInBounds_toArray]; try simp only [List.set_cons_zero, List.set_cons_succ]
          refine wpAnyR_take (pre_turned (fun i => i = g ∨ (i = b ∨ i = g2))) (i := 42) (d := some 91) (v := ?vaa42) rfl rfl (by kernel_rfl) (by kernel_rfl) (by kernel_rfl) (fun _ _ _ h => h) (by rfl) ?yaa42 ?_
          case yaa42 => (intro w' hw'; go_simp; try (with_reducible rfl))
          simp only [Act.put]; try simp only [List.setIfInBounds_toArray]; try simp only [List.set_cons_zero, List.set_cons_succ]
          refine wpAnyR_done (by kernel_rfl) ?_ _
          have T29 : Turned (fun i => i = g ∨ (i = b ∨ i = g2)) v1 v9 := TV2.out.trans (Turned.of_below V9L.out _)
          have T79 : Turned (fun i => i = g ∨ (i = b ∨ i = g2)) w7 v9 := Turned.of_drew (TV1.out.trans T29)
          have TF : Hid (Turned (fun i => i = g ∨ (i = b ∨ i = g2)) w3 v9) := (TR.out.trans (Turned.of_below LR7.out _)).trans T79
          have HBF := hide (HBV2.out.later V9L.out)
          have HRF := hide (HRV2.out.later V9L.out)
          clear T29 T79
          go_wp2
          go_roundw
          case rel => exact ⟨q + 1, k + 1, t6, by omega, by go_num, by omega, (by have := HN6.out; exact ⟨by omega, by omega⟩), HBF.out, HRF.out, TF.out⟩
          case measure => simp [Go.RowKit.intOf]; omega
        · obtain rfl : q = n := by omega
          go_wp2_with (fail)
          refine (lives_any (w := wr)).mono ?_
          rintro e w9 ⟨rfl, hl⟩
          have La : Later w wr := LR.out
          have L9 : Hid (Later w w9) := Later.trans La hl
          clear hl La
          go_wp2
          go_ret
          exact ⟨rfl, L9.out⟩
    · have CN := hide (new_no m w1 (by omega))
      have CR := hide (rnew_no m w1 (by omega))
      clear hr
      go_wp2_with (fail)
      refine CN.out.mono ?_
      rintro e w2 ⟨rfl, hq2⟩
      obtain rfl := hq2
      go_wp2_with (fail)
      refine CR.out.mono ?_
      rintro e w2 ⟨rfl, hq2⟩
      obtain rfl := hq2
      go_wp2_with (fail)
      refine (lives_any (w := w1)).mono ?_
      rintro e w9 ⟨rfl, hl⟩
      have La : Later w w1 := L1.out
      have L9 : Hid (Later w w9) := Later.trans La hl
      clear hl La
      go_wp2
      go_ret
      exact ⟨rfl, L9.out⟩
end
end Go.Proofs.YtpckdhjnhnonhaaGreat
/- BookActs, as the claim asks it. -/
namespace Go.Proofs.YtpckdhjnhnonhaaGreat
open Go.RowKit
theorem law_actsW (m : Int) (v : Value) (l : List OpD) (look : Int) (w : World) (hm : I64 m) (h1 : OpsAt (· < w.heap.size) w v l) (hw : ∀ x ∈ l, x.wf) (hk : I64 look) :
    Calls Tryz.prog 3 #[.int .i64 m, v, .int .i64 look] w fun e w' => e = .returned (.bool true) ∧ Later w w' := law_acts m look hm hk h1 hw
end Go.Proofs.YtpckdhjnhnonhaaGreat
namespace Go.Proofs.YtpckdhjnhnonhaaGreat
open Go.ChangeShapes Go.WideShapes Go.ChangeAt Go.RowKit

theorem bookActs_lawKnobs : ownKnob Tryz.prog.godebug = none := by kernel_rfl
theorem bookActs_allLaid : laidOutB Tryz.prog = true := by kernel_rfl

set_option maxRecDepth 100000 in
set_option maxHeartbeats 1000000 in
theorem bookActs_lifted (os : Os) (started : os.Started) (H : Type) (enc : TypeId × Value → H) :
    ReturnsInHanded {} Tryz.checked os 3 .any (Rows.bookActsSpec.pre6 enc Tryz.prog Tryz.f3 Rows.bookActsRow.domain false) (Rows.bookActsSpec.post enc Tryz.prog Tryz.f3 false true false false) := by
  refine returnsInHanded_of_change_sized (C := Tryz.checked) bookActs_lawKnobs started (by kernel_rfl) Tryz.func3
    (ChangeSpec.witness6 (enc := enc) (C := Tryz.checked) false ⟨#[], #[.int .i64 0, .slice none 0 0, .int .i64 0], []⟩ 8 (by kernel_rfl) (by kernel_rfl) (by kernel_rfl) (by kernel_rfl)) ?_
  intro W base args ds gs before hval0 hW hcnd hsz _
  have hval : ∀ (j : Nat) t v, Tryz.f3.params[j]? = some t → args[j]? = some v → Value.okWide Tryz.prog W .any base t v := hval0
  have hW' := hW
  obtain ⟨p, q, hA0, hV, rfl, _, _⟩ := hW
  have hA : DataW.TrodAll enc Tryz.prog W 0 (fun _ => true) true Tryz.f3.params.toList args.toList ds p := hA0
  rw [Tryz.params3] at hA hval
  obtain ⟨v0, vs0, d0, ds0, p0, q0, hargs, rfl, rfl, h0, r0⟩ := trodAll_cons hA
  obtain ⟨v1, vs1, d1, ds1, p1, q1, rfl, rfl, rfl, h1, r1⟩ := trodAll_cons r0
  obtain ⟨v2, vs2, d2, ds2, p2, q2, rfl, rfl, rfl, h2, r2⟩ := trodAll_cons r1
  obtain ⟨rfl, rfl, rfl⟩ := trodAll_nil r2
  obtain rfl : args = #[v0, v1, v2] := by cases args; simp_all
  obtain ⟨rfl, rfl⟩ := trodVars_none hV
  have k0 := h0
  obtain ⟨a0, rfl, rfl, rfl, w0⟩ := open_int Tryz.underlying3 (hval 0 3 v0 rfl rfl) h0
  have b0 := bounds_i64 w0
  have k1 := h1
  have lt1 : ∀ x ∈ p1, x.block < W.heap.size := by obtain ⟨m, hm⟩ := k1; exact DataW.trod_lt m _ _ _ hm
  have s1 : Sm 22 d1 := sm_of hsz (j := 1) rfl rfl
  obtain ⟨A1, len1, cap1, rfl⟩ := okWide_slice Tryz.underlying22 (hval 1 22 v1 rfl rfl)
  obtain ⟨l1, hl1, wf1⟩ := arg_ops h1 s1
  have k2 := h2
  obtain ⟨a2, rfl, rfl, rfl, w2⟩ := open_int Tryz.underlying3 (hval 2 3 v2 rfl rfl) h2
  have b2 := bounds_i64 w2
  clear hA0 hval0
  refine (law_actsW a0 (.slice A1 len1 cap1) l1 a2 W (show I64 a0 from by unfold I64; omega) hl1 wf1 (show I64 a2 from by unfold I64; omega)).mono fun e W' ⟨he, bel⟩ => ?_
  subst he
  exact ⟨_, rfl, _, _, _, [], _, [], hW', trodAll_mk1 (shut_bool Tryz.underlying4 _), (trodAll_cons_mk (shut_int Tryz.underlying3 w0) (trodAll_cons_mk (Below.trod bookActs_allLaid (by kernel_rfl) (of_decide_eq_true (by kernel_rfl)) k1 bel lt1) (trodAll_cons_mk (shut_int Tryz.underlying3 w2) trodAll_mk0))), rfl, bel.frame _, fun h => by cases h⟩

theorem bookActs_over : Rows.bookActsRow.holds Tryz.pinned (OpenSpec.ofChange Rows.bookActsSpec) :=
  OpenClaim.holds_of_wide 3 Tryz.f3 rfl rfl rfl rfl rfl rfl rfl ⟨rfl, rfl, rfl, rfl, rfl⟩ rfl rfl rfl rfl rfl (by kernel_rfl) Tryz.func3 (by kernel_rfl)
    (of_decide_eq_true (by kernel_rfl)) (by unfold Func.isWrapper; first | (rw [if_pos (by decide +kernel)]; kernel_rfl) | (rw [if_neg (by decide +kernel)]; exact ⟨rfl, rfl⟩))
    (fun os started H enc _ => bookActs_lifted os started H enc)

theorem bookActs_holds : Rows.BookActsSaid := bookActs_over
#print axioms bookActs_holds
end Go.Proofs.YtpckdhjnhnonhaaGreat
