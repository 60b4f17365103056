/- Whatever the room, whatever sagas are set, with whatever operations between: the program's book and the document's tell the same errors and replies, and have the same sagas behind each; no condition. -/
import Derived.Test.YtpckdhjnhnonhaaGreatBaseS1
import Derived.Test.YtpckdhjnhnonhaaGreatBaseS2
import Derived.Test.YtpckdhjnhnonhaaGreatBaseS3
import Derived.Test.YtpckdhjnhnonhaaGreatBaseS4
import Derived.Test.YtpckdhjnhnonhaaGreatBaseS5
import Derived.Test.YtpckdhjnhnonhaaGreatBaseS6
import Derived.Test.YtpckdhjnhnonhaaGreatBaseS7
import Derived.Test.YtpckdhjnhnonhaaGreatBaseS8
import Derived.Deep.CutBlock
import Derived.Deep.DeepCutAuto
import Derived.Test.YtpckdhjnhnonhaaGreatRows
import Derived.ProofKit
import Derived.OpenShut
import Derived.ShutString
import Derived.ChangeOld
/- BookApart. -/
namespace Go.Proofs.YtpckdhjnhnonhaaGreat
open Go.RowKit Go.Maps
def LawTrue (w : World) (e : Ending) (w' : World) : Prop := e = .returned (.bool true) ∧ Later w w'
section
variable {ops : Array Oper} {rest : List Oper} {op : Oper} {a : Act} {W : World} {Q : Exit → Act → World → Prop} {g : Nat} {o z : OpD} {s sz : Value}
theorem exec_load_row (x : Operand) (ho : op.op = .load 33 x) {b off : Nat} (hx : a.eval x = .pointer (some ⟨b, off, none⟩)) (hr : W.rangeAt b off (o.cells s)) : (execOp a.eval op).run Tryz.prog W = .ok (.value (.agg (o.cells s).toArray)) W :=
  exec_load_range 33 x ho b off hx (o.cells s) hr _ Tryz.underlying33 (by rfl) (by kernel_rfl)
end
section
variable {w : World}
end
end Go.Proofs.YtpckdhjnhnonhaaGreat
/- BookKeeps. -/
namespace Go.Proofs.YtpckdhjnhnonhaaGreat
open Go.RowKit Go.Maps
theorem pre_turned (S : Nat → Prop) : Pre (Turned S) := ⟨fun w => Turned.refl S w, fun h k => h.trans k⟩
section
variable {w : World}
end
end Go.Proofs.YtpckdhjnhnonhaaGreat
/- BookActs. -/
namespace Go.Proofs.YtpckdhjnhnonhaaGreat
open Go.RowKit Go.Maps
section
variable {w : World}
end
end Go.Proofs.YtpckdhjnhnonhaaGreat
/- BookSets. -/
namespace Go.Proofs.YtpckdhjnhnonhaaGreat
open Go.RowKit Go.Maps
theorem set_grow (most : Int) (t : BkS) (x : Ent) : (setS most t x).last ≤ max t.last 1099511627776 ∧ (setS most t x).L.length ≤ t.L.length + 1 := by
  unfold setS
  split
  · rename_i h
    have hx : x.id ≤ 1099511627776 := by
      unfold setE at h
      split at h
      · cases h
      · rename_i h2
        omega
    exact ⟨by show max t.last x.id ≤ _; omega, putE_len x t.L⟩
  · exact ⟨by omega, by omega⟩
theorem PBox.turnedP {d g b g2 : Nat} {cs : List Value} {w w' : World} (h : PBox d cs w) (ht : Turned (fun i => i = g ∨ (i = b ∨ i = g2)) w.drew w') (hd : g < d ∧ b < d ∧ g2 < d) : PBox d cs w' :=
  (ht.block d (lt_of_block h) (fun e => by omega)).trans h
theorem range_p {w : World} {g : Nat} {cs : List Value} (h : PBox g cs w) : w.rangeAt g 0 cs := range_boxS h
theorem exec_load_ritem2 {op : Oper} {a : Act} {W : World} (x : Operand) (ho : op.op = .load 36 x) {b off : Nat} {s : SagaD} (hx : a.eval x = .pointer (some ⟨b, off, none⟩)) (hr : W.rangeAt b off s.cells) : (execOp a.eval op).run Tryz.prog W = .ok (.value s.val) W := exec_load_psaga x ho hx hr
section
variable {w : World}
set_option maxHeartbeats 32000000 in
set_option maxRecDepth 100000 in
theorem law_sets {F0 F1 : Nat → Prop} {v : Value} {l : List OpD} {pv : Value} {P : List PutD} (m : Int) (hm : I64 m) (hp : PutsAt F1 w pv P) (hpw : ∀ x ∈ P, PutWf x) (hl : OpsAt F0 w v l) (hwl : ∀ x ∈ l, x.wf) :
    Calls Tryz.prog 4 #[.int .i64 m, pv, v] w (LawTrue w) := by
  have HO := hide hl
  have HWL := hide hwl
  obtain ⟨ps, hps, hop⟩ := hl
  obtain ⟨A, cp, rfl, _, _, _⟩ := FlatAt.shape hop.1
  have hln : ps.length = l.length := by rw [← hps, List.length_map]
  have HOP := hide hop
  have HPS := hide hps
  obtain ⟨n2, hn2⟩ : ∃ n2, ps.length = n2 := ⟨_, rfl⟩
  have HNP := hide hn2
  rw [hn2] at HO hln ⊢
  have HN2 : Hid (l.length = n2) := hln.symm
  have HPW := hide hpw
  have HPP := hide hp
  obtain ⟨AP, cpp, rfl, _, hpm, _⟩ := FlatAt.shape hp.1
  have hpm2 : P.length ≤ 9223372036854775807 := by unfold maxLen at hpm; omega
  obtain ⟨n, hn⟩ : ∃ n, P.length = n := ⟨_, rfl⟩
  have HN := hide hn
  rw [hn] at hpm2 ⊢
  have CL1 := hide (light_any (w := w) HO.out HWL.out)
  clear hwl hop hps hln hn2 hm hp hpw hn hpm
  go_enter Tryz.func4, Tryz.ntmps4
  go_wp2_with (fail)
  refine CL1.out.mono ?_
  rintro e w1 ⟨q1, rfl, hq1, hl1⟩
  have L1 : Hid (Later w w1) := hl1
  have HQ1 := hide hq1
  clear hl1 hq1 CL1
  cases q1 with
  | false =>
    go_wp2_with (fail)
    refine (lives_any (w := w1)).mono ?_
    rintro e w9 ⟨rfl, hl⟩
    have La : Later w w1 := L1.out
    have L9 : Hid (Later w w9) := Later.trans La hl
    clear hl La
    go_wp2
    go_ret
    exact ⟨rfl, L9.out⟩
  | true =>
    obtain ⟨h80, hst⟩ := HQ1.out rfl
    clear hst h80
    by_cases hbig : 60 < n
    · have hb60 : decide ((60 : Int) < (n : Int)) = true := by simp; omega
      go_wp2_with (fail)
      refine (lives_any (w := w1)).mono ?_
      rintro e w9 ⟨rfl, hl⟩
      have La : Later w w1 := L1.out
      have L9 : Hid (Later w w9) := Later.trans La hl
      clear hl La
      go_wp2
      go_ret
      exact ⟨rfl, L9.out⟩
    · have hb60 : decide ((60 : Int) < (n : Int)) = false := by simp; omega
      have hn60 : n ≤ 60 := by omega
      clear hbig
      by_cases hr : 0 ≤ m ∧ m ≤ 32
      · have CN := hide (new_yes m w1 hr.1 hr.2)
        have HRG := hide hr
        clear hr
        go_wp2_with (fail)
        refine CN.out.mono ?_
        rintro e w2 ⟨g, b, rfl, hg, hb, hl2, hbk⟩
        have HGB : Hid (w1.heap.size ≤ g ∧ w1.heap.size ≤ b) := ⟨hg, hb⟩
        have HBK := hide hbk
        have L2a : Later w w1 := L1.out
        have L2 : Hid (Later w w2) := Later.trans L2a hl2
        clear hg hb hl2 hbk CN L2a
        have CR := hide (rnew_yes m w2 HRG.out.1 HRG.out.2)
        go_wp2_with (fail)
        refine CR.out.mono ?_
        rintro e w3 ⟨g2, rfl, hg2, hl3, hrk⟩
        obtain ⟨FF, hFF⟩ : ∃ FF : Nat → Prop, FF = fun i => i ≠ g ∧ i ≠ b ∧ i ≠ g2 := ⟨_, rfl⟩
        have HFU : Hid (∀ i, FF i ↔ (i ≠ g ∧ i ≠ b ∧ i ≠ g2)) := fun i => by rw [hFF]
        have HB3a := HBK.out FF (by rw [hFF]; exact fun e => e.1 rfl) (by rw [hFF]; exact fun e => e.2.1 rfl)
        have HLB := HB3a.lt
        have HB3 : Hid (BookAt FF w3 g b 0 m ⟨0, []⟩) := HB3a.later hl3
        have HR3 : Hid (RBookAt FF w3 g2 m ⟨0, []⟩) := hrk FF (by rw [hFF]; exact fun e => e.2.2 rfl)
        have HAP : Hid (g ≠ b ∧ g2 ≠ g ∧ g2 ≠ b) := ⟨HB3a.apart.1, by omega, by omega⟩
        have HG2 : Hid (w2.heap.size ≤ g2) := hg2
        have L3a : Later w w2 := L2.out
        have L3 : Hid (Later w w3) := Later.trans L3a hl3
        have HGL : Hid (w.heap.size ≤ g ∧ w.heap.size ≤ b ∧ w.heap.size ≤ g2) := by
          have a1 := Below.size L1.out
          have a2 := Below.size L2.out
          have a3 := HGB.out
          exact ⟨by omega, by omega, by omega⟩
        clear hg2 hl3 hrk HB3a HLB L3a CR hFF HBK
        go_wp2
        go_loopw [40] (fun s wr => ∃ (q k : Nat) (t : BkS), q ≤ n ∧ s = .int .i64 (q : Int) ∧ k ≤ 2 * q ∧ Hid (t.last ≤ 1099511627776 + (q : Int) ∧ t.L.length ≤ 2 * q) ∧ Hid (BookAt FF wr g b k m t) ∧ Hid (RBookAt FF wr g2 m t) ∧ Hid (Turned (fun i => i = g ∨ (i = b ∨ i = g2)) w3 wr)) (fun s _ => n - (Go.RowKit.intOf s).toNat)
        case atStart => exact ⟨0, 0, ⟨0, []⟩, by omega, rfl, by omega, ⟨by decide, by decide⟩, HB3.out, HR3.out, Turned.refl _ _⟩
        case round =>
          obtain ⟨q, k, t, hq, rfl, hk, HT, HB, HRB, TR⟩ := hrel
          have LR : Hid (Later w wr) := ((Turned.of_below L3.out (fun _ => False)).onto TR.out (fun i hi => .inr (by have b1 := HGL.out; rcases hi with hi | hi | hi <;> omega))).below (fun i hi => hi.elim) (Nat.le_refl _)
          by_cases hqn : q < n
          · obtain ⟨xb, off, c', hv, _, _, _, hr⟩ := FlatAt.elem (HPP.out.1.kept (Kept.of_below LR.out _)) (by rw [HN.out]; exact hqn)
            rw [HN.out] at hv
            obtain ⟨rfl, rfl⟩ : AP = some ⟨xb, off, none⟩ ∧ cpp = c' := by injection hv with e1 _ e3; exact ⟨e1, e3⟩
            obtain ⟨y, hy⟩ : ∃ y, P[q]? = some y := ⟨P[q]'(by rw [HN.out]; exact hqn), List.getElem?_eq_getElem _⟩
            rw [flat_get putC 14 P q y (fun z _ => rfl) hy] at hr
            have HR := hide hr
            have hym : y ∈ P := List.mem_of_getElem? hy
            have HYW := hide (HPW.out y hym)
            have HYS0 : Hid (StepsAt (fun i => F1 i ∧ i < w.heap.size) w y.2.1.v y.2.2) := by
              have a1 := HPP.out.2 y hym
              exact StepsAt.mono a1 (fun i hi hf => ⟨hf, hi⟩)
            have P4 : Hid (PBox wr.heap.size (.int .i64 0 :: SagaD.zero.cells) (wr.alloc (.cells #[.int .i64 0, .string ⟨#[]⟩, .slice none 0 0, .int .i64 0, .int .i64 0, .int .i64 0, .bool false, .bool false, .bool false, .bool false, .bool false, .bool false, .bool false, .bool false] 52 (0, 0)))) := heap_alloc_new _ _
            have L4a : Hid (Later wr (wr.alloc (.cells #[.int .i64 0, .string ⟨#[]⟩, .slice none 0 0, .int .i64 0, .int .i64 0, .int .i64 0, .bool false, .bool false, .bool false, .bool false, .bool false, .bool false, .bool false, .bool false] 52 (0, 0)))) := (Below.refl _ _).alloc (Nat.le_refl _) _
            clear hv hr hy hym
            go_wp2_with (first | (refine wpList_val rfl (by rfl) (exec_load_put _ (by rfl) (by rfl) HR.out) ?_) | (refine wpList_store_put (y := y) (by rfl) _ _ (by rfl) (by rfl) P4.out (by rfl) ?_))
            intro w4 Z4 G4
            obtain ⟨d, hd⟩ : ∃ d, wr.heap.size = d := ⟨_, rfl⟩
            rw [hd] at Z4 G4
            rw [hd]
            have X4 : Hid (PBox d (putC y) w4) := Z4
            have L4 : Hid (Later wr w4) := L4a.out.grown G4 (by simp) (fun k hk => by have b1 := Option.some.inj hk; omega)
            have HDG : Hid (g < d ∧ b < d ∧ g2 < d) := by
              have a1 := HB.out.lt
              have a2 := HRB.out.lt
              exact ⟨by omega, by omega, by omega⟩
            have LRb : Later w wr := LR.out
            have LW4 : Hid (Later w w4) := Later.trans LRb L4.out
            have CG := hide (long_any (a := y.2.1.name) (StepsAt.kept HYS0.out (Kept.of_below LW4.out _)) (by
              obtain ⟨_, _, _, _, a3, _⟩ := FlatAt.shape HYS0.out
              unfold maxLen at a3
              omega))
            obtain ⟨lq, hlq⟩ : ∃ lq, longF y.2.1.name y.2.2 = lq := ⟨_, rfl⟩
            rw [hlq] at CG
            clear Z4 G4 P4 L4a hd LRb hlq
            go_wp2_with (refine wpList_val rfl (by rfl) (exec_load_pdef _ (by rfl) (by rfl) (range_put (range_p X4.out)).2.2) ?_)
            refine CG.out.mono ?_
            rintro e w5 ⟨rfl, hl5⟩
            have L45 : Hid (Later w4 w5) := hl5
            have L4b : Later wr w4 := L4.out
            have LR5 : Hid (Later wr w5) := Later.trans L4b hl5
            have LRb : Later w wr := LR.out
            have LW5 : Hid (Later w w5) := Later.trans LRb LR5.out
            have X5 : Hid (PBox d (putC y) w5) := (Below.block hl5 d (lt_of_block X4.out)).trans X4.out
            clear hl5 CG L4b LRb
            cases lq with
            | true =>
              go_wp2_with (fail)
              refine (lives_any (w := w5)).mono ?_
              rintro e w9 ⟨rfl, hl⟩
              have La : Later w w5 := LW5.out
              have L9 : Hid (Later w w9) := Later.trans La hl
              clear hl La
              go_wp2
              go_ret
              exact ⟨rfl, L9.out⟩
            | false =>
              have HB5 : Hid (BookAt FF w5 g b k m t) := HB.out.later LR5.out
              have HR5 : Hid (RBookAt FF w5 g2 m t) := HRB.out.later LR5.out
              have TW5 : Hid (Turned (fun i => i = g ∨ (i = b ∨ i = g2)) w w5) := by
                have a1 : Turned (fun i => i = g ∨ (i = b ∨ i = g2)) w w3 := Turned.of_below L3.out _
                exact (a1.trans TR.out).trans (Turned.of_below LR5.out _)
              have HYX : Hid (∀ W, Turned (fun i => i = g ∨ (i = b ∨ i = g2)) w5.drew W → StepsAt FF W y.2.1.v y.2.2) := fun W hW => by
                have a1 : Turned (fun i => i = g ∨ (i = b ∨ i = g2)) w W := TW5.out.trans (Turned.of_drew hW)
                have a2 := StepsAt.kept HYS0.out (a1.kept (fun i hi e => by have c1 := HGL.out; have c2 := hi.2; rcases e with e | e | e <;> omega))
                exact StepsAt.mono a2 (fun i _ hf => (HFU.out i).2 (by have c1 := HGL.out; have c2 := hf.2; exact ⟨by omega, by omega, by omega⟩))
              obtain ⟨er, her⟩ : ∃ er, setE m t ⟨y.1, y.2.1, y.2.2⟩ = er := ⟨_, rfl⟩
              obtain ⟨t5, ht5⟩ : ∃ t5, setS m t ⟨y.1, y.2.1, y.2.2⟩ = t5 := ⟨_, rfl⟩
              have HER := hide her
              have HT5 := hide ht5
              have HN5 : Hid (t5.last ≤ 1099511627776 + (q : Int) ∧ t5.L.length ≤ 2 * q + 1) := by
                have g1 := set_grow m t ⟨y.1, y.2.1, y.2.2⟩
                rw [ht5] at g1
                have g2 := HT.out
                exact ⟨by omega, by omega⟩
              have CA := hide (set_any (w := w5.drew) (id := y.1) (s := y.2.1) (l := y.2.2) (HB5.out.later (Later.drew _)) (by omega) (by have := HT.out; omega) (HYX.out w5.drew (Turned.refl _ _)) HYW.out.2.1 HYW.out.1 HYW.out.2.2 (fun i hi => by
                have a1 := HB5.out.lt
                have a2 := HR5.out.lt
                have a3 : w5.heap.size ≤ i := hi
                exact (HFU.out i).2 ⟨by omega, by omega, by omega⟩))
              rw [her, ht5] at CA
              clear her ht5
              go_wp2_with (fail)
              refine wp_region_R (R := Turned (fun i => i = g ∨ (i = b ∨ i = g2))) (by kernel_rfl) ?_
              refine wpAnyR_take (pre_turned (fun i => i = g ∨ (i = b ∨ i = g2))) (i := 0) (d := some 50) (v := ?vaa0) rfl rfl (by kernel_rfl) (by kernel_rfl) (by kernel_rfl) (fun _ _ _ h => h) (by rfl) ?yaa0 ?_
              case yaa0 => (intro w' hw'; go_simp; try (with_reducible rfl))
              simp only [Act.put]; try simp only [sA_, sZ_, sS_]
              refine wpAnyR_take (pre_turned (fun i => i = g ∨ (i = b ∨ i = g2))) (i := 1) (d := some 51) (v := ?vaa1) rfl rfl (by kernel_rfl) (by kernel_rfl) (by kernel_rfl) (fun _ _ _ h => h) (by rfl) ?yaa1 ?_
              case yaa1 => (intro w' hw'; go_simp; try (with_reducible rfl))
              simp only [Act.put]; try simp only [sA_, sZ_, sS_]
              refine wpAnyR_take (pre_turned (fun i => i = g ∨ (i = b ∨ i = g2))) (i := 2) (d := some 52) (v := .int .i64 y.1) rfl rfl (by kernel_rfl) (by kernel_rfl) (by kernel_rfl) (fun _ _ _ h => h) (by rfl) ?yaa2 ?_
              case yaa2 => (intro w' hw'; have hwt : Turned (fun i => i = g ∨ (i = b ∨ i = g2)) w5.drew w' := hw'; have cc := (range_put (range_p (X5.out.turnedP hwt HDG.out))).1; go_simp; try (with_reducible rfl))
              simp only [Act.put]; try simp only [sA_, sZ_, sS_]
              refine wpAnyR_take (pre_turned (fun i => i = g ∨ (i = b ∨ i = g2))) (i := 3) (d := some 53) (v := ?vaa3) rfl rfl (by kernel_rfl) (by kernel_rfl) (by kernel_rfl) (fun _ _ _ h => h) (by rfl) ?yaa3 ?_
              case yaa3 => (intro w' hw'; go_simp; try (with_reducible rfl))
              simp only [Act.put]; try simp only [sA_, sZ_, sS_]
              refine wpAnyR_take (pre_turned (fun i => i = g ∨ (i = b ∨ i = g2))) (i := 4) (d := some 54) (v := y.2.1.val) rfl rfl (by kernel_rfl) (by kernel_rfl) (by kernel_rfl) (fun _ _ _ h => h) (by rfl) ?yaa4 ?_
              case yaa4 => (intro w' hw'; have hwt : Turned (fun i => i = g ∨ (i = b ∨ i = g2)) w5.drew w' := hw'; exact exec_load_psaga _ (by rfl) (by rfl) (range_put (range_p (X5.out.turnedP hwt HDG.out))).2.1)
              simp only [Act.put]; try simp only [sA_, sZ_, sS_]
              refine wpAnyR_take (pre_turned (fun i => i = g ∨ (i = b ∨ i = g2))) (i := 6) (d := some 56) (v := ?vaa6) rfl rfl (by kernel_rfl) (by kernel_rfl) (by kernel_rfl) (fun _ _ _ h => h) (by rfl) ?yaa6 ?_
              case yaa6 => (intro w' hw'; go_simp; try (with_reducible rfl))
              simp only [Act.put]; try simp only [sA_, sZ_, sS_]
              refine wpAnyR_take (pre_turned (fun i => i = g ∨ (i = b ∨ i = g2))) (i := 7) (d := some 57) (v := ?vaa7) rfl rfl (by kernel_rfl) (by kernel_rfl) (by kernel_rfl) (fun _ _ _ h => h) (by rfl) ?yaa7 ?_
              case yaa7 => (intro w' hw'; go_simp; try (with_reducible rfl))
              simp only [Act.put]; try simp only [sA_, sZ_, sS_]
              refine wpAnyR_take (pre_turned (fun i => i = g ∨ (i = b ∨ i = g2))) (i := 8) (d := some 58) (v := .int .i64 y.1) rfl rfl (by kernel_rfl) (by kernel_rfl) (by kernel_rfl) (fun _ _ _ h => h) (by rfl) ?yaa8 ?_
              case yaa8 => (intro w' hw'; have hwt : Turned (fun i => i = g ∨ (i = b ∨ i = g2)) w5.drew w' := hw'; have cc := (range_put (range_p (X5.out.turnedP hwt HDG.out))).1; go_simp; try (with_reducible rfl))
              simp only [Act.put]; try simp only [sA_, sZ_, sS_]
              refine wpAnyR_take (pre_turned (fun i => i = g ∨ (i = b ∨ i = g2))) (i := 9) (d := some 59) (v := ?vaa9) rfl rfl (by kernel_rfl) (by kernel_rfl) (by kernel_rfl) (fun _ _ _ h => h) (by rfl) ?yaa9 ?_
              case yaa9 => (intro w' hw'; go_simp; try (with_reducible rfl))
              simp only [Act.put]; try simp only [sA_, sZ_, sS_]
              refine wpAnyR_take (pre_turned (fun i => i = g ∨ (i = b ∨ i = g2))) (i := 10) (d := some 60) (v := y.2.1.val) rfl rfl (by kernel_rfl) (by kernel_rfl) (by kernel_rfl) (fun _ _ _ h => h) (by rfl) ?yaa10 ?_
              case yaa10 => (intro w' hw'; have hwt : Turned (fun i => i = g ∨ (i = b ∨ i = g2)) w5.drew w' := hw'; exact exec_load_ritem2 _ (by rfl) (by rfl) (range_put (range_p (X5.out.turnedP hwt HDG.out))).2.1)
              simp only [Act.put]; try simp only [sA_, sZ_, sS_]
              refine wpAnyR_only (i := 5) rfl (by kernel_rfl) (by rfl) fun K hK => ?_
              go_simp
              refine CA.out.mono ?_
              rintro e v1 ⟨rfl, hb1, ht1⟩
              have HBV := hide hb1
              have TV1 : Hid (Turned (fun i => i = g ∨ (i = b ∨ i = g2)) w5.drew v1) := ht1.mono (fun i hi => hi.elim .inl (fun e => .inr (.inl e)))
              have HRV : Hid (RBookAt FF v1 g2 m t) := (HR5.out.later (Later.drew _)).turned ht1 (fun e => by have := HAP.out; omega) (fun i hi e => by have a1 := (HFU.out i).1 hi; omega)
              refine hK.out _ _ TV1.out ?_
              clear hb1 ht1 CA
              clear hK K
              try (simp only [Act.put]; try simp only [sA_, sZ_, sS_])
              refine wpAnyR_only (i := 11) rfl (by kernel_rfl) (by rfl) fun K hK => ?_
              go_simp
              have CB := hide (rset_any (w := v1) (id := y.1) (s := y.2.1) (l := y.2.2) HRV.out (by have := HT.out; omega) (HYX.out v1 TV1.out) HYW.out.2.1 HYW.out.2.2 (fun i hi => by have a1 := HBV.out.lt; have a2 := HRV.out.lt; exact (HFU.out i).2 ⟨by omega, by omega, by omega⟩))
              rw [HER.out, HT5.out] at CB
              refine CB.out.mono ?_
              rintro e v2 ⟨rfl, hb2, ht2⟩
              have HRV2 := hide hb2
              have TV2 : Hid (Turned (fun i => i = g ∨ (i = b ∨ i = g2)) v1 v2) := ht2.mono (fun i hi => .inr (.inr hi))
              have HBV2 : Hid (BookAt FF v2 g b (k + 1) m t5) := HBV.out.turned ht2 (fun e => by have := HAP.out; omega) (fun e => by have := HAP.out; omega) (fun i hi e => by have a1 := (HFU.out i).1 hi; omega)
              refine hK.out _ _ TV2.out ?_
              clear hb2 ht2 CB
              clear hK K
              try (simp only [Act.put]; try simp only [sA_, sZ_, sS_])
              refine wpAnyR_take (pre_turned (fun i => i = g ∨ (i = b ∨ i = g2))) (i := 12) (d := some 62) (v := .bool false) rfl rfl (by kernel_rfl) (by kernel_rfl) (by kernel_rfl) (fun _ _ _ h => h) (by rfl) ?yaa12 ?_
              case yaa12 => (intro w' hw'; go_simp; try (with_reducible rfl))
              simp only [Act.put]; try simp only [sA_, sZ_, sS_]
              refine wpAnyR_done (by kernel_rfl) ?_ _
              have T5v : Hid (Turned (fun i => i = g ∨ (i = b ∨ i = g2)) w3 v2) := (TR.out.trans (Turned.of_below LR5.out _)).trans (Turned.of_drew (TV1.out.trans TV2.out))
              by_cases hq2 : q < n2
              · have hlt : decide ((q : Int) < (n2 : Int)) = true := by simp; exact hq2
                by_cases hla0 : t5.last < 1099511627776
                · have hla : decide (t5.last < 1099511627776) = true := by simp; exact hla0
                  have LV2 : Hid (Later w v2) := ((Turned.of_below L3.out (fun _ => False)).onto T5v.out (fun i hi => .inr (by have b1 := HGL.out; rcases hi with hi | hi | hi <;> omega))).below (fun i hi => hi.elim) (Nat.le_refl _)
                  obtain ⟨x, xs, ob, off2, c2', hx, hv, _, _, _, _, hst⟩ := OpsIn.at_ (HOP.out.kept (Kept.of_below LV2.out _)) (i := q) (by rw [HNP.out]; exact hq2)
                  rw [HNP.out] at hv
                  obtain ⟨rfl, rfl⟩ : A = some ⟨ob, off2, none⟩ ∧ cp = c2' := by injection hv with e1 _ e3; exact ⟨e1, e3⟩
                  have hxm : x ∈ l := by rw [← HPS.out]; exact List.mem_map.2 ⟨_, List.mem_of_getElem? hx, rfl⟩
                  have HXW := hide (HWL.out x hxm)
                  obtain ⟨yA, yc, hys, _, _, _⟩ := FlatAt.shape hst
                  have HYS := hide hys
                  have HX := hide hx
                  have TV2w : Hid (Turned (fun i => i = g ∨ (i = b ∨ i = g2)) w v2) := by
                    have a1 : Turned (fun i => i = g ∨ (i = b ∨ i = g2)) w w3 := Turned.of_below L3.out _
                    exact a1.trans T5v.out
                  have HRX : Hid (∀ W, Turned (fun i => i = g ∨ (i = b ∨ i = g2)) v2.drew W → W.rangeAt ob (off2 + q * 10) (x.cells xs)) := fun W hW => by
                    have a1 : Turned (fun i => i = g ∨ (i = b ∨ i = g2)) w W := TV2w.out.trans (Turned.of_drew hW)
                    have LWW : Later w W := ((Turned.of_below (Below.refl w.heap.size w) (fun _ => False)).onto a1 (fun i hi => .inr (by have b1 := HGL.out; rcases hi with hi | hi | hi <;> omega))).below (fun i hi => hi.elim) (Nat.le_refl _)
                    obtain ⟨x2, xs2, ob2, off3, c3, hx2, hv2, _, _, _, hr2, _⟩ := OpsIn.at_ (HOP.out.kept (Kept.of_below LWW _)) (i := q) (by rw [HNP.out]; exact hq2)
                    rw [HX.out] at hx2
                    obtain ⟨rfl, rfl⟩ : x = x2 ∧ xs = xs2 := by injection hx2 with e; injection e with e1 e2; exact ⟨e1, e2⟩
                    obtain ⟨rfl, rfl⟩ : ob = ob2 ∧ off2 = off3 := by injection hv2 with e1 _ _; injection e1 with e1; injection e1 with e1 e2 _; exact ⟨e1, e2⟩
                    exact hr2
                  have HSX : Hid (∀ W, Turned (fun i => i = g ∨ (i = b ∨ i = g2)) v2.drew W → StepsAt (fun i => F0 i ∧ i < w.heap.size) W (.slice yA x.steps.length yc) x.steps) := fun W hW => by
                    have a1 : Turned (fun i => i = g ∨ (i = b ∨ i = g2)) w W := TV2w.out.trans (Turned.of_drew hW)
                    obtain ⟨x2, xs2, _, _, _, hx2, _, _, _, _, _, hst2⟩ := OpsIn.at_ HOP.out (i := q) (by rw [HNP.out]; exact hq2)
                    rw [HX.out] at hx2
                    obtain ⟨rfl, rfl⟩ : x = x2 ∧ xs = xs2 := by injection hx2 with e; injection e with e1 e2; exact ⟨e1, e2⟩
                    have a3 : StepsAt (fun i => F0 i ∧ i < w.heap.size) w xs x.steps := StepsAt.mono hst2 (fun i hi hf => ⟨hf, hi⟩)
                    have a2 := StepsAt.kept a3 (a1.kept (fun i hi e => by have c1 := HGL.out; have c2 := hi.2; rcases e with e | e | e <;> omega))
                    rw [HYS.out] at a2
                    exact a2
                  have cc8 : v2.drew.cell? ⟨g2, 1, none⟩ = some (.int .i64 t5.last) := by
                    obtain ⟨_, _, _, hb9, _⟩ := (HRV2.out.later (Later.drew _)).body
                    exact cell_of_row v2.drew g2 1 _ _ _ hb9
                  obtain ⟨rr, hrr⟩ : ∃ rr, applyR m t5 x = rr := ⟨_, rfl⟩
                  obtain ⟨t6, ht6⟩ : ∃ t6, applyS m t5 x = t6 := ⟨_, rfl⟩
                  have HRR := hide hrr
                  have HT6 := hide ht6
                  have HN6 : Hid (t6.last ≤ 1099511627776 + (q : Int) + 1 ∧ t6.L.length ≤ 2 * q + 2) := by
                    have g1 := apply_grow m t5 x
                    rw [ht6] at g1
                    have g2 := HN5.out
                    exact ⟨by omega, by omega⟩
                  have CC := hide (apply_any (w := v2.drew) (o := x) (A := yA) (n := x.steps.length) (c := yc) (HBV2.out.later (Later.drew _)) (by omega) (by have := HN5.out; omega) (HSX.out v2.drew (Turned.refl _ _)) HXW.out (by have := HN5.out; omega) (fun i hi => by
                    have a1 := HBV2.out.lt
                    have a2 := HRV2.out.lt
                    have a3 : v2.heap.size ≤ i := hi
                    exact (HFU.out i).2 ⟨by omega, by omega, by omega⟩))
                  rw [← HYS.out, hrr, ht6] at CC
                  clear hrr ht6 hst hx hv hxm hys hla0
                  go_wp2_with (fail)
                  refine wp_region_R (R := Turned (fun i => i = g ∨ (i = b ∨ i = g2))) (by kernel_rfl) ?_
                  refine wpAnyR_take (pre_turned (fun i => i = g ∨ (i = b ∨ i = g2))) (i := 0) (d := some 63) (v := ?vad0) rfl rfl (by kernel_rfl) (by kernel_rfl) (by kernel_rfl) (fun _ _ _ h => h) (by rfl) ?yad0 ?_
                  case yad0 => (intro w' hw'; go_simp; try (with_reducible rfl))
                  simp only [Act.put]; try simp only [sA_, sZ_, sS_]
                  refine wpAnyR_take (pre_turned (fun i => i = g ∨ (i = b ∨ i = g2))) (i := 1) (d := some 64) (v := ?vad1) rfl rfl (by kernel_rfl) (by kernel_rfl) (by kernel_rfl) (fun _ _ _ h => h) (by rfl) ?yad1 ?_
                  case yad1 => (intro w' hw'; go_simp; try (with_reducible rfl))
                  simp only [Act.put]; try simp only [sA_, sZ_, sS_]
                  refine wpAnyR_take (pre_turned (fun i => i = g ∨ (i = b ∨ i = g2))) (i := 2) (d := some 65) (v := ?vad2) rfl rfl (by kernel_rfl) (by kernel_rfl) (by kernel_rfl) (fun _ _ _ h => h) (by rfl) ?yad2 ?_
                  case yad2 => (intro w' hw'; go_simp; try (with_reducible rfl))
                  simp only [Act.put]; try simp only [sA_, sZ_, sS_]
                  refine wpAnyR_take (pre_turned (fun i => i = g ∨ (i = b ∨ i = g2))) (i := 3) (d := some 66) (v := .bool true) rfl rfl (by kernel_rfl) (by kernel_rfl) (by kernel_rfl) (fun _ _ _ h => h) (by rfl) ?yad3 ?_
                  case yad3 => (intro w' hw'; go_simp; first | done | exact congrArg _ (congrArg _ hlt) | (simp; omega))
                  simp only [Act.put]; try simp only [sA_, sZ_, sS_]
                  refine wpAnyR_take (pre_turned (fun i => i = g ∨ (i = b ∨ i = g2))) (i := 4) (d := some 67) (v := ?vad4) rfl rfl (by kernel_rfl) (by kernel_rfl) (by kernel_rfl) (fun _ _ _ h => h) (by rfl) ?yad4 ?_
                  case yad4 => (intro w' hw'; go_simp; try (with_reducible rfl))
                  simp only [Act.put]; try simp only [sA_, sZ_, sS_]
                  refine wpAnyR_take (pre_turned (fun i => i = g ∨ (i = b ∨ i = g2))) (i := 5) (d := some 68) (v := ?vad5) rfl rfl (by kernel_rfl) (by kernel_rfl) (by kernel_rfl) (fun _ _ _ h => h) (by rfl) ?yad5 ?_
                  case yad5 => (intro w' hw'; go_simp; try (with_reducible rfl))
                  simp only [Act.put]; try simp only [sA_, sZ_, sS_]
                  refine wpAnyR_take (pre_turned (fun i => i = g ∨ (i = b ∨ i = g2))) (i := 6) (d := some 69) (v := ?vad6) rfl rfl (by kernel_rfl) (by kernel_rfl) (by kernel_rfl) (fun _ _ _ h => h) (by rfl) ?yad6 ?_
                  case yad6 => (intro w' hw'; go_simp; try (with_reducible rfl))
                  simp only [Act.put]; try simp only [sA_, sZ_, sS_]
                  refine wpAnyR_take (pre_turned (fun i => i = g ∨ (i = b ∨ i = g2))) (i := 7) (d := some 70) (v := ?vad7) rfl rfl (by kernel_rfl) (by kernel_rfl) (by kernel_rfl) (fun _ _ _ h => h) (by rfl) ?yad7 ?_
                  case yad7 => (intro w' hw'; go_simp; try (with_reducible rfl))
                  simp only [Act.put]; try simp only [sA_, sZ_, sS_]
                  refine wpAnyR_only (i := 8) rfl (by kernel_rfl) (by rfl) fun K hK => ?_
                  go_simp
                  refine hK.out _ _ (Turned.refl _ _) ?_
                  clear hK K
                  try (simp only [Act.put]; try simp only [sA_, sZ_, sS_])
                  refine wpAnyR_take (pre_turned (fun i => i = g ∨ (i = b ∨ i = g2))) (i := 9) (d := some 72) (v := .bool true) rfl rfl (by kernel_rfl) (by kernel_rfl) (by kernel_rfl) (fun _ _ _ h => h) (by rfl) ?yad9 ?_
                  case yad9 => (intro w' hw'; go_simp; first | done | exact congrArg _ (congrArg _ hla) | (simp; omega))
                  simp only [Act.put]; try simp only [sA_, sZ_, sS_]
                  refine wpAnyR_take (pre_turned (fun i => i = g ∨ (i = b ∨ i = g2))) (i := 10) (d := some 73) (v := ?vad10) rfl rfl (by kernel_rfl) (by kernel_rfl) (by kernel_rfl) (fun _ _ _ h => h) (by rfl) ?yad10 ?_
                  case yad10 => (intro w' hw'; go_simp; try (with_reducible rfl))
                  simp only [Act.put]; try simp only [sA_, sZ_, sS_]
                  refine wpAnyR_take (pre_turned (fun i => i = g ∨ (i = b ∨ i = g2))) (i := 11) (d := some 74) (v := ?vad11) rfl rfl (by kernel_rfl) (by kernel_rfl) (by kernel_rfl) (fun _ _ _ h => h) (by rfl) ?yad11 ?_
                  case yad11 => (intro w' hw'; go_simp; try (with_reducible rfl))
                  simp only [Act.put]; try simp only [sA_, sZ_, sS_]
                  refine wpAnyR_take (pre_turned (fun i => i = g ∨ (i = b ∨ i = g2))) (i := 12) (d := some 75) (v := ?vad12) rfl rfl (by kernel_rfl) (by kernel_rfl) (by kernel_rfl) (fun _ _ _ h => h) (by rfl) ?yad12 ?_
                  case yad12 => (intro w' hw'; go_simp; try (with_reducible rfl))
                  simp only [Act.put]; try simp only [sA_, sZ_, sS_]
                  refine wpAnyR_take (pre_turned (fun i => i = g ∨ (i = b ∨ i = g2))) (i := 13) (d := some 76) (v := ?vad13) rfl rfl (by kernel_rfl) (by kernel_rfl) (by kernel_rfl) (fun _ _ _ h => h) (by rfl) ?yad13 ?_
                  case yad13 => (intro w' hw'; go_simp; try (with_reducible rfl))
                  simp only [Act.put]; try simp only [sA_, sZ_, sS_]
                  refine wpAnyR_take (pre_turned (fun i => i = g ∨ (i = b ∨ i = g2))) (i := 14) (d := some 77) (v := ?vad14) rfl rfl (by kernel_rfl) (by kernel_rfl) (by kernel_rfl) (fun _ _ _ h => h) (by rfl) ?yad14 ?_
                  case yad14 => (intro w' hw'; go_simp; try (with_reducible rfl))
                  simp only [Act.put]; try simp only [sA_, sZ_, sS_]
                  refine wpAnyR_take (pre_turned (fun i => i = g ∨ (i = b ∨ i = g2))) (i := 15) (d := some 78) (v := ?vad15) rfl rfl (by kernel_rfl) (by kernel_rfl) (by kernel_rfl) (fun _ _ _ h => h) (by rfl) ?yad15 ?_
                  case yad15 => (intro w' hw'; go_simp; try (with_reducible rfl))
                  simp only [Act.put]; try simp only [sA_, sZ_, sS_]
                  refine wpAnyR_take (pre_turned (fun i => i = g ∨ (i = b ∨ i = g2))) (i := 16) (d := some 79) (v := .agg (x.cells xs).toArray) rfl rfl (by kernel_rfl) (by kernel_rfl) (by kernel_rfl) (fun _ _ _ h => h) (by rfl) ?yad16 ?_
                  case yad16 => (intro w' hw'; have hwt : Turned (fun i => i = g ∨ (i = b ∨ i = g2)) v2.drew w' := hw'; exact exec_load_row _ (by rfl) (by rfl) (HRX.out w' hwt))
                  simp only [Act.put]; try simp only [sA_, sZ_, sS_]
                  refine wpAnyR_take (pre_turned (fun i => i = g ∨ (i = b ∨ i = g2))) (i := 18) (d := some 81) (v := ?vad18) rfl rfl (by kernel_rfl) (by kernel_rfl) (by kernel_rfl) (fun _ _ _ h => h) (by rfl) ?yad18 ?_
                  case yad18 => (intro w' hw'; go_simp; try (with_reducible rfl))
                  simp only [Act.put]; try simp only [sA_, sZ_, sS_]
                  refine wpAnyR_take (pre_turned (fun i => i = g ∨ (i = b ∨ i = g2))) (i := 19) (d := some 82) (v := ?vad19) rfl rfl (by kernel_rfl) (by kernel_rfl) (by kernel_rfl) (fun _ _ _ h => h) (by rfl) ?yad19 ?_
                  case yad19 => (intro w' hw'; go_simp; try (with_reducible rfl))
                  simp only [Act.put]; try simp only [sA_, sZ_, sS_]
                  refine wpAnyR_take (pre_turned (fun i => i = g ∨ (i = b ∨ i = g2))) (i := 20) (d := some 83) (v := ?vad20) rfl rfl (by kernel_rfl) (by kernel_rfl) (by kernel_rfl) (fun _ _ _ h => h) (by rfl) ?yad20 ?_
                  case yad20 => (intro w' hw'; go_simp; try (with_reducible rfl))
                  simp only [Act.put]; try simp only [sA_, sZ_, sS_]
                  refine wpAnyR_take (pre_turned (fun i => i = g ∨ (i = b ∨ i = g2))) (i := 21) (d := some 84) (v := ?vad21) rfl rfl (by kernel_rfl) (by kernel_rfl) (by kernel_rfl) (fun _ _ _ h => h) (by rfl) ?yad21 ?_
                  case yad21 => (intro w' hw'; go_simp; try (with_reducible rfl))
                  simp only [Act.put]; try simp only [sA_, sZ_, sS_]
                  refine wpAnyR_take (pre_turned (fun i => i = g ∨ (i = b ∨ i = g2))) (i := 22) (d := some 85) (v := .agg (x.cells xs).toArray) rfl rfl (by kernel_rfl) (by kernel_rfl) (by kernel_rfl) (fun _ _ _ h => h) (by rfl) ?yad22 ?_
                  case yad22 => (intro w' hw'; have hwt : Turned (fun i => i = g ∨ (i = b ∨ i = g2)) v2.drew w' := hw'; exact exec_load_row _ (by rfl) (by rfl) (HRX.out w' hwt))
                  simp only [Act.put]; try simp only [sA_, sZ_, sS_]
                  refine wpAnyR_only (i := 17) rfl (by kernel_rfl) (by rfl) fun K hK => ?_
                  go_simp
                  refine CC.out.mono ?_
                  rintro e u1 ⟨rfl, hb1, ht1⟩
                  have HBU := hide hb1
                  have TU1 : Hid (Turned (fun i => i = g ∨ (i = b ∨ i = g2)) v2.drew u1) := ht1.mono (fun i hi => hi.elim .inl (fun e => .inr (.inl e)))
                  have HRU : Hid (RBookAt FF u1 g2 m t5) := (HRV2.out.later (Later.drew _)).turned ht1 (fun e => by have := HAP.out; omega) (fun i hi e => by have a1 := (HFU.out i).1 hi; omega)
                  refine hK.out _ _ TU1.out ?_
                  clear hb1 ht1 CC
                  clear hK K
                  try (simp only [Act.put]; try simp only [sA_, sZ_, sS_])
                  refine wpAnyR_only (i := 23) rfl (by kernel_rfl) (by rfl) fun K hK => ?_
                  go_simp
                  have CD := hide (rapply_any (w := u1) (o := x) (A := yA) (n := x.steps.length) (c := yc) HRU.out (by have := HN5.out; omega) (HSX.out u1 TU1.out) HXW.out (by have := HN5.out; omega) (fun i hi => by have a1 := HBU.out.lt; have a2 := HRU.out.lt; exact (HFU.out i).2 ⟨by omega, by omega, by omega⟩))
                  rw [← HYS.out, HRR.out, HT6.out] at CD
                  refine CD.out.mono ?_
                  rintro e u2 ⟨rfl, hb2, ht2⟩
                  have HRU2 := hide hb2
                  have TU2 : Hid (Turned (fun i => i = g ∨ (i = b ∨ i = g2)) u1 u2) := ht2.mono (fun i hi => .inr (.inr hi))
                  have HBU2 : Hid (BookAt FF u2 g b (k + 1 + 1) m t6) := HBU.out.turned ht2 (fun e => by have := HAP.out; omega) (fun e => by have := HAP.out; omega) (fun i hi e => by have a1 := (HFU.out i).1 hi; omega)
                  refine hK.out _ _ TU2.out ?_
                  clear hb2 ht2 CD
                  clear hK K
                  try (simp only [Act.put]; try simp only [sA_, sZ_, sS_])
                  refine wpAnyR_take (pre_turned (fun i => i = g ∨ (i = b ∨ i = g2))) (i := 24) (d := some 87) (v := .bool false) rfl rfl (by kernel_rfl) (by kernel_rfl) (by kernel_rfl) (fun _ _ _ h => h) (by rfl) ?yad24 ?_
                  case yad24 => (intro w' hw'; exact (exec_neq_rep rr rr _ _ _ (by rfl) (by rfl) (by rfl)).trans (by rw [show (!decide (rr = rr)) = false from by simp]))
                  simp only [Act.put]; try simp only [sA_, sZ_, sS_]
                  refine wpAnyR_take (pre_turned (fun i => i = g ∨ (i = b ∨ i = g2))) (i := 25) (d := some 88) (v := .bool false) rfl rfl (by kernel_rfl) (by kernel_rfl) (by kernel_rfl) (fun _ _ _ h => h) (by rfl) ?yad25 ?_
                  case yad25 => (intro w' hw'; go_simp; try (with_reducible rfl))
                  simp only [Act.put]; try simp only [sA_, sZ_, sS_]
                  refine wpAnyR_done (by kernel_rfl) ?_ _
                  have TX : Hid (Turned (fun i => i = g ∨ (i = b ∨ i = g2)) w3 u2) := T5v.out.trans (Turned.of_drew (TU1.out.trans TU2.out))
                  have CE := hide (lsame_any HBU2.out HRU2.out (by have := HN6.out; omega))
                  go_wp2_with (fail)
                  refine CE.out.mono ?_
                  rintro e z9 ⟨rfl, hl9⟩
                  have HBF := hide (HBU2.out.later hl9)
                  have HRF := hide (HRU2.out.later hl9)
                  have TF : Hid (Turned (fun i => i = g ∨ (i = b ∨ i = g2)) w3 z9) := (TX.out).trans (Turned.of_below hl9 _)
                  clear hl9 CE
                  go_wp2
                  go_roundw
                  case rel => exact ⟨q + 1, k + 1 + 1, t6, by omega, by go_num, by omega, (by have := HN6.out; exact ⟨by omega, by omega⟩), HBF.out, HRF.out, TF.out⟩
                  case measure => simp [Go.RowKit.intOf]; omega
                · have hla : decide (t5.last < 1099511627776) = false := by simp; omega
                  have HCL : Hid (∀ W, Later v2 W → W.cell? ⟨g2, 1, none⟩ = some (.int .i64 t5.last)) := fun W hW => by
                    obtain ⟨_, _, _, hb9, _⟩ := (HRV2.out.later hW).body
                    exact cell_of_row W g2 1 _ _ _ hb9
                  clear hla0
                  go_wp2_with (fail)
                  refine wp_region_L (by kernel_rfl) ?_
                  refine wpAnyL_take (i := 0) (d := some 63) (v := ?vac0) rfl rfl (by kernel_rfl) (by kernel_rfl) (by kernel_rfl) (fun _ _ _ h => h) (by rfl) ?yac0 ?_
                  case yac0 => (intro w' hw'; go_simp; try (with_reducible rfl))
                  simp only [Act.put]; try simp only [sA_, sZ_, sS_]
                  refine wpAnyL_take (i := 1) (d := some 64) (v := ?vac1) rfl rfl (by kernel_rfl) (by kernel_rfl) (by kernel_rfl) (fun _ _ _ h => h) (by rfl) ?yac1 ?_
                  case yac1 => (intro w' hw'; go_simp; try (with_reducible rfl))
                  simp only [Act.put]; try simp only [sA_, sZ_, sS_]
                  refine wpAnyL_take (i := 2) (d := some 65) (v := ?vac2) rfl rfl (by kernel_rfl) (by kernel_rfl) (by kernel_rfl) (fun _ _ _ h => h) (by rfl) ?yac2 ?_
                  case yac2 => (intro w' hw'; go_simp; try (with_reducible rfl))
                  simp only [Act.put]; try simp only [sA_, sZ_, sS_]
                  refine wpAnyL_take (i := 3) (d := some 66) (v := .bool true) rfl rfl (by kernel_rfl) (by kernel_rfl) (by kernel_rfl) (fun _ _ _ h => h) (by rfl) ?yac3 ?_
                  case yac3 => (intro w' hw'; go_simp; first | done | exact congrArg _ (congrArg _ hlt) | (simp; omega))
                  simp only [Act.put]; try simp only [sA_, sZ_, sS_]
                  refine wpAnyL_take (i := 4) (d := some 67) (v := ?vac4) rfl rfl (by kernel_rfl) (by kernel_rfl) (by kernel_rfl) (fun _ _ _ h => h) (by rfl) ?yac4 ?_
                  case yac4 => (intro w' hw'; go_simp; try (with_reducible rfl))
                  simp only [Act.put]; try simp only [sA_, sZ_, sS_]
                  refine wpAnyL_take (i := 5) (d := some 68) (v := ?vac5) rfl rfl (by kernel_rfl) (by kernel_rfl) (by kernel_rfl) (fun _ _ _ h => h) (by rfl) ?yac5 ?_
                  case yac5 => (intro w' hw'; go_simp; try (with_reducible rfl))
                  simp only [Act.put]; try simp only [sA_, sZ_, sS_]
                  refine wpAnyL_take (i := 6) (d := some 69) (v := ?vac6) rfl rfl (by kernel_rfl) (by kernel_rfl) (by kernel_rfl) (fun _ _ _ h => h) (by rfl) ?yac6 ?_
                  case yac6 => (intro w' hw'; go_simp; try (with_reducible rfl))
                  simp only [Act.put]; try simp only [sA_, sZ_, sS_]
                  refine wpAnyL_take (i := 7) (d := some 70) (v := ?vac7) rfl rfl (by kernel_rfl) (by kernel_rfl) (by kernel_rfl) (fun _ _ _ h => h) (by rfl) ?yac7 ?_
                  case yac7 => (intro w' hw'; go_simp; try (with_reducible rfl))
                  simp only [Act.put]; try simp only [sA_, sZ_, sS_]
                  refine wpAnyL_take (i := 8) (d := some 71) (v := ?vac8) rfl rfl (by kernel_rfl) (by kernel_rfl) (by kernel_rfl) (fun _ _ _ h => h) (by rfl) ?yac8 ?_
                  case yac8 => (intro w' hw'; have cc := HCL.out w' (Later.trans (Later.drew _) hw'); go_simp; try (with_reducible rfl))
                  simp only [Act.put]; try simp only [sA_, sZ_, sS_]
                  refine wpAnyL_take (i := 9) (d := some 72) (v := .bool false) rfl rfl (by kernel_rfl) (by kernel_rfl) (by kernel_rfl) (fun _ _ _ h => h) (by rfl) ?yac9 ?_
                  case yac9 => (intro w' hw'; go_simp; first | done | exact congrArg _ (congrArg _ hla) | (simp; omega))
                  simp only [Act.put]; try simp only [sA_, sZ_, sS_]
                  refine wpAnyL_take (i := 10) (d := some 73) (v := .bool false) rfl rfl (by kernel_rfl) (by kernel_rfl) (by kernel_rfl) (fun _ _ _ h => h) (by rfl) ?yac10 ?_
                  case yac10 => (intro w' hw'; go_simp; try (with_reducible rfl))
                  simp only [Act.put]; try simp only [sA_, sZ_, sS_]
                  refine wpAnyL_take (i := 11) (d := some 74) (v := ?vac11) rfl rfl (by kernel_rfl) (by kernel_rfl) (by kernel_rfl) (fun _ _ _ h => h) (by rfl) ?yac11 ?_
                  case yac11 => (intro w' hw'; go_simp; try (with_reducible rfl))
                  simp only [Act.put]; try simp only [sA_, sZ_, sS_]
                  refine wpAnyL_pass (i := 12) (d := some 75) rfl rfl (by kernel_rfl) (by kernel_rfl) (by kernel_rfl) (fun _ _ _ h => h) (by rfl) ?_
                  try (simp only [Act.put]; try simp only [sA_, sZ_, sS_])
                  refine wpAnyL_pass (i := 13) (d := some 76) rfl rfl (by kernel_rfl) (by kernel_rfl) (by kernel_rfl) (fun _ _ _ h => h) (by rfl) ?_
                  try (simp only [Act.put]; try simp only [sA_, sZ_, sS_])
                  refine wpAnyL_pass (i := 14) (d := some 77) rfl rfl (by kernel_rfl) (by kernel_rfl) (by kernel_rfl) (fun _ _ _ h => h) (by rfl) ?_
                  try (simp only [Act.put]; try simp only [sA_, sZ_, sS_])
                  refine wpAnyL_pass (i := 15) (d := some 78) rfl rfl (by kernel_rfl) (by kernel_rfl) (by kernel_rfl) (fun _ _ _ h => h) (by rfl) ?_
                  try (simp only [Act.put]; try simp only [sA_, sZ_, sS_])
                  refine wpAnyL_pass (i := 16) (d := some 79) rfl rfl (by kernel_rfl) (by kernel_rfl) (by kernel_rfl) (fun _ _ _ h => h) (by rfl) ?_
                  try (simp only [Act.put]; try simp only [sA_, sZ_, sS_])
                  refine wpAnyL_pass (i := 18) (d := some 81) rfl rfl (by kernel_rfl) (by kernel_rfl) (by kernel_rfl) (fun _ _ _ h => h) (by rfl) ?_
                  try (simp only [Act.put]; try simp only [sA_, sZ_, sS_])
                  refine wpAnyL_pass (i := 19) (d := some 82) rfl rfl (by kernel_rfl) (by kernel_rfl) (by kernel_rfl) (fun _ _ _ h => h) (by rfl) ?_
                  try (simp only [Act.put]; try simp only [sA_, sZ_, sS_])
                  refine wpAnyL_pass (i := 20) (d := some 83) rfl rfl (by kernel_rfl) (by kernel_rfl) (by kernel_rfl) (fun _ _ _ h => h) (by rfl) ?_
                  try (simp only [Act.put]; try simp only [sA_, sZ_, sS_])
                  refine wpAnyL_pass (i := 21) (d := some 84) rfl rfl (by kernel_rfl) (by kernel_rfl) (by kernel_rfl) (fun _ _ _ h => h) (by rfl) ?_
                  try (simp only [Act.put]; try simp only [sA_, sZ_, sS_])
                  refine wpAnyL_pass (i := 22) (d := some 85) rfl rfl (by kernel_rfl) (by kernel_rfl) (by kernel_rfl) (fun _ _ _ h => h) (by rfl) ?_
                  try (simp only [Act.put]; try simp only [sA_, sZ_, sS_])
                  refine wpAnyL_pass (i := 17) (d := some 80) rfl rfl (by kernel_rfl) (by kernel_rfl) (by kernel_rfl) (fun _ _ _ h => h) (by rfl) ?_
                  try (simp only [Act.put]; try simp only [sA_, sZ_, sS_])
                  refine wpAnyL_pass (i := 23) (d := some 86) rfl rfl (by kernel_rfl) (by kernel_rfl) (by kernel_rfl) (fun _ _ _ h => h) (by rfl) ?_
                  try (simp only [Act.put]; try simp only [sA_, sZ_, sS_])
                  refine wpAnyL_pass (i := 24) (d := some 87) rfl rfl (by kernel_rfl) (by kernel_rfl) (by kernel_rfl) (fun _ _ _ h => h) (by rfl) ?_
                  try (simp only [Act.put]; try simp only [sA_, sZ_, sS_])
                  refine wpAnyL_take (i := 25) (d := some 88) (v := .bool false) rfl rfl (by kernel_rfl) (by kernel_rfl) (by kernel_rfl) (fun _ _ _ h => h) (by rfl) ?yac25 ?_
                  case yac25 => (intro w' hw'; go_simp; try (with_reducible rfl))
                  simp only [Act.put]; try simp only [sA_, sZ_, sS_]
                  refine wpAnyL_done (by kernel_rfl) ?_ _
                  have HBD := hide (HBV2.out.later (Later.drew _))
                  have HRD := hide (HRV2.out.later (Later.drew _))
                  have TX : Hid (Turned (fun i => i = g ∨ (i = b ∨ i = g2)) w3 v2.drew) := T5v.out.trans (Turned.of_below (Later.drew _) _)
                  have CE := hide (lsame_any HBD.out HRD.out (by have := HN5.out; omega))
                  go_wp2_with (fail)
                  refine CE.out.mono ?_
                  rintro e z9 ⟨rfl, hl9⟩
                  have HBF := hide (HBD.out.later hl9)
                  have HRF := hide (HRD.out.later hl9)
                  have TF : Hid (Turned (fun i => i = g ∨ (i = b ∨ i = g2)) w3 z9) := (TX.out).trans (Turned.of_below hl9 _)
                  clear hl9 CE
                  go_wp2
                  go_roundw
                  case rel => exact ⟨q + 1, k + 1, t5, by omega, by go_num, by omega, (by have := HN5.out; exact ⟨by omega, by omega⟩), HBF.out, HRF.out, TF.out⟩
                  case measure => simp [Go.RowKit.intOf]; omega
              · have hlt : decide ((q : Int) < (n2 : Int)) = false := by simp; omega
                go_wp2_with (fail)
                refine wp_region_L (by kernel_rfl) ?_
                refine wpAnyL_take (i := 0) (d := some 63) (v := ?vab0) rfl rfl (by kernel_rfl) (by kernel_rfl) (by kernel_rfl) (fun _ _ _ h => h) (by rfl) ?yab0 ?_
                case yab0 => (intro w' hw'; go_simp; try (with_reducible rfl))
                simp only [Act.put]; try simp only [sA_, sZ_, sS_]
                refine wpAnyL_take (i := 1) (d := some 64) (v := ?vab1) rfl rfl (by kernel_rfl) (by kernel_rfl) (by kernel_rfl) (fun _ _ _ h => h) (by rfl) ?yab1 ?_
                case yab1 => (intro w' hw'; go_simp; try (with_reducible rfl))
                simp only [Act.put]; try simp only [sA_, sZ_, sS_]
                refine wpAnyL_take (i := 2) (d := some 65) (v := ?vab2) rfl rfl (by kernel_rfl) (by kernel_rfl) (by kernel_rfl) (fun _ _ _ h => h) (by rfl) ?yab2 ?_
                case yab2 => (intro w' hw'; go_simp; try (with_reducible rfl))
                simp only [Act.put]; try simp only [sA_, sZ_, sS_]
                refine wpAnyL_take (i := 3) (d := some 66) (v := .bool false) rfl rfl (by kernel_rfl) (by kernel_rfl) (by kernel_rfl) (fun _ _ _ h => h) (by rfl) ?yab3 ?_
                case yab3 => (intro w' hw'; go_simp; first | done | exact congrArg _ (congrArg _ hlt) | (simp; omega))
                simp only [Act.put]; try simp only [sA_, sZ_, sS_]
                refine wpAnyL_take (i := 4) (d := some 67) (v := ?vab4) rfl rfl (by kernel_rfl) (by kernel_rfl) (by kernel_rfl) (fun _ _ _ h => h) (by rfl) ?yab4 ?_
                case yab4 => (intro w' hw'; go_simp; try (with_reducible rfl))
                simp only [Act.put]; try simp only [sA_, sZ_, sS_]
                refine wpAnyL_pass (i := 5) (d := some 68) rfl rfl (by kernel_rfl) (by kernel_rfl) (by kernel_rfl) (fun _ _ _ h => h) (by rfl) ?_
                try (simp only [Act.put]; try simp only [sA_, sZ_, sS_])
                refine wpAnyL_pass (i := 6) (d := some 69) rfl rfl (by kernel_rfl) (by kernel_rfl) (by kernel_rfl) (fun _ _ _ h => h) (by rfl) ?_
                try (simp only [Act.put]; try simp only [sA_, sZ_, sS_])
                refine wpAnyL_pass (i := 7) (d := some 70) rfl rfl (by kernel_rfl) (by kernel_rfl) (by kernel_rfl) (fun _ _ _ h => h) (by rfl) ?_
                try (simp only [Act.put]; try simp only [sA_, sZ_, sS_])
                refine wpAnyL_pass (i := 8) (d := some 71) rfl rfl (by kernel_rfl) (by kernel_rfl) (by kernel_rfl) (fun _ _ _ h => h) (by rfl) ?_
                try (simp only [Act.put]; try simp only [sA_, sZ_, sS_])
                refine wpAnyL_pass (i := 9) (d := some 72) rfl rfl (by kernel_rfl) (by kernel_rfl) (by kernel_rfl) (fun _ _ _ h => h) (by rfl) ?_
                try (simp only [Act.put]; try simp only [sA_, sZ_, sS_])
                refine wpAnyL_take (i := 10) (d := some 73) (v := .bool false) rfl rfl (by kernel_rfl) (by kernel_rfl) (by kernel_rfl) (fun _ _ _ h => h) (by rfl) ?yab10 ?_
                case yab10 => (intro w' hw'; go_simp; try (with_reducible rfl))
                simp only [Act.put]; try simp only [sA_, sZ_, sS_]
                refine wpAnyL_take (i := 11) (d := some 74) (v := ?vab11) rfl rfl (by kernel_rfl) (by kernel_rfl) (by kernel_rfl) (fun _ _ _ h => h) (by rfl) ?yab11 ?_
                case yab11 => (intro w' hw'; go_simp; try (with_reducible rfl))
                simp only [Act.put]; try simp only [sA_, sZ_, sS_]
                refine wpAnyL_pass (i := 12) (d := some 75) rfl rfl (by kernel_rfl) (by kernel_rfl) (by kernel_rfl) (fun _ _ _ h => h) (by rfl) ?_
                try (simp only [Act.put]; try simp only [sA_, sZ_, sS_])
                refine wpAnyL_pass (i := 13) (d := some 76) rfl rfl (by kernel_rfl) (by kernel_rfl) (by kernel_rfl) (fun _ _ _ h => h) (by rfl) ?_
                try (simp only [Act.put]; try simp only [sA_, sZ_, sS_])
                refine wpAnyL_pass (i := 14) (d := some 77) rfl rfl (by kernel_rfl) (by kernel_rfl) (by kernel_rfl) (fun _ _ _ h => h) (by rfl) ?_
                try (simp only [Act.put]; try simp only [sA_, sZ_, sS_])
                refine wpAnyL_pass (i := 15) (d := some 78) rfl rfl (by kernel_rfl) (by kernel_rfl) (by kernel_rfl) (fun _ _ _ h => h) (by rfl) ?_
                try (simp only [Act.put]; try simp only [sA_, sZ_, sS_])
                refine wpAnyL_pass (i := 16) (d := some 79) rfl rfl (by kernel_rfl) (by kernel_rfl) (by kernel_rfl) (fun _ _ _ h => h) (by rfl) ?_
                try (simp only [Act.put]; try simp only [sA_, sZ_, sS_])
                refine wpAnyL_pass (i := 18) (d := some 81) rfl rfl (by kernel_rfl) (by kernel_rfl) (by kernel_rfl) (fun _ _ _ h => h) (by rfl) ?_
                try (simp only [Act.put]; try simp only [sA_, sZ_, sS_])
                refine wpAnyL_pass (i := 19) (d := some 82) rfl rfl (by kernel_rfl) (by kernel_rfl) (by kernel_rfl) (fun _ _ _ h => h) (by rfl) ?_
                try (simp only [Act.put]; try simp only [sA_, sZ_, sS_])
                refine wpAnyL_pass (i := 20) (d := some 83) rfl rfl (by kernel_rfl) (by kernel_rfl) (by kernel_rfl) (fun _ _ _ h => h) (by rfl) ?_
                try (simp only [Act.put]; try simp only [sA_, sZ_, sS_])
                refine wpAnyL_pass (i := 21) (d := some 84) rfl rfl (by kernel_rfl) (by kernel_rfl) (by kernel_rfl) (fun _ _ _ h => h) (by rfl) ?_
                try (simp only [Act.put]; try simp only [sA_, sZ_, sS_])
                refine wpAnyL_pass (i := 22) (d := some 85) rfl rfl (by kernel_rfl) (by kernel_rfl) (by kernel_rfl) (fun _ _ _ h => h) (by rfl) ?_
                try (simp only [Act.put]; try simp only [sA_, sZ_, sS_])
                refine wpAnyL_pass (i := 17) (d := some 80) rfl rfl (by kernel_rfl) (by kernel_rfl) (by kernel_rfl) (fun _ _ _ h => h) (by rfl) ?_
                try (simp only [Act.put]; try simp only [sA_, sZ_, sS_])
                refine wpAnyL_pass (i := 23) (d := some 86) rfl rfl (by kernel_rfl) (by kernel_rfl) (by kernel_rfl) (fun _ _ _ h => h) (by rfl) ?_
                try (simp only [Act.put]; try simp only [sA_, sZ_, sS_])
                refine wpAnyL_pass (i := 24) (d := some 87) rfl rfl (by kernel_rfl) (by kernel_rfl) (by kernel_rfl) (fun _ _ _ h => h) (by rfl) ?_
                try (simp only [Act.put]; try simp only [sA_, sZ_, sS_])
                refine wpAnyL_take (i := 25) (d := some 88) (v := .bool false) rfl rfl (by kernel_rfl) (by kernel_rfl) (by kernel_rfl) (fun _ _ _ h => h) (by rfl) ?yab25 ?_
                case yab25 => (intro w' hw'; go_simp; try (with_reducible rfl))
                simp only [Act.put]; try simp only [sA_, sZ_, sS_]
                refine wpAnyL_done (by kernel_rfl) ?_ _
                have HBD := hide (HBV2.out.later (Later.drew _))
                have HRD := hide (HRV2.out.later (Later.drew _))
                have TX : Hid (Turned (fun i => i = g ∨ (i = b ∨ i = g2)) w3 v2.drew) := T5v.out.trans (Turned.of_below (Later.drew _) _)
                have CE := hide (lsame_any HBD.out HRD.out (by have := HN5.out; omega))
                go_wp2_with (fail)
                refine CE.out.mono ?_
                rintro e z9 ⟨rfl, hl9⟩
                have HBF := hide (HBD.out.later hl9)
                have HRF := hide (HRD.out.later hl9)
                have TF : Hid (Turned (fun i => i = g ∨ (i = b ∨ i = g2)) w3 z9) := (TX.out).trans (Turned.of_below hl9 _)
                clear hl9 CE
                go_wp2
                go_roundw
                case rel => exact ⟨q + 1, k + 1, t5, by omega, by go_num, by omega, (by have := HN5.out; exact ⟨by omega, by omega⟩), HBF.out, HRF.out, TF.out⟩
                case measure => simp [Go.RowKit.intOf]; omega
          · obtain rfl : q = n := by omega
            go_wp2_with (fail)
            refine (lives_any (w := wr)).mono ?_
            rintro e w9 ⟨rfl, hl⟩
            have La : Later w wr := LR.out
            have L9 : Hid (Later w w9) := Later.trans La hl
            clear hl La
            go_wp2
            go_ret
            exact ⟨rfl, L9.out⟩
      · have CN := hide (new_no m w1 (by omega))
        have CR := hide (rnew_no m w1 (by omega))
        clear hr
        go_wp2_with (fail)
        refine CN.out.mono ?_
        rintro e w2 ⟨rfl, hq2⟩
        obtain rfl := hq2
        go_wp2_with (fail)
        refine CR.out.mono ?_
        rintro e w2 ⟨rfl, hq2⟩
        obtain rfl := hq2
        go_wp2_with (fail)
        refine (lives_any (w := w1)).mono ?_
        rintro e w9 ⟨rfl, hl⟩
        have La : Later w w1 := L1.out
        have L9 : Hid (Later w w9) := Later.trans La hl
        clear hl La
        go_wp2
        go_ret
        exact ⟨rfl, L9.out⟩
end
end Go.Proofs.YtpckdhjnhnonhaaGreat
/- BookSets, as the claim asks it. -/
namespace Go.Proofs.YtpckdhjnhnonhaaGreat
open Go.RowKit
theorem law_setsW (m : Int) (pv : Value) (P : List PutD) (v : Value) (l : List OpD) (w : World) (hm : I64 m) (hp : PutsAt (· < w.heap.size) w pv P) (hpw : ∀ x ∈ P, PutWf x) (h1 : OpsAt (· < w.heap.size) w v l) (hw : ∀ x ∈ l, x.wf) :
    Calls Tryz.prog 4 #[.int .i64 m, pv, v] w fun e w' => e = .returned (.bool true) ∧ Later w w' := law_sets m hm hp hpw h1 hw
end Go.Proofs.YtpckdhjnhnonhaaGreat
namespace Go.Proofs.YtpckdhjnhnonhaaGreat
open Go.ChangeShapes Go.WideShapes Go.ChangeAt Go.RowKit

theorem bookSets_lawKnobs : ownKnob Tryz.prog.godebug = none := by kernel_rfl
theorem bookSets_allLaid : laidOutB Tryz.prog = true := by kernel_rfl

set_option maxRecDepth 100000 in
set_option maxHeartbeats 1000000 in
theorem bookSets_lifted (os : Os) (started : os.Started) (H : Type) (enc : TypeId × Value → H) :
    ReturnsInHanded {} Tryz.checked os 4 .any (Rows.bookSetsSpec.pre6 enc Tryz.prog Tryz.f4 Rows.bookSetsRow.domain false) (Rows.bookSetsSpec.post enc Tryz.prog Tryz.f4 false true false false) := by
  refine returnsInHanded_of_change_sized (C := Tryz.checked) bookSets_lawKnobs started (by kernel_rfl) Tryz.func4
    (ChangeSpec.witness6 (enc := enc) (C := Tryz.checked) false ⟨#[], #[.int .i64 0, .slice none 0 0, .slice none 0 0], []⟩ 8 (by kernel_rfl) (by kernel_rfl) (by kernel_rfl) (by kernel_rfl)) ?_
  intro W base args ds gs before hval0 hW hcnd hsz _
  have hval : ∀ (j : Nat) t v, Tryz.f4.params[j]? = some t → args[j]? = some v → Value.okWide Tryz.prog W .any base t v := hval0
  have hW' := hW
  obtain ⟨p, q, hA0, hV, rfl, _, _⟩ := hW
  have hA : DataW.TrodAll enc Tryz.prog W 0 (fun _ => true) true Tryz.f4.params.toList args.toList ds p := hA0
  rw [Tryz.params4] at hA hval
  obtain ⟨v0, vs0, d0, ds0, p0, q0, hargs, rfl, rfl, h0, r0⟩ := trodAll_cons hA
  obtain ⟨v1, vs1, d1, ds1, p1, q1, rfl, rfl, rfl, h1, r1⟩ := trodAll_cons r0
  obtain ⟨v2, vs2, d2, ds2, p2, q2, rfl, rfl, rfl, h2, r2⟩ := trodAll_cons r1
  obtain ⟨rfl, rfl, rfl⟩ := trodAll_nil r2
  obtain rfl : args = #[v0, v1, v2] := by cases args; simp_all
  obtain ⟨rfl, rfl⟩ := trodVars_none hV
  have k0 := h0
  obtain ⟨a0, rfl, rfl, rfl, w0⟩ := open_int Tryz.underlying3 (hval 0 3 v0 rfl rfl) h0
  have b0 := bounds_i64 w0
  have k1 := h1
  have lt1 : ∀ x ∈ p1, x.block < W.heap.size := by obtain ⟨m, hm⟩ := k1; exact DataW.trod_lt m _ _ _ hm
  have s1 : Sm 50 d1 := sm_of hsz (j := 1) rfl rfl
  obtain ⟨A1, len1, cap1, rfl⟩ := okWide_slice Tryz.underlying50 (hval 1 50 v1 rfl rfl)
  obtain ⟨l1, hl1, wf1⟩ := arg_puts h1 s1
  have k2 := h2
  have lt2 : ∀ x ∈ p2, x.block < W.heap.size := by obtain ⟨m, hm⟩ := k2; exact DataW.trod_lt m _ _ _ hm
  have s2 : Sm 22 d2 := sm_of hsz (j := 2) rfl rfl
  obtain ⟨A2, len2, cap2, rfl⟩ := okWide_slice Tryz.underlying22 (hval 2 22 v2 rfl rfl)
  obtain ⟨l2, hl2, wf2⟩ := arg_ops h2 s2
  clear hA0 hval0
  refine (law_setsW a0 (.slice A1 len1 cap1) l1 (.slice A2 len2 cap2) l2 W (show I64 a0 from by unfold I64; omega) hl1 wf1 hl2 wf2).mono fun e W' ⟨he, bel⟩ => ?_
  subst he
  exact ⟨_, rfl, _, _, _, [], _, [], hW', trodAll_mk1 (shut_bool Tryz.underlying4 _), (trodAll_cons_mk (shut_int Tryz.underlying3 w0) (trodAll_cons_mk (Below.trod bookSets_allLaid (by kernel_rfl) (of_decide_eq_true (by kernel_rfl)) k1 bel lt1) (trodAll_cons_mk (Below.trod bookSets_allLaid (by kernel_rfl) (of_decide_eq_true (by kernel_rfl)) k2 bel lt2) trodAll_mk0))), rfl, bel.frame _, fun h => by cases h⟩

theorem bookSets_over : Rows.bookSetsRow.holds Tryz.pinned (OpenSpec.ofChange Rows.bookSetsSpec) :=
  OpenClaim.holds_of_wide 4 Tryz.f4 rfl rfl rfl rfl rfl rfl rfl ⟨rfl, rfl, rfl, rfl, rfl⟩ rfl rfl rfl rfl rfl (by kernel_rfl) Tryz.func4 (by kernel_rfl)
    (of_decide_eq_true (by kernel_rfl)) (by unfold Func.isWrapper; first | (rw [if_pos (by decide +kernel)]; kernel_rfl) | (rw [if_neg (by decide +kernel)]; exact ⟨rfl, rfl⟩))
    (fun os started H enc _ => bookSets_lifted os started H enc)

theorem bookSets_holds : Rows.BookSetsSaid := bookSets_over
#print axioms bookSets_holds
end Go.Proofs.YtpckdhjnhnonhaaGreat
