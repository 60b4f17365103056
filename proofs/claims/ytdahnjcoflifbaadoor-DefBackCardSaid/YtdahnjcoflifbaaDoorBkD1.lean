/- Whatever definition and text come in: DefBack returns true and changes no argument. Conditions: the four package-level tables that it reads start as the program's text lays them; each argument takes up what the row allows. -/
import Derived.Test.YtdahnjcoflifbaaDoorBaseD1
import Derived.Test.YtdahnjcoflifbaaDoorBaseD2
import Derived.Test.YtdahnjcoflifbaaDoorBaseD3
import Derived.Shelf.Strings.BuilderK
import Derived.Test.YtdahnjcoflifbaaDoorProg
import Derived.WalkKit
import Derived.Lib.ItoaLen
import Derived.Shelf.Strconv.Itoa3
import Derived.Lib.LaidTab
import Derived.Lib.ItoaMem
import Derived.IntWalk
import Derived.Test.YtdahnjcoflifbaaDoorCards
import Derived.Test.YtdahnjcoflifbaaDoorTie
import Derived.SevenTiedAt
import Derived.ShutString
import Derived.ChangeOld
import Derived.ChangeMaps5
/- The document's Check. -/
namespace Go.Proofs.YtdahnjcoflifbaaDoor
open Go.RowKit

section
variable {w : World}
theorem decide_gt (a b : Int) : decide (a > b) = decide (b < a) := rfl
set_option maxHeartbeats 16000000 in
set_option maxRecDepth 100000 in
theorem rcheck_any {F : Nat → Prop} {name : ByteArray} {v : Value} {steps : List StepD} (h : StepsAt F w v steps) :
    Calls Tryd.prog 15 #[.agg #[.string name, v]] w fun e w' => e = .returned (.tuple #[.int .i64 (((checkF name steps).1 : Nat) : Int), .int .i64 (((checkF name steps).2 : Nat) : Int)]) ∧ Later w w' := by
  obtain ⟨A, cap, rfl, hc1, hc2, _⟩ := FlatAt.shape h
  obtain ⟨n, hn⟩ : ∃ n, steps.length = n := ⟨_, rfl⟩
  rw [hn] at h hc1 ⊢
  obtain ⟨c1, hc1'⟩ : ∃ c, (checkF name steps).1 = c := ⟨_, rfl⟩
  obtain ⟨c2, hc2'⟩ : ∃ c, (checkF name steps).2 = c := ⟨_, rfl⟩
  rw [hc1', hc2']
  have HC1 := hide hc1'
  have HC2 := hide hc2'
  obtain ⟨W1, hW1⟩ : ∃ W1, W1 = w.alloc (.cells #[.string name, .slice A n cap] 25 (0, 0)) := ⟨_, rfl⟩
  obtain ⟨y, hy⟩ : ∃ y, y = w.heap.size := ⟨_, rfl⟩
  have B1 : Hid (W1.heap[y]? = some (.cells #[.string name, .slice A n cap] 25 (0, 0))) := by rw [hW1, hy]; exact heap_alloc_new w _
  have L1 : Hid (Later w W1) := by rw [hW1]; exact (Below.refl _ _).alloc (Nat.le_refl _) _
  have CN := hide (refName_any (w := W1) name)
  obtain ⟨q0, hq0⟩ : ∃ q, nameF name.data.toList = q := ⟨_, rfl⟩
  rw [hq0] at CN
  have HBAD : Hid ((!nameF name.data.toList || (decide (steps.length < 1) || decide (8 < steps.length))) = (!q0 || (decide (n < 1) || decide (8 < n)))) := by show _ = _; rw [hq0, hn]
  have H := hide h
  have HN := hide hn
  have HW1 := hide hW1.symm
  have HY := hide hy.symm
  clear h hn hW1 hy hc1' hc2' hq0
  go_enter Tryd.func15, Tryd.ntmps15
  go_wp2_with (fail)
  have hw := HW1.out
  have hyy := HY.out
  simp only [hw, hyy]
  clear hw hyy
  have c0 : W1.cell? ⟨y, 0, none⟩ = some (.string name) := (cell_of_row W1 y 0 _ _ _ B1.out).trans rfl
  have hy1 : y < W1.heap.size := lt_of_block B1.out
  go_wp2_with (fail)
  refine CN.out.mono ?_
  rintro e w2 ⟨rfl, hl2⟩
  have L2 := hide (L1.out.trans hl2)
  have B2 : Hid (w2.heap[y]? = some (.cells #[.string name, .slice A n cap] 25 (0, 0))) := (Below.block hl2 y (lt_of_block B1.out)).trans B1.out
  have c1' : w2.cell? ⟨y, 1, none⟩ = some (.slice A n cap) := (cell_of_row w2 y 1 _ _ _ B2.out).trans rfl
  have hy2 : y < w2.heap.size := lt_of_block B2.out
  clear CN hl2 L1 c0 hy1
  by_cases hbad : (!q0 || (decide (n < 1) || decide (8 < n))) = true
  · have HF : Hid (checkF name steps = (0, 2)) := by show _ = _; unfold checkF; rw [HBAD.out, hbad]; rfl
    have e1 : c1 = 0 := by rw [← HC1.out, HF.out]
    have e2 : c2 = 2 := by rw [← HC2.out, HF.out]
    have E1 := hide e1
    have E2 := hide e2
    clear e1 e2
    cases q0 with
    | false =>
      clear hbad HBAD
      go_wp2
      go_ret2
      exact ⟨by rw [E1.out, E2.out]; rfl, L2.out⟩
    | true =>
      by_cases h1 : n < 1
      · have k1 : decide ((n : Int) < 1) = true := decide_eq_true (by omega)
        clear hbad HBAD
        go_wp2
        go_ret2
        exact ⟨by rw [E1.out, E2.out]; rfl, L2.out⟩
      · have k1 : decide ((n : Int) < 1) = false := decide_eq_false (by omega)
        have h8 : 8 < n := by simp at hbad; omega
        have k2 : decide ((n : Int) > 8) = true := decide_eq_true (by omega)
        clear hbad HBAD
        go_wp2
        go_ret2
        exact ⟨by rw [E1.out, E2.out]; rfl, L2.out⟩
  · obtain rfl : q0 = true := by cases q0 <;> simp_all
    have h1 : ¬ n < 1 := by simp at hbad; omega
    have h8 : ¬ 8 < n := by simp at hbad; omega
    have HF : Hid (checkF name steps = firstBad (steps.take 0) (steps.drop 0)) := by show _ = _; unfold checkF; rw [HBAD.out, if_neg hbad]; rfl
    have k1 : decide ((n : Int) < 1) = false := decide_eq_false (by omega)
    have k2 : decide ((n : Int) > 8) = false := decide_eq_false (by omega)
    clear hbad HBAD
    go_wp2_with (fail)
    go_loopw [4, 28] (fun t4 v wr => ∃ i : Nat, v = .int .i64 (i : Int) ∧ i ≤ n ∧ t4 = .bool (pivotB (steps.take i)) ∧ checkF name steps = firstBad (steps.take i) (steps.drop i) ∧ Later w2 wr) (fun _ v _ => n - (intOf v).toNat)
    case atStart => exact ⟨0, rfl, by omega, rfl, HF.out, Later.refl _⟩
    case round =>
      obtain ⟨i, rfl, hi, rfl, hsum, hlat⟩ := hrel
      clear k1 k2
      have HS := hide hsum
      have HL := hide hlat
      have BR : Hid (wr.heap[y]? = some (.cells #[.string name, .slice A n cap] 25 (0, 0))) := (Below.block hlat y (lt_of_block B2.out)).trans B2.out
      clear hsum hlat
      obtain ⟨pb, hpb⟩ : ∃ pb, pivotB (steps.take i) = pb := ⟨_, rfl⟩
      rw [hpb]
      by_cases hlt : i < n
      · have HR := hide (StepsAt.kept H.out (Kept.of_below (L2.out.trans HL.out) F))
        obtain ⟨s, b, off, c', hs', hvv, _, _, _, hr⟩ := StepsAt.at_ HR.out (i := i) (by rw [HN.out]; exact hlt)
        rw [HN.out] at hvv
        obtain ⟨rfl, rfl⟩ : A = some ⟨b, off, none⟩ ∧ cap = c' := by injection hvv with e1 _ e3; exact ⟨e1, e3⟩
        obtain ⟨r0, r1, r2, r3, r4, r5⟩ := range_step hr
        have HSI := hide hs'
        have HPB := hide hpb
        obtain ⟨W5, hW5⟩ : ∃ W5, W5 = wr.alloc (.cells s.cells.toArray 41 (0, 0)) := ⟨_, rfl⟩
        obtain ⟨x, hx⟩ : ∃ x, x = wr.heap.size := ⟨_, rfl⟩
        have B5 : Hid (StepBox x s W5) := by rw [hW5, hx]; exact heap_alloc_new wr _
        have L5 : Hid (Later wr W5) := by rw [hW5]; exact (Below.refl _ _).alloc (Nat.le_refl _) _
        have BR5 : Hid (W5.heap[y]? = some (.cells #[.string name, .slice (some ⟨b, off, none⟩) n cap] 25 (0, 0))) := (Below.block L5.out y (lt_of_block BR.out)).trans BR.out
        have CS := hide (refName_any (w := W5) s.name)
        obtain ⟨q1, hq1⟩ : ∃ q, nameF s.name.data.toList = q := ⟨_, rfl⟩
        rw [hq1] at CS
        obtain ⟨E, hE⟩ : ∃ E, stepErr (steps.take i) s = E := ⟨_, rfl⟩
        have HE := hide hE
        have HQ1 := hide hq1
        have hx5 : x < W5.heap.size := lt_of_block B5.out
        obtain ⟨b0, b1, b2, b3, b4, b5, bf⟩ := B5.out.cells
        unfold StepD.cells at hW5
        have HW5 := hide hW5.symm
        have HX := hide hx.symm
        have cR : wr.cell? ⟨y, 1, none⟩ = some (.slice (some ⟨b, off, none⟩) n cap) := (cell_of_row wr y 1 _ _ _ BR.out).trans rfl
        clear hs' hvv hr hW5 hx hE hq1 hpb bf b1 b2 b3 b4 b5
        go_wp2_with (fail)
        have hw := HW5.out
        have hxx := HX.out
        simp only [hw, hxx]
        clear hw hxx r0 r1 r2 r3 r4 r5 cR
        go_wp2_with (fail)
        refine CS.out.mono ?_
        rintro e w6 ⟨rfl, hl6⟩
        have HL6 : Hid (Later w2 w6) := HL.out.trans (L5.out.trans hl6)
        have B6 : Hid (StepBox x s w6) := (Below.block hl6 x (lt_of_block B5.out)).trans B5.out
        have BR6 : Hid (w6.heap[y]? = some (.cells #[.string name, .slice (some ⟨b, off, none⟩) n cap] 25 (0, 0))) := (Below.block hl6 y (lt_of_block BR5.out)).trans BR5.out
        have hx6 : x < w6.heap.size := lt_of_block B6.out
        obtain ⟨b0', b1, b2, b3, b4, b5, bf⟩ := B6.out.cells
        clear CS hl6 hx5 b0 bf
        have HDONE : ∀ k : Nat, k ≠ 0 → E = k → c1 = i + 1 ∧ c2 = k := fun k hk hEk => by
          have hres : checkF name steps = (i + 1, E) := by rw [HS.out, firstBad_at HSI.out, HE.out, if_neg (by omega)]
          exact ⟨by rw [← HC1.out, hres], by rw [← HC2.out, hres, hEk]⟩
        have HDN := hide HDONE
        clear HDONE
        by_cases hbad : stepBad s = true
        · have hE2 : E = 2 := by rw [← HE.out]; exact err_bad hbad
          obtain ⟨e1, e2⟩ := HDN.out 2 (by omega) hE2
          have E1 := hide e1
          have E2 := hide e2
          have LR := hide (L2.out.trans HL6.out)
          clear hE2 e1 e2 HDN
          unfold stepBad outB at hbad
          rw [HQ1.out] at hbad
          cases q1 with
          | false =>
            clear hbad
            go_wp2
            go_ret2
            exact ⟨by rw [E1.out, E2.out]; rfl, LR.out⟩
          | true =>
            by_cases g0 : s.stub < 1
            · have f0 : decide (s.stub < 1) = true := decide_eq_true g0
              clear hbad
              go_wp2
              go_ret2
              exact ⟨by rw [E1.out, E2.out]; rfl, LR.out⟩
            · have f0 : decide (s.stub < 1) = false := decide_eq_false g0
              by_cases g1 : s.stub > 4
              · have f1 : decide (s.stub > 4) = true := decide_eq_true g1
                clear hbad
                go_wp2
                go_ret2
                exact ⟨by rw [E1.out, E2.out]; rfl, LR.out⟩
              · have f1 : decide (s.stub > 4) = false := decide_eq_false g1
                by_cases g2 : s.retry < 0
                · have f2 : decide (s.retry < 0) = true := decide_eq_true g2
                  clear hbad
                  go_wp2
                  go_ret2
                  exact ⟨by rw [E1.out, E2.out]; rfl, LR.out⟩
                · have f2 : decide (s.retry < 0) = false := decide_eq_false g2
                  by_cases g3 : s.retry > 9
                  · have f3 : decide (s.retry > 9) = true := decide_eq_true g3
                    clear hbad
                    go_wp2
                    go_ret2
                    exact ⟨by rw [E1.out, E2.out]; rfl, LR.out⟩
                  · have f3 : decide (s.retry > 9) = false := decide_eq_false g3
                    by_cases g4 : s.wait < 1
                    · have f4 : decide (s.wait < 1) = true := decide_eq_true g4
                      clear hbad
                      go_wp2
                      go_ret2
                      exact ⟨by rw [E1.out, E2.out]; rfl, LR.out⟩
                    · have f4 : decide (s.wait < 1) = false := decide_eq_false g4
                      have g5 : s.wait > 99 := by
                        simp at hbad
                        omega
                      have f5 : decide (s.wait > 99) = true := decide_eq_true g5
                      clear hbad
                      go_wp2
                      go_ret2
                      exact ⟨by rw [E1.out, E2.out]; rfl, LR.out⟩
        · have HB0 : Hid (stepBad s = false) := by show _ = _; simpa using hbad
          unfold stepBad outB at hbad
          rw [HQ1.out] at hbad
          simp only [Bool.or_eq_true, Bool.not_eq_true', decide_eq_true_eq, not_or, Bool.not_eq_false] at hbad
          obtain ⟨rfl, ⟨g1, g2⟩, ⟨g3, g4⟩, g5, g6⟩ := hbad
          have f1 : decide (s.stub < 1) = false := decide_eq_false g1
          have f2 : decide (s.stub > 4) = false := decide_eq_false g2
          have f3 : decide (s.retry < 0) = false := decide_eq_false g3
          have f4 : decide (s.retry > 9) = false := decide_eq_false g4
          have f5 : decide (s.wait < 1) = false := decide_eq_false g5
          have f6 : decide (s.wait > 99) = false := decide_eq_false g6
          have d1 : w6.cell? ⟨y, 1, none⟩ = some (.slice (some ⟨b, off, none⟩) n cap) := (cell_of_row w6 y 1 _ _ _ BR6.out).trans rfl
          have hy6 : y < w6.heap.size := lt_of_block BR6.out
          clear g1 g2 g3 g4 g5 g6 b4 b5
          go_wp2_with (fail)
          clear f1 f2 f3 f4 f5 f6 b1 b2 b3
          go_loopw [74] (fun v wr' => ∃ j : Nat, v = .int .i64 (j : Int) ∧ j ≤ i ∧ namedB (steps.take j) s = false ∧ Later w6 wr') (fun v _ => i - (intOf v).toNat)
          case atStart => exact ⟨0, rfl, by omega, rfl, Later.refl _⟩
          case round =>
            obtain ⟨j, rfl, hj, hnm, hlat⟩ := hrel
            have HNM := hide hnm
            have HLJ := hide hlat
            clear hnm hlat
            have BJ : Hid (StepBox x s wr) := (Below.block HLJ.out x (lt_of_block B6.out)).trans B6.out
            by_cases hlj : j < i
            · have HRJ := hide (StepsAt.kept H.out (Kept.of_below (L2.out.trans (HL6.out.trans HLJ.out)) F))
              obtain ⟨sj, b', off', c'', hs', hvv, _, _, _, hr⟩ := StepsAt.at_ HRJ.out (i := j) (by rw [HN.out]; omega)
              rw [HN.out] at hvv
              obtain ⟨e1, rfl⟩ : (some ⟨b, off, none⟩ : Option Addr) = some ⟨b', off', none⟩ ∧ cap = c'' := by injection hvv with e1 _ e3; exact ⟨e1, e3⟩
              obtain ⟨rfl, rfl⟩ : b = b' ∧ off = off' := by injection e1 with e1; injection e1 with e1 e2; exact ⟨e1, e2⟩
              obtain ⟨r0, r1, r2, r3, r4, r5⟩ := range_step hr
              have HSJ := hide hs'
              have LJ : Hid (Later w2 wr) := HL6.out.trans HLJ.out
              obtain ⟨W8, hW8⟩ : ∃ W8, W8 = wr.alloc (.cells sj.cells.toArray 41 (0, 0)) := ⟨_, rfl⟩
              obtain ⟨z, hz⟩ : ∃ z, z = wr.heap.size := ⟨_, rfl⟩
              have B8 : Hid (StepBox z sj W8) := by rw [hW8, hz]; exact heap_alloc_new wr _
              have L8 : Hid (Later wr W8) := by rw [hW8]; exact (Below.refl _ _).alloc (Nat.le_refl _) _
              have BX8 : Hid (StepBox x s W8) := (Below.block L8.out x (lt_of_block BJ.out)).trans BJ.out
              have a0 := B8.out.cells.1
              have a1 := BX8.out.cells.1
              have hz8 : z < W8.heap.size := lt_of_block B8.out
              have hx8 : x < W8.heap.size := lt_of_block BX8.out
              unfold StepD.cells at hW8
              have HW8 := hide hW8.symm
              have HZ := hide hz.symm
              have aJ := BJ.out.cells.1
              have hxj : x < wr.heap.size := lt_of_block BJ.out
              have a1r := a1
              have hx8r := hx8
              rw [hW8] at a1r hx8r
              clear hs' hvv hr hW8 hz e1 a0 hz8
              by_cases hnn : sj.name = s.name
              · have hE9 : E = 9 := by
                  rw [← HE.out]
                  refine err_late HB0.out ?_
                  have : namedB (steps.take i) s = true := by
                    unfold namedB
                    rw [List.any_eq_true]
                    refine ⟨sj, ?_, by simp [hnn]⟩
                    refine List.mem_of_getElem? (i := j) ?_
                    rw [List.getElem?_take_of_lt hlj]
                    exact HSJ.out
                  rw [this]; rfl
                obtain ⟨e1, e2⟩ := HDN.out 9 (by omega) hE9
                have E1 := hide e1
                have E2 := hide e2
                have LR : Hid (Later w W8) := L2.out.trans (LJ.out.trans L8.out)
                have hb : (sj.name.toList == s.name.toList) = true := by rw [hnn]; simp
                clear hE9 e1 e2 HDN hnn
                go_wp2_with (fail)
                have hw := HW8.out
                try simp only [hw]
                clear hw r0 r1 r2 r3 r4 r5
                go_ret2
                exact ⟨by rw [E1.out, E2.out]; rfl, LR.out⟩
              · have hb : (sj.name.toList == s.name.toList) = false := by rw [Sd.str_eq]; simpa using hnn
                have HNJ : Hid (namedB (steps.take (j + 1)) s = false) := by
                  show _ = _
                  have h0 := HNM.out
                  unfold namedB at h0 ⊢
                  rw [List.take_add_one, HSJ.out, List.any_append, h0]
                  simp [hnn]
                have LR : Hid (Later w6 W8) := HLJ.out.trans L8.out
                clear hnn
                go_wp2_with (fail)
                have hw := HW8.out
                try simp only [hw]
                clear hw r0 r1 r2 r3 r4 r5
                go_roundw
                case rel => exact ⟨j + 1, by go_num, by omega, HNJ.out, LR.out⟩
                case measure => simp [intOf]; omega
            · obtain rfl : j = i := by omega
              obtain ⟨_, b1, b2, b3, b4, b5, bf⟩ := BJ.out.cells
              have hxj : x < wr.heap.size := lt_of_block BJ.out
              have LR : Hid (Later w wr) := L2.out.trans (HL6.out.trans HLJ.out)
              have LQ : Hid (Later w2 wr) := HL6.out.trans HLJ.out
              obtain ⟨un, hun⟩ : ∃ un, s.undo = un := ⟨_, rfl⟩
              obtain ⟨pv, hpv⟩ : ∃ pv, s.pivot = pv := ⟨_, rfl⟩
              rw [hun] at b4
              rw [hpv] at b5
              have HUN := hide hun
              have HPV := hide hpv
              have HPP : Hid (pivotB (steps.take (j + 1)) = (pb || pv)) := by
                show _ = _
                have h0 := HPB.out
                unfold pivotB at h0 ⊢
                rw [List.take_add_one, HSI.out, List.any_append, h0, ← hpv]
                simp
              clear hun hpv b1 b2 b3 bf d1
              have HFB := firstBad_at HSI.out
              rw [HE.out] at HFB
              have HFB' := hide HFB
              clear HFB
              cases pb <;> cases pv <;> cases un <;> first
                | (have hEv : E = 9 := by rw [← HE.out]; exact err_late HB0.out (by rw [HNM.out, HPB.out, HPV.out]; rfl)
                   obtain ⟨e1, e2⟩ := HDN.out 9 (by omega) hEv
                   have E1 := hide e1
                   have E2 := hide e2
                   clear hEv e1 e2 HDN
                   go_wp2_with (fail)
                   go_ret2
                   exact ⟨by rw [E1.out, E2.out]; rfl, LR.out⟩)
                | (have hEv : E = 10 := by rw [← HE.out]; exact err_undo HB0.out (by rw [HNM.out, HPB.out, HPV.out]; rfl) (by rw [HPB.out, HPV.out, HUN.out]; rfl)
                   obtain ⟨e1, e2⟩ := HDN.out 10 (by omega) hEv
                   have E1 := hide e1
                   have E2 := hide e2
                   clear hEv e1 e2 HDN
                   go_wp2_with (fail)
                   go_ret2
                   exact ⟨by rw [E1.out, E2.out]; rfl, LR.out⟩)
                | (have hEv : Hid (E = 0) := by show _ = _; rw [← HE.out]; exact err_none HB0.out (by rw [HNM.out, HPB.out, HPV.out]; rfl) (by rw [HPB.out, HPV.out, HUN.out]; rfl)
                   clear HDN
                   go_wp2_with (fail)
                   go_roundw
                   case rel => exact ⟨j + 1, by go_num, by omega, by rw [HPP.out]; rfl, by rw [HS.out, HFB'.out, if_pos hEv.out], LQ.out⟩
                   case measure => simp [intOf]; omega)
      · have hie : i = n := by omega
        have hres : checkF name steps = (0, 0) := by rw [HS.out, hie, ← HN.out, firstBad_end]
        have e1 : c1 = 0 := by rw [← HC1.out, hres]
        have e2 : c2 = 0 := by rw [← HC2.out, hres]
        have E1 := hide e1
        have E2 := hide e2
        have cR : wr.cell? ⟨y, 1, none⟩ = some (.slice A n cap) := (cell_of_row wr y 1 _ _ _ BR.out).trans rfl
        clear hres e1 e2 hie
        go_wp2_with (fail)
        go_ret2
        exact ⟨by rw [E1.out, E2.out]; rfl, L2.out.trans HL.out⟩
end
end Go.Proofs.YtdahnjcoflifbaaDoor
/- The Builder of the library: its contracts at this program. -/
namespace Go.Proofs.YtdahnjcoflifbaaDoor
open Go.RowKit

def bren : Go.Shelf.Ren := ⟨fun | 240 => 57 | 276 => 71 | 166 => 33 | 169 => 35 | n => n, fun | 0 => 0 | 3 => 3 | 4 => 4 | 5 => 5 | 9 => 9 | 20 => 20 | 37 => 68 | 70 => 67 | 72 => 70 | 75 => 72 | 80 => 76 | 164 => 112 | 127 => 101 | n => n, fun n => n⟩
theorem bl166 : Go.Proofs.Lays.n166 Tryd.prog bren := {
  mixed := by kernel_rfl
  f166 := Tryd.func33.trans (congrArg some (by kernel_rfl))
  f240 := Tryd.func57.trans (congrArg some (by kernel_rfl))
  f276 := Tryd.func71.trans (congrArg some (by kernel_rfl))
  t0 := Tryd.underlying0
  a0 := Tryd.isAgg0
  z0 := Tryd.sizeOf0
  v0 := Tryd.zeroValue0
  t3 := Tryd.underlying3
  a3 := Tryd.isAgg3
  z3 := Tryd.sizeOf3
  v3 := Tryd.zeroValue3
  t4 := Tryd.underlying4
  a4 := Tryd.isAgg4
  z4 := Tryd.sizeOf4
  v4 := Tryd.zeroValue4
  t9 := Tryd.underlying9
  a9 := Tryd.isAgg9
  z9 := Tryd.sizeOf9
  v9 := Tryd.zeroValue9
  t20 := Tryd.underlying20
  a20 := Tryd.isAgg20
  z20 := Tryd.sizeOf20
  v20 := Tryd.zeroValue20
  t37 := Tryd.underlying68
  a37 := Tryd.isAgg68
  z37 := Tryd.sizeOf68
  v37 := Tryd.zeroValue68
  t70 := Tryd.underlying67
  a70 := Tryd.isAgg67
  z70 := Tryd.sizeOf67
  v70 := Tryd.zeroValue67
  t72 := Tryd.underlying70
  a72 := Tryd.isAgg70
  z72 := Tryd.sizeOf70
  v72 := Tryd.zeroValue70
  t75 := Tryd.underlying72
  a75 := Tryd.isAgg72
  z75 := Tryd.sizeOf72
  v75 := Tryd.zeroValue72
  t164 := Tryd.underlying112
  a164 := Tryd.isAgg112
  z164 := Tryd.sizeOf112
  v164 := Tryd.zeroValue112 }
theorem bl169 : Go.Proofs.Lays.n169 Tryd.prog bren := {
  mixed := by kernel_rfl
  f169 := Tryd.func35.trans (congrArg some (by kernel_rfl))
  t0 := Tryd.underlying0
  a0 := Tryd.isAgg0
  z0 := Tryd.sizeOf0
  v0 := Tryd.zeroValue0
  t3 := Tryd.underlying3
  a3 := Tryd.isAgg3
  z3 := Tryd.sizeOf3
  v3 := Tryd.zeroValue3
  t9 := Tryd.underlying9
  a9 := Tryd.isAgg9
  z9 := Tryd.sizeOf9
  v9 := Tryd.zeroValue9
  t37 := Tryd.underlying68
  a37 := Tryd.isAgg68
  z37 := Tryd.sizeOf68
  v37 := Tryd.zeroValue68
  t70 := Tryd.underlying67
  a70 := Tryd.isAgg67
  z70 := Tryd.sizeOf67
  v70 := Tryd.zeroValue67
  t72 := Tryd.underlying70
  a72 := Tryd.isAgg70
  z72 := Tryd.sizeOf70
  v72 := Tryd.zeroValue70
  t127 := Tryd.underlying101
  a127 := Tryd.isAgg101
  z127 := Tryd.sizeOf101
  v127 := Tryd.zeroValue101 }
theorem bextra : Builder.Extra Tryd.prog bren where
  sizeBuilder := by kernel_rfl
  liesBuilder := by kernel_rfl
  t5 := Tryd.underlying5
  a5 := Tryd.isAgg5
  z5 := Tryd.sizeOf5
  v5 := Tryd.zeroValue5
  infoByte := by kernel_rfl
  cellsByte := by kernel_rfl
  sizeByte := by kernel_rfl
  neB5 := by decide

/-- A builder in block b that holds these bytes. -/
def BAt (B b : Nat) (l : List UInt8) (w : World) : Prop := Lib.IsBuilderF 70 5 B b (Lib.byteCells l) w
theorem bwrites (B b : Nat) (l : List UInt8) (s : ByteArray) (w : World) (h : BAt B b l w) (hl : l.length + s.size ≤ 140737488355328) (hB : B ≤ w.heap.size) :
    Calls Tryd.prog 33 #[.pointer (some ⟨b, 0, none⟩), .string s] w fun e w' => e = .returned (.tuple #[.int .i64 s.size, .nilIface]) ∧ BAt B b (l ++ s.data.toList) w' ∧ Below B w w' ∧ Lib.OthersKept 5 (some b) w w' :=
  (Any.Builder_WriteString_k bl166 bextra B b (Lib.byteCells l) s w h (by rw [Lib.byteCells_length]; exact hl) hB).mono fun _ _ ⟨h1, h2, h3, h4⟩ => ⟨h1, by unfold BAt; rw [Lib.byteCells_append]; exact Or.inr h2, h3, h4⟩
theorem bstring (B b : Nat) (l : List UInt8) (w : World) (h : BAt B b l w) (hB : B ≤ w.heap.size) :
    Calls Tryd.prog 35 #[.pointer (some ⟨b, 0, none⟩)] w fun e w' => e = .returned (.string ⟨l.toArray⟩) ∧ Below B w w' :=
  (Any.Builder_String_any_k bl169 bextra B b l w h hB).mono fun _ _ ⟨h1, _, h3, _⟩ => ⟨h1, h3⟩
end Go.Proofs.YtdahnjcoflifbaaDoor
/- The text of a definition, by a Builder. -/
namespace Go.Proofs.YtdahnjcoflifbaaDoor
open Go.RowKit

theorem mk_append (x y : List UInt8) : (⟨x.toArray⟩ ++ ⟨y.toArray⟩ : ByteArray) = ⟨(x ++ y).toArray⟩ := by
  apply ByteArray.ext
  simp
theorem mk_size (x : List UInt8) : (⟨x.toArray⟩ : ByteArray).size = x.length := by simp [ByteArray.size]
theorem mk_self (s : ByteArray) : (⟨s.data.toList.toArray⟩ : ByteArray) = s := by
  apply ByteArray.ext
  simp
/-- The powers of ten lie in their variable. -/
def PowAt (w : World) : Prop := Lib.TabIs Tryd.prog w "internal/strconv.uint64pow10" .u64 Lib.pow10Tab
theorem PowAt.below {B : Nat} {w w' : World} (h : PowAt w) (hb : Below B w w') (hB : 1 < B) : PowAt w' := by
  have hN : Tryd.prog.globalNamed "internal/strconv.uint64pow10" = some 1 := by kernel_rfl
  unfold PowAt Lib.TabIs World.var? at h ⊢
  simp only [hN, Option.bind_some] at h ⊢
  rw [hb.block _ hB]
  exact h
theorem PowAt.lt {w : World} (h : PowAt w) : 1 < w.heap.size := by
  have hN : Tryd.prog.globalNamed "internal/strconv.uint64pow10" = some 1 := by kernel_rfl
  have h5 := Lib.TabIs.cell h hN 0 (by decide)
  rcases Nat.lt_or_ge 1 w.heap.size with h0 | h0
  · exact h0
  · have h6 : w.heap[1]? = none := Array.getElem?_eq_none h0
    simp [World.cell?, h6] at h5
theorem later_drewN (w : World) : ∀ n, Later w (w.drewN n)
  | 0 => Later.refl _
  | n + 1 => (later_drewN w n).trans (Later.drew _)
theorem later_grow (w : World) (k : Nat) (os : Array Obj) : Later w (Go.Sort.grow (w.drewN k) os) :=
  (later_drewN w k).trans ⟨rfl, rfl, rfl, by simp [Go.Sort.grow], fun j hj => Go.Sort.heap_grow_old _ _ hj⟩
theorem BAt.later {B b : Nat} {l : List UInt8} {w w' : World} (h : BAt B b l w) (hl : Later w w') : BAt B b l w' := by
  have go : ∀ p, Lib.BuilderAtF 70 5 B b p (Lib.byteCells l) w → Lib.BuilderAtF 70 5 B b p (Lib.byteCells l) w' := fun p h => by
    obtain ⟨hB, v, hv, hown, hne⟩ := h
    exact ⟨hB, v, (Below.block hl b (lt_of_block hv)).trans hv, hown.kept (row := none) ⟨hl.os, hl.tape, hl.output, hl.size, fun k hk _ => Below.block hl k hk⟩ (Classical.em _), hne⟩
  exact h.elim (fun x => .inl (go _ x)) (fun x => .inr (go _ x))
theorem BAt.block {B b : Nat} {l : List UInt8} {w : World} (h : BAt B b l w) : ∃ p v, w.heap[b]? = some (.cells #[p, v] 70 (0, 0)) := by
  rcases h with ⟨_, v, hb, _⟩ | ⟨_, v, hb, _⟩
  · exact ⟨_, v, hb⟩
  · exact ⟨_, v, hb⟩
theorem box_kept {b x : Nat} {l : List UInt8} {B : Nat} {w w' : World} {cs : Array Value} {t : TypeId} (hb : BAt B b l w) (h : w.heap[x]? = some (.cells cs t (0, 0))) (hk : Lib.OthersKept 5 (some b) w w') (h1 : t ≠ 5) (h2 : t ≠ 70) : w'.heap[x]? = some (.cells cs t (0, 0)) := by
  refine hk x _ h (fun e => ?_) (fun c fz e => ?_)
  · obtain ⟨p, v, hv⟩ := hb.block
    rw [← Option.some.inj e, h] at hv
    injection hv with hv
    injection hv with _ ht
    exact h2 ht
  · injection e with _ ht
    exact h1 ht
theorem below_later' {B : Nat} {w w1 w2 : World} (h : Later w w1) (k : Below B w1 w2) (hB : w.heap.size ≤ B) : Later w w2 := Below.trans h (Below.mono k hB)
theorem itoa_any (n : Int) (hn : I64 n) (w : World) (hp : PowAt w) : Calls Tryd.prog 58 #[.int .i64 n] w fun e w' => e = .returned (.string ⟨(Lib.itoa n).toArray⟩) ∧ Later w w' :=
  (Any.strconv_Itoa Tryd.itoaA n hn.1 (by have := hn.2; omega) w hp).mono fun _ _ ⟨h1, k, os, h2⟩ => ⟨h1, by rw [h2]; exact later_grow w k os⟩
theorem itoa_len (n : Int) (hn : I64 n) : (Lib.itoa n).length ≤ 21 := Lib.itoa_length_le n hn.1 (by have := hn.2; omega)
theorem stepT_len (s : StepD) (h1 : I64 s.stub) (h2 : I64 s.retry) (h3 : I64 s.wait) (hn : s.name.size ≤ 400) : (stepT s).length ≤ 600 := by
  have a1 := itoa_len _ h1
  have a2 := itoa_len _ h2
  have a3 := itoa_len _ h3
  have a4 : s.name.data.toList.length = s.name.size := by rw [Array.length_toList]; rfl
  unfold stepT
  cases s.undo <;> cases s.pivot <;> simp only [List.length_append, List.length_cons, List.length_nil, if_true, Bool.false_eq_true, if_false] <;> omega

section
variable {w : World}
set_option maxHeartbeats 4000000 in
set_option maxRecDepth 100000 in
theorem printStep_any {B b : Nat} {l : List UInt8} {s : StepD} (h : BAt B b l w) (hB : B ≤ w.heap.size) (hl : l.length ≤ 1000000) (hn : s.name.size ≤ 400) (h1 : I64 s.stub) (h2 : I64 s.retry) (h3 : I64 s.wait) (hp : PowAt w) (hpB : 1 < B) :
    Calls Tryd.prog 34 #[.pointer (some ⟨b, 0, none⟩), .agg s.cells.toArray] w fun e w' => e = .returned (.tuple #[]) ∧ BAt B b (l ++ stepT s) w' ∧ Below B w w' ∧ Lib.OthersKept 5 (some b) w w' := by
  obtain ⟨x, hx⟩ : ∃ x, x = w.heap.size := ⟨_, rfl⟩
  obtain ⟨W1, hW1⟩ : ∃ W1, W1 = w.alloc (.cells s.cells.toArray 41 (0, 0)) := ⟨_, rfl⟩
  have X1 : Hid (StepBox x s W1) := by rw [hW1, hx]; exact heap_alloc_new w _
  have L1 : Hid (Later w W1) := by rw [hW1]; exact (Below.refl _ _).alloc (Nat.le_refl _) _
  have O1 : Hid (Lib.OthersKept 5 (some b) w W1) := fun k o hk _ _ => (Below.block L1.out k (lt_of_block hk)).trans hk
  have B1 := hide (h.later L1.out)
  have K1 : Hid (Below B w W1) := Below.mono L1.out hB
  have HP := hide hp
  obtain ⟨nl, hnl⟩ : ∃ nl, s.name.data.toList = nl := ⟨_, rfl⟩
  have hnm : s.name = ⟨nl.toArray⟩ := by rw [← hnl, mk_self]
  have hnlen : nl.length ≤ 400 := by
    rw [← hnl, Array.length_toList]
    exact hn
  obtain ⟨i1, hi1⟩ : ∃ i1, Lib.itoa s.stub = i1 := ⟨_, rfl⟩
  obtain ⟨i2, hi2⟩ : ∃ i2, Lib.itoa s.retry = i2 := ⟨_, rfl⟩
  obtain ⟨i3, hi3⟩ : ∃ i3, Lib.itoa s.wait = i3 := ⟨_, rfl⟩
  have n1 : i1.length ≤ 21 := by rw [← hi1]; exact itoa_len _ h1
  have n2 : i2.length ≤ 21 := by rw [← hi2]; exact itoa_len _ h2
  have n3 : i3.length ≤ 21 := by rw [← hi3]; exact itoa_len _ h3
  have CI1 : Hid (∀ W, PowAt W → Calls Tryd.prog 58 #[.int .i64 s.stub] W fun e w' => e = .returned (.string ⟨i1.toArray⟩) ∧ Later W w') := fun W hW => by rw [← hi1]; exact itoa_any _ h1 W hW
  have CI2 : Hid (∀ W, PowAt W → Calls Tryd.prog 58 #[.int .i64 s.retry] W fun e w' => e = .returned (.string ⟨i2.toArray⟩) ∧ Later W w') := fun W hW => by rw [← hi2]; exact itoa_any _ h2 W hW
  have CI3 : Hid (∀ W, PowAt W → Calls Tryd.prog 58 #[.int .i64 s.wait] W fun e w' => e = .returned (.string ⟨i3.toArray⟩) ∧ Later W w') := fun W hW => by rw [← hi3]; exact itoa_any _ h3 W hW
  obtain ⟨un, hun⟩ : ∃ un, s.undo = un := ⟨_, rfl⟩
  obtain ⟨pv, hpv⟩ : ∃ pv, s.pivot = pv := ⟨_, rfl⟩
  have HT : Hid (stepT s = ([32, 115, 116, 101, 112, 32] ++ nl) ++ ([32, 115, 116, 117, 98, 32] ++ i1) ++ ([32, 114, 101, 116, 114, 121, 32] ++ i2) ++ ([32, 119, 97, 105, 116, 32] ++ i3)
    ++ (if un then [32, 117, 110, 100, 111] else []) ++ (if pv then [32, 112, 105, 118, 111, 116] else []) ++ [59]) := by show _ = _; unfold stepT; rw [hnl, hi1, hi2, hi3, hun, hpv]
  obtain ⟨T, hT⟩ : ∃ T, stepT s = T := ⟨_, rfl⟩
  rw [hT] at HT ⊢
  have HU := hide hun
  have HV := hide hpv
  have HNM := hide hnm
  unfold StepD.cells at hW1 ⊢
  have HW1 := hide hW1.symm
  have HX := hide hx.symm
  clear h hx hW1 hnl hnm hi1 hi2 hi3 hun hpv hT hp
  rw [HNM.out] at HW1 ⊢
  go_enter Tryd.func34, Tryd.ntmps34
  have z1 : (⟨#[32, 115, 116, 101, 112, 32]⟩ : ByteArray).size + (⟨nl.toArray⟩ : ByteArray).size ≤ 9223372036854775807 := by have := mk_size nl; rw [this]; show 6 + _ ≤ _; omega
  obtain ⟨S0, hS0⟩ : ∃ S0, [32, 115, 116, 101, 112, 32] ++ nl = S0 := ⟨_, rfl⟩
  have m1 : (⟨#[32, 115, 116, 101, 112, 32]⟩ ++ ⟨nl.toArray⟩ : ByteArray) = ⟨S0.toArray⟩ := by rw [← hS0]; exact mk_append [32, 115, 116, 101, 112, 32] nl
  have q0 : S0.length ≤ 406 := by rw [← hS0, List.length_append]; show 6 + _ ≤ _; omega
  rw [hS0] at HT
  clear hS0
  go_wp2_with (fail)
  have hw := HW1.out
  have hxx := HX.out
  simp only [hw, hxx]
  clear hw hxx
  refine (bwrites B b l ⟨S0.toArray⟩ W1 B1.out (by rw [mk_size]; omega) (by have := K1.out.size; omega)).mono ?_
  rintro e w2 ⟨rfl, hb, hk, ho⟩
  have B2 := hide hb
  have K2 := hide (K1.out.trans hk)
  have X2 : Hid (StepBox x s w2) := box_kept B1.out X1.out ho (by decide) (by decide)
  have O2 := hide (O1.out.trans ho)
  clear hb hk ho z1 m1 B1 K1 X1 O1 L1
  obtain ⟨b0, b1, b2, b3, b4, b5, bf⟩ := X2.out.cells
  clear b0 bf
  have hx2 : x < w2.heap.size := lt_of_block X2.out
  have z1 : (⟨#[32, 115, 116, 117, 98, 32]⟩ : ByteArray).size + (⟨i1.toArray⟩ : ByteArray).size ≤ 9223372036854775807 := by have := mk_size i1; rw [this]; show 6 + _ ≤ _; omega
  obtain ⟨S1, hS1⟩ : ∃ S1, [32, 115, 116, 117, 98, 32] ++ i1 = S1 := ⟨_, rfl⟩
  have m1 : (⟨#[32, 115, 116, 117, 98, 32]⟩ ++ ⟨i1.toArray⟩ : ByteArray) = ⟨S1.toArray⟩ := by rw [← hS1]; exact mk_append [32, 115, 116, 117, 98, 32] i1
  have q1 : S1.length ≤ 30 := by rw [← hS1, List.length_append]; show 6 + _ ≤ _; omega
  rw [hS1] at HT
  clear hS1
  go_wp2_with (fail)
  refine (CI1.out _ (HP.out.below K2.out hpB)).mono ?_
  rintro e w3 ⟨rfl, hl3⟩
  have B3 := hide (B2.out.later hl3)
  have K3 := hide (K2.out.trans (Below.mono hl3 (by have := K2.out.size; omega)))
  have X3 : Hid (StepBox x s w3) := (Below.block hl3 x (lt_of_block X2.out)).trans X2.out
  have O3 : Hid (Lib.OthersKept 5 (some b) w w3) := O2.out.trans fun k o hk _ _ => (Below.block hl3 k (lt_of_block hk)).trans hk
  clear hl3 B2 K2 X2 O2 hx2 b1 b2 b3 b4 b5
  go_wp2_with (fail)
  refine (bwrites B b (l ++ S0) ⟨S1.toArray⟩ w3 B3.out (by rw [mk_size]; simp only [List.length_append]; omega) (by have := K3.out.size; omega)).mono ?_
  rintro e w4 ⟨rfl, hb, hk, ho⟩
  have B4 := hide hb
  have K4 := hide (K3.out.trans hk)
  have X4 : Hid (StepBox x s w4) := box_kept B3.out X3.out ho (by decide) (by decide)
  have O4 := hide (O3.out.trans ho)
  clear hb hk ho z1 m1 B3 K3 X3 O3
  obtain ⟨b0, b1, b2, b3, b4, b5, bf⟩ := X4.out.cells
  clear b0 bf
  have hx4 : x < w4.heap.size := lt_of_block X4.out
  have z1 : (⟨#[32, 114, 101, 116, 114, 121, 32]⟩ : ByteArray).size + (⟨i2.toArray⟩ : ByteArray).size ≤ 9223372036854775807 := by have := mk_size i2; rw [this]; show 7 + _ ≤ _; omega
  obtain ⟨S2, hS2⟩ : ∃ S2, [32, 114, 101, 116, 114, 121, 32] ++ i2 = S2 := ⟨_, rfl⟩
  have m1 : (⟨#[32, 114, 101, 116, 114, 121, 32]⟩ ++ ⟨i2.toArray⟩ : ByteArray) = ⟨S2.toArray⟩ := by rw [← hS2]; exact mk_append [32, 114, 101, 116, 114, 121, 32] i2
  have q2 : S2.length ≤ 30 := by rw [← hS2, List.length_append]; show 7 + _ ≤ _; omega
  rw [hS2] at HT
  clear hS2
  go_wp2_with (fail)
  refine (CI2.out _ (HP.out.below K4.out hpB)).mono ?_
  rintro e w5 ⟨rfl, hl5⟩
  have B5 := hide (B4.out.later hl5)
  have K5 := hide (K4.out.trans (Below.mono hl5 (by have := K4.out.size; omega)))
  have X5 : Hid (StepBox x s w5) := (Below.block hl5 x (lt_of_block X4.out)).trans X4.out
  have O5 : Hid (Lib.OthersKept 5 (some b) w w5) := O4.out.trans fun k o hk _ _ => (Below.block hl5 k (lt_of_block hk)).trans hk
  clear hl5 B4 K4 X4 O4 hx4 b1 b2 b3 b4 b5
  go_wp2_with (fail)
  refine (bwrites B b (l ++ S0 ++ S1) ⟨S2.toArray⟩ w5 B5.out (by rw [mk_size]; simp only [List.length_append]; omega) (by have := K5.out.size; omega)).mono ?_
  rintro e w6 ⟨rfl, hb, hk, ho⟩
  have B6 := hide hb
  have K6 := hide (K5.out.trans hk)
  have X6 : Hid (StepBox x s w6) := box_kept B5.out X5.out ho (by decide) (by decide)
  have O6 := hide (O5.out.trans ho)
  clear hb hk ho z1 m1 B5 K5 X5 O5
  obtain ⟨b0, b1, b2, b3, b4, b5, bf⟩ := X6.out.cells
  clear b0 bf
  have hx6 : x < w6.heap.size := lt_of_block X6.out
  have z1 : (⟨#[32, 119, 97, 105, 116, 32]⟩ : ByteArray).size + (⟨i3.toArray⟩ : ByteArray).size ≤ 9223372036854775807 := by have := mk_size i3; rw [this]; show 6 + _ ≤ _; omega
  obtain ⟨S3, hS3⟩ : ∃ S3, [32, 119, 97, 105, 116, 32] ++ i3 = S3 := ⟨_, rfl⟩
  have m1 : (⟨#[32, 119, 97, 105, 116, 32]⟩ ++ ⟨i3.toArray⟩ : ByteArray) = ⟨S3.toArray⟩ := by rw [← hS3]; exact mk_append [32, 119, 97, 105, 116, 32] i3
  have q3 : S3.length ≤ 30 := by rw [← hS3, List.length_append]; show 6 + _ ≤ _; omega
  rw [hS3] at HT
  clear hS3
  go_wp2_with (fail)
  refine (CI3.out _ (HP.out.below K6.out hpB)).mono ?_
  rintro e w7 ⟨rfl, hl7⟩
  have B7 := hide (B6.out.later hl7)
  have K7 := hide (K6.out.trans (Below.mono hl7 (by have := K6.out.size; omega)))
  have X7 : Hid (StepBox x s w7) := (Below.block hl7 x (lt_of_block X6.out)).trans X6.out
  have O7 : Hid (Lib.OthersKept 5 (some b) w w7) := O6.out.trans fun k o hk _ _ => (Below.block hl7 k (lt_of_block hk)).trans hk
  clear hl7 B6 K6 X6 O6 hx6 b1 b2 b3 b4 b5
  go_wp2_with (fail)
  refine (bwrites B b (l ++ S0 ++ S1 ++ S2) ⟨S3.toArray⟩ w7 B7.out (by rw [mk_size]; simp only [List.length_append]; omega) (by have := K7.out.size; omega)).mono ?_
  rintro e w8 ⟨rfl, hb, hk, ho⟩
  have B8 := hide hb
  have K8 := hide (K7.out.trans hk)
  have X8 : Hid (StepBox x s w8) := box_kept B7.out X7.out ho (by decide) (by decide)
  have O8 := hide (O7.out.trans ho)
  clear hb hk ho z1 m1 B7 K7 X7 O7
  clear CI1 CI2 CI3
  cases un with
  | true =>
    obtain ⟨b0, b1, b2, b3, b4, b5, bf⟩ := X8.out.cells
    rw [HU.out] at b4
    rw [HV.out] at b5
    clear b0 bf b1 b2 b3
    have hx8 : x < w8.heap.size := lt_of_block X8.out
    go_wp2_with (fail)
    refine (bwrites B b (l ++ S0 ++ S1 ++ S2 ++ S3) ⟨#[32, 117, 110, 100, 111]⟩ w8 B8.out (by show _ + 5 ≤ _; simp; omega) (by have := K8.out.size; omega)).mono ?_
    rintro e w9 ⟨rfl, hb, hk, ho⟩
    have B9 := hide hb
    have K9 := hide (K8.out.trans hk)
    have X9 : Hid (StepBox x s w9) := box_kept B8.out X8.out ho (by decide) (by decide)
    have O9 := hide (O8.out.trans ho)
    clear hb hk ho B8 K8 X8 O8
    cases pv with
    | true =>
      clear b4 b5
      obtain ⟨b0, b1, b2, b3, b4, b5, bf⟩ := X9.out.cells
      rw [HU.out] at b4
      rw [HV.out] at b5
      clear b0 bf b1 b2 b3
      have hx9 : x < w9.heap.size := lt_of_block X9.out
      go_wp2_with (fail)
      refine (bwrites B b (l ++ S0 ++ S1 ++ S2 ++ S3 ++ [32, 117, 110, 100, 111]) ⟨#[32, 112, 105, 118, 111, 116]⟩ w9 B9.out (by show _ + 6 ≤ _; simp; omega) (by have := K9.out.size; omega)).mono ?_
      rintro e w10 ⟨rfl, hb, hk, ho⟩
      have B10 := hide hb
      have K10 := hide (K9.out.trans hk)
      have X10 : Hid (StepBox x s w10) := box_kept B9.out X9.out ho (by decide) (by decide)
      have O10 := hide (O9.out.trans ho)
      clear hb hk ho B9 K9 X9 O9
      go_wp2_with (fail)
      refine (bwrites B b (l ++ S0 ++ S1 ++ S2 ++ S3 ++ [32, 117, 110, 100, 111] ++ [32, 112, 105, 118, 111, 116]) ⟨#[59]⟩ w10 B10.out (by show _ + 1 ≤ _; simp; omega) (by have := K10.out.size; omega)).mono ?_
      rintro e w11 ⟨rfl, hb, hk, ho⟩
      have B11 := hide hb
      have K11 := hide (K10.out.trans hk)
      have X11 : Hid (StepBox x s w11) := box_kept B10.out X10.out ho (by decide) (by decide)
      have O11 := hide (O10.out.trans ho)
      clear hb hk ho B10 K10 X10 O10
      go_wp2_with (fail)
      go_end0
      refine ⟨rfl, ?_, K11.out, O11.out⟩
      have hb := B11.out
      rw [HT.out]
      simpa [List.append_assoc] using hb
    | false =>
      clear b4 b5
      obtain ⟨b0, b1, b2, b3, b4, b5, bf⟩ := X9.out.cells
      rw [HU.out] at b4
      rw [HV.out] at b5
      clear b0 bf b1 b2 b3
      have hx9 : x < w9.heap.size := lt_of_block X9.out
      go_wp2_with (fail)
      refine (bwrites B b (l ++ S0 ++ S1 ++ S2 ++ S3 ++ [32, 117, 110, 100, 111]) ⟨#[59]⟩ w9 B9.out (by show _ + 1 ≤ _; simp; omega) (by have := K9.out.size; omega)).mono ?_
      rintro e w10 ⟨rfl, hb, hk, ho⟩
      have B10 := hide hb
      have K10 := hide (K9.out.trans hk)
      have X10 : Hid (StepBox x s w10) := box_kept B9.out X9.out ho (by decide) (by decide)
      have O10 := hide (O9.out.trans ho)
      clear hb hk ho B9 K9 X9 O9
      go_wp2_with (fail)
      go_end0
      refine ⟨rfl, ?_, K10.out, O10.out⟩
      have hb := B10.out
      rw [HT.out]
      simpa [List.append_assoc] using hb
  | false =>
    cases pv with
    | true =>
      obtain ⟨b0, b1, b2, b3, b4, b5, bf⟩ := X8.out.cells
      rw [HU.out] at b4
      rw [HV.out] at b5
      clear b0 bf b1 b2 b3
      have hx8 : x < w8.heap.size := lt_of_block X8.out
      go_wp2_with (fail)
      refine (bwrites B b (l ++ S0 ++ S1 ++ S2 ++ S3) ⟨#[32, 112, 105, 118, 111, 116]⟩ w8 B8.out (by show _ + 6 ≤ _; simp; omega) (by have := K8.out.size; omega)).mono ?_
      rintro e w9 ⟨rfl, hb, hk, ho⟩
      have B9 := hide hb
      have K9 := hide (K8.out.trans hk)
      have X9 : Hid (StepBox x s w9) := box_kept B8.out X8.out ho (by decide) (by decide)
      have O9 := hide (O8.out.trans ho)
      clear hb hk ho B8 K8 X8 O8
      go_wp2_with (fail)
      refine (bwrites B b (l ++ S0 ++ S1 ++ S2 ++ S3 ++ [32, 112, 105, 118, 111, 116]) ⟨#[59]⟩ w9 B9.out (by show _ + 1 ≤ _; simp; omega) (by have := K9.out.size; omega)).mono ?_
      rintro e w10 ⟨rfl, hb, hk, ho⟩
      have B10 := hide hb
      have K10 := hide (K9.out.trans hk)
      have X10 : Hid (StepBox x s w10) := box_kept B9.out X9.out ho (by decide) (by decide)
      have O10 := hide (O9.out.trans ho)
      clear hb hk ho B9 K9 X9 O9
      go_wp2_with (fail)
      go_end0
      refine ⟨rfl, ?_, K10.out, O10.out⟩
      have hb := B10.out
      rw [HT.out]
      simpa [List.append_assoc] using hb
    | false =>
      obtain ⟨b0, b1, b2, b3, b4, b5, bf⟩ := X8.out.cells
      rw [HU.out] at b4
      rw [HV.out] at b5
      clear b0 bf b1 b2 b3
      have hx8 : x < w8.heap.size := lt_of_block X8.out
      go_wp2_with (fail)
      refine (bwrites B b (l ++ S0 ++ S1 ++ S2 ++ S3) ⟨#[59]⟩ w8 B8.out (by show _ + 1 ≤ _; simp; omega) (by have := K8.out.size; omega)).mono ?_
      rintro e w9 ⟨rfl, hb, hk, ho⟩
      have B9 := hide hb
      have K9 := hide (K8.out.trans hk)
      have X9 : Hid (StepBox x s w9) := box_kept B8.out X8.out ho (by decide) (by decide)
      have O9 := hide (O8.out.trans ho)
      clear hb hk ho B8 K8 X8 O8
      go_wp2_with (fail)
      go_end0
      refine ⟨rfl, ?_, K9.out, O9.out⟩
      have hb := B9.out
      rw [HT.out]
      simpa [List.append_assoc] using hb
theorem steps_len : ∀ (l : List StepD), (∀ s ∈ l, (stepT s).length ≤ 600) → (l.flatMap stepT).length ≤ l.length * 600
  | [], _ => by simp
  | s :: r, h => by
    have h1 := h s (by simp)
    have h2 := steps_len r fun t ht => h t (List.mem_cons_of_mem _ ht)
    rw [List.flatMap_cons, List.length_append, List.length_cons]
    omega
set_option maxHeartbeats 4000000 in
set_option maxRecDepth 100000 in
theorem print_any {F : Nat → Prop} {name : ByteArray} {v : Value} {l : List StepD} (h : StepsAt F w v l) (hlong : longF name l = false) (hwf : ∀ s ∈ l, I64 s.stub ∧ I64 s.retry ∧ I64 s.wait) (hp : PowAt w) :
    Calls Tryd.prog 16 #[.agg #[.string name, v]] w fun e w' => e = .returned (.string ⟨(printF name l).toArray⟩) ∧ Later w w' := by
  obtain ⟨A, cap, rfl, hc1, hc2, _⟩ := FlatAt.shape h
  obtain ⟨n, hn⟩ : ∃ n, l.length = n := ⟨_, rfl⟩
  rw [hn] at h hc1 ⊢
  simp only [longF, Bool.or_eq_false_iff, decide_eq_false_iff_not, List.any_eq_false, decide_eq_true_eq] at hlong
  obtain ⟨hl1, hl2, hl3⟩ := hlong
  have hn40 : n ≤ 40 := by omega
  have hst : ∀ s ∈ l, (stepT s).length ≤ 600 := fun s hs => by
    obtain ⟨a, b, c⟩ := hwf s hs
    exact stepT_len s a b c (by have := hl3 s hs; omega)
  obtain ⟨W1, hW1⟩ : ∃ W1, W1 = w.alloc (.cells #[.string name, .slice A n cap] 25 (0, 0)) := ⟨_, rfl⟩
  obtain ⟨x, hx⟩ : ∃ x, x = w.heap.size := ⟨_, rfl⟩
  obtain ⟨b, hb⟩ : ∃ b, b = x + 1 := ⟨_, rfl⟩
  have hbw : b = W1.heap.size := by rw [hb, hx, hW1]; simp
  obtain ⟨W2, hW2⟩ : ∃ W2, W2 = W1.alloc (.cells #[.pointer none, .slice none 0 0] 70 (0, 0)) := ⟨_, rfl⟩
  have X1 : W1.heap[x]? = some (.cells #[.string name, .slice A n cap] 25 (0, 0)) := by rw [hW1, hx]; exact heap_alloc_new w _
  have L1 : Hid (Later w W1) := by rw [hW1]; exact (Below.refl _ _).alloc (Nat.le_refl _) _
  have L2 : Hid (Later w W2) := L1.out.trans (by rw [hW2]; exact (Below.refl _ _).alloc (Nat.le_refl _) _)
  have X2 : Hid (W2.heap[x]? = some (.cells #[.string name, .slice A n cap] 25 (0, 0))) := by rw [hW2]; exact (Below.block ((Below.refl _ _).alloc (Nat.le_refl _) _) x (lt_of_block X1)).trans X1
  have B2 : Hid (BAt b b [] W2) := by rw [hW2, hbw]; exact Lib.IsBuilderF.of (Lib.fresh_isBuilder 70 5 W1)
  have hb2 : b ≤ W2.heap.size := by rw [hbw, hW2]; simp
  have hpb : 1 < b := by have := hp.lt; omega
  have P2 : Hid (PowAt W2) := hp.below L2.out hp.lt
  obtain ⟨nl, hnl⟩ : ∃ nl, name.data.toList = nl := ⟨_, rfl⟩
  have hnm : name = ⟨nl.toArray⟩ := by rw [← hnl, mk_self]
  have hnlen : nl.length ≤ 400 := by
    rw [← hnl, Array.length_toList]
    show name.size ≤ _
    omega
  obtain ⟨S0, hS0⟩ : ∃ S0, [115, 97, 103, 97, 32] ++ nl = S0 := ⟨_, rfl⟩
  have z1 : (⟨#[115, 97, 103, 97, 32]⟩ : ByteArray).size + (⟨nl.toArray⟩ : ByteArray).size ≤ 9223372036854775807 := by have := mk_size nl; rw [this]; show 5 + _ ≤ _; omega
  have m1 : (⟨#[115, 97, 103, 97, 32]⟩ ++ ⟨nl.toArray⟩ : ByteArray) = ⟨S0.toArray⟩ := by rw [← hS0]; exact mk_append [115, 97, 103, 97, 32] nl
  have q0 : S0.length ≤ 405 := by rw [← hS0, List.length_append]; show 5 + _ ≤ _; omega
  obtain ⟨S1, hS1⟩ : ∃ S1, S0 ++ [32, 123] = S1 := ⟨_, rfl⟩
  have z2 : (⟨S0.toArray⟩ : ByteArray).size + (⟨#[32, 123]⟩ : ByteArray).size ≤ 9223372036854775807 := by have := mk_size S0; rw [this]; show _ + 2 ≤ _; omega
  have m2 : (⟨S0.toArray⟩ ++ ⟨#[32, 123]⟩ : ByteArray) = ⟨S1.toArray⟩ := by rw [← hS1]; exact mk_append S0 [32, 123]
  have q1 : S1.length ≤ 407 := by rw [← hS1, List.length_append]; show _ + 2 ≤ _; omega
  have HP : Hid (printF name l = S1 ++ l.flatMap stepT ++ [32, 125]) := by show _ = _; unfold printF; rw [hnl, hS0, hS1]
  obtain ⟨PF, hPF⟩ : ∃ PF, printF name l = PF := ⟨_, rfl⟩
  rw [hPF] at HP ⊢
  have HST := hide hst
  have HWF := hide hwf
  have HL3 := hide hl3
  have H := hide h
  have HN := hide hn
  have HW1 := hide hW1.symm
  have HW2 := hide hW2.symm
  have HX := hide hx.symm
  have HB := hide hb.symm
  clear h hn hst hwf hl3 hW1 hW2 hx hb hbw hnl hS0 hS1 hPF X1 hp
  subst hnm
  go_enter Tryd.func16, Tryd.ntmps16
  go_wp2_with (fail)
  have hw := HW1.out
  have hxx := HX.out
  have hw2 := HW2.out
  have hbb := HB.out
  simp only [hw, hxx, hw2, hbb]
  clear hw hxx hw2 hbb
  refine (bwrites b b [] ⟨S1.toArray⟩ W2 B2.out (by rw [mk_size]; simp only [List.length_nil]; omega) (by omega)).mono ?_
  rintro e w3 ⟨rfl, hbb3, hk3, ho3⟩
  have B3 : Hid (BAt b b S1 w3) := by simpa [Hid] using hbb3
  have K3 := hide hk3
  have L3 : Hid (Later w w3) := below_later' L2.out hk3 (by have := HX.out; have := HB.out; omega)
  have X3 : Hid (w3.heap[x]? = some (.cells #[.string ⟨nl.toArray⟩, .slice A n cap] 25 (0, 0))) := box_kept B2.out X2.out ho3 (by decide) (by decide)
  have P3 := hide (P2.out.below hk3 hpb)
  have d1 : w3.cell? ⟨x, 1, none⟩ = some (.slice A n cap) := (cell_of_row w3 x 1 _ _ _ X3.out).trans rfl
  have hx3 : x < w3.heap.size := lt_of_block X3.out
  have hb3 : b ≤ w3.heap.size := by have := K3.out.size; omega
  clear hbb3 hk3 ho3 z1 m1 z2 m2 B2 X2 P2
  go_wp2_with (fail)
  go_loopw [14] (fun v wr => ∃ i : Nat, v = .int .i64 (i : Int) ∧ i ≤ n ∧ BAt b b (S1 ++ (l.take i).flatMap stepT) wr ∧ Below b w3 wr) (fun v _ => n - (intOf v).toNat)
  case atStart => exact ⟨0, rfl, by omega, by simpa using B3.out, Below.refl _ _⟩
  case round =>
    obtain ⟨i, rfl, hi, hbi, hki⟩ := hrel
    have BI := hide hbi
    have KI := hide hki
    have LI : Hid (Later w wr) := below_later' L3.out hki (by have := HX.out; have := HB.out; omega)
    have PI := hide (P3.out.below hki hpb)
    have hbr : b ≤ wr.heap.size := by have := hki.size; omega
    have hlen : ((l.take i).flatMap stepT).length ≤ 24000 := by
      have h1 := steps_len (l.take i) fun s hs => HST.out s (List.mem_of_mem_take hs)
      rw [List.length_take, HN.out] at h1
      have : min i n ≤ 40 := by omega
      omega
    clear hbi hki
    by_cases hlt : i < n
    · obtain ⟨s, bb, off, c', hs', hvv, _, _, _, hr⟩ := StepsAt.at_ (StepsAt.kept H.out (Kept.of_below LI.out F)) (i := i) (by rw [HN.out]; exact hlt)
      rw [HN.out] at hvv
      obtain ⟨rfl, rfl⟩ : A = some ⟨bb, off, none⟩ ∧ cap = c' := by injection hvv with e1 _ e3; exact ⟨e1, e3⟩
      obtain ⟨r0, r1, r2, r3, r4, r5⟩ := range_step hr
      have hsm : s ∈ l := List.mem_of_getElem? hs'
      obtain ⟨w1, w2, w3'⟩ := HWF.out s hsm
      have hsn := HL3.out s hsm
      have HS := hide hs'
      obtain ⟨W5, hW5⟩ : ∃ W5, W5 = wr.alloc (.cells s.cells.toArray 41 (0, 0)) := ⟨_, rfl⟩
      obtain ⟨y, hy⟩ : ∃ y, y = wr.heap.size := ⟨_, rfl⟩
      have Y5 : Hid (StepBox y s W5) := by rw [hW5, hy]; exact heap_alloc_new wr _
      have M5 : Hid (Later wr W5) := by rw [hW5]; exact (Below.refl _ _).alloc (Nat.le_refl _) _
      have CP := hide (printStep_any (w := W5) (s := s) (BI.out.later M5.out) (by have := Below.size M5.out; omega) (by rw [List.length_append]; omega) (by omega) w1 w2 w3' (PI.out.below M5.out PI.out.lt) hpb)
      unfold StepD.cells at hW5
      have HW5 := hide hW5.symm
      have HY := hide hy.symm
      clear hs' hvv hr hW5 hy w1 w2 w3' hsn hsm
      go_wp2_with (rw [HW5.out, HY.out]; refine wpList_load_box (by rfl) 41 (.tmp 5) (by rfl) y 0 (by rfl) 41 _ Y5.out 6 _ Tryd.underlying41 (by rfl) (by kernel_rfl) s.cells (by rfl) (by rfl) ?_)
      refine CP.out.mono ?_
      rintro e w6 ⟨rfl, hb6, hk6, _⟩
      have B6 : Hid (BAt b b (S1 ++ (l.take (i + 1)).flatMap stepT) w6) := by
        show BAt _ _ _ _
        rw [List.take_add_one, HS.out]
        simpa [List.flatMap_append] using hb6
      have K6 := hide (KI.out.trans ((Below.mono M5.out hbr).trans hk6))
      clear hb6 hk6 CP r0 r1 r2 r3 r4 r5
      go_wp2_with (fail)
      go_roundw
      case rel => exact ⟨i + 1, by go_num, by omega, B6.out, K6.out⟩
      case measure => simp [intOf]; omega
    · have hie : i = n := by omega
      subst hie
      have hft : l.take i = l := by rw [← HN.out, List.take_length]
      rw [hft] at hlen BI
      go_wp2_with (fail)
      refine (bwrites b b (S1 ++ l.flatMap stepT) ⟨#[32, 125]⟩ wr BI.out (by show _ + 2 ≤ _; rw [List.length_append]; omega) (by omega)).mono ?_
      rintro e w6 ⟨rfl, hb6, hk6, _⟩
      have B6 : Hid (BAt b b PF w6) := by
        show BAt _ _ _ _
        rw [HP.out]
        exact hb6
      have L6 : Hid (Later w w6) := below_later' LI.out hk6 (by have := HX.out; have := HB.out; omega)
      have hb6s : b ≤ w6.heap.size := by have := hk6.size; omega
      clear hb6 hk6
      go_wp2_with (fail)
      refine (bstring b b PF w6 B6.out hb6s).mono ?_
      rintro e w7 ⟨rfl, hk7⟩
      have L7 : Hid (Later w w7) := below_later' L6.out hk7 (by have := HX.out; have := HB.out; omega)
      clear hk7
      go_wp2_with (fail)
      go_ret
      exact ⟨rfl, L7.out⟩
end
end Go.Proofs.YtdahnjcoflifbaaDoor
/- The document's digits. -/
namespace Go.Proofs.YtdahnjcoflifbaaDoor
open Go.RowKit

theorem dig_0 (W : World) : (Instr.slice 9 (.string ⟨#[48, 49, 50, 51, 52, 53, 54, 55, 56, 57]⟩) (some (.int .u64 0)) (some (.int .u64 1)) none).run Tryd.prog W = .ok (.string ⟨#[48]⟩) W := by kernel_rfl
theorem dig_1 (W : World) : (Instr.slice 9 (.string ⟨#[48, 49, 50, 51, 52, 53, 54, 55, 56, 57]⟩) (some (.int .u64 1)) (some (.int .u64 2)) none).run Tryd.prog W = .ok (.string ⟨#[49]⟩) W := by kernel_rfl
theorem dig_2 (W : World) : (Instr.slice 9 (.string ⟨#[48, 49, 50, 51, 52, 53, 54, 55, 56, 57]⟩) (some (.int .u64 2)) (some (.int .u64 3)) none).run Tryd.prog W = .ok (.string ⟨#[50]⟩) W := by kernel_rfl
theorem dig_3 (W : World) : (Instr.slice 9 (.string ⟨#[48, 49, 50, 51, 52, 53, 54, 55, 56, 57]⟩) (some (.int .u64 3)) (some (.int .u64 4)) none).run Tryd.prog W = .ok (.string ⟨#[51]⟩) W := by kernel_rfl
theorem dig_4 (W : World) : (Instr.slice 9 (.string ⟨#[48, 49, 50, 51, 52, 53, 54, 55, 56, 57]⟩) (some (.int .u64 4)) (some (.int .u64 5)) none).run Tryd.prog W = .ok (.string ⟨#[52]⟩) W := by kernel_rfl
theorem dig_5 (W : World) : (Instr.slice 9 (.string ⟨#[48, 49, 50, 51, 52, 53, 54, 55, 56, 57]⟩) (some (.int .u64 5)) (some (.int .u64 6)) none).run Tryd.prog W = .ok (.string ⟨#[53]⟩) W := by kernel_rfl
theorem dig_6 (W : World) : (Instr.slice 9 (.string ⟨#[48, 49, 50, 51, 52, 53, 54, 55, 56, 57]⟩) (some (.int .u64 6)) (some (.int .u64 7)) none).run Tryd.prog W = .ok (.string ⟨#[54]⟩) W := by kernel_rfl
theorem dig_7 (W : World) : (Instr.slice 9 (.string ⟨#[48, 49, 50, 51, 52, 53, 54, 55, 56, 57]⟩) (some (.int .u64 7)) (some (.int .u64 8)) none).run Tryd.prog W = .ok (.string ⟨#[55]⟩) W := by kernel_rfl
theorem dig_8 (W : World) : (Instr.slice 9 (.string ⟨#[48, 49, 50, 51, 52, 53, 54, 55, 56, 57]⟩) (some (.int .u64 8)) (some (.int .u64 9)) none).run Tryd.prog W = .ok (.string ⟨#[56]⟩) W := by kernel_rfl
theorem dig_9 (W : World) : (Instr.slice 9 (.string ⟨#[48, 49, 50, 51, 52, 53, 54, 55, 56, 57]⟩) (some (.int .u64 9)) (some (.int .u64 10)) none).run Tryd.prog W = .ok (.string ⟨#[57]⟩) W := by kernel_rfl
theorem dig_any (d : Nat) (h : d < 10) (W : World) : (Instr.slice 9 (.string ⟨#[48, 49, 50, 51, 52, 53, 54, 55, 56, 57]⟩) (some (.int .u64 (d : Int))) (some (.int .u64 ((d : Int) + 1))) none).run Tryd.prog W = .ok (.string ⟨#[UInt8.ofNat (48 + d)]⟩) W := by
  match d, h with
  | 0, _ => exact dig_0 W
  | 1, _ => exact dig_1 W
  | 2, _ => exact dig_2 W
  | 3, _ => exact dig_3 W
  | 4, _ => exact dig_4 W
  | 5, _ => exact dig_5 W
  | 6, _ => exact dig_6 W
  | 7, _ => exact dig_7 W
  | 8, _ => exact dig_8 W
  | 9, _ => exact dig_9 W
section
variable {w : World}
set_option maxHeartbeats 4000000 in
set_option maxRecDepth 100000 in
theorem digits_any (n : Int) (hn : I64 n) : Calls Tryd.prog 36 #[.int .i64 n] w fun e w' => e = .returned (.string ⟨(Lib.itoa n).toArray⟩) ∧ w' = w := by
  have hlen := itoa_len n hn
  obtain ⟨hn1, hn2⟩ := hn
  by_cases hneg : n < 0
  · obtain ⟨U, hUn⟩ : ∃ U : Nat, n = -(U : Int) := ⟨n.natAbs, by omega⟩
    have hU : U ≤ 9223372036854775808 := by omega
    have hit : Lib.itoa n = [45] ++ Lib.decDigits U := by rw [hUn, Lib.itoa_neg U (by omega)]; rfl
    rw [hit, List.length_append] at hlen
    have hdl : (Lib.decDigits U).length ≤ 21 := by simp at hlen; omega
    have HIT := hide hit
    obtain ⟨M, hM⟩ : ∃ M : Int, IntKind.u64.wrap n = M := ⟨_, rfl⟩
    have hMv : M = 18446744073709551616 - (U : Int) := by rw [← hM, IntKind.wrap_u64]; omega
    have hMn : IntKind.u64.wrap (-M) = (U : Int) := by rw [IntKind.wrap_u64]; omega
    clear hlen hit hUn hMv hn1 hn2
    go_enter Tryd.func36, Tryd.ntmps36
    go_wp2
    clear hM hMn
    go_loop [3, 5] (fun t3 t5 => ∃ (u : Nat) (acc : List UInt8), t3 = .int .u64 (u : Int) ∧ u ≤ 9223372036854775808 ∧ t5 = .string ⟨acc.toArray⟩ ∧ Lib.decDigits u ++ acc = Lib.decDigits U) (fun t3 _ => (intOf t3).toNat)
    case atStart => exact ⟨U, [], rfl, hU, rfl, by simp⟩
    case round =>
      obtain ⟨u, acc, rfl, hu, rfl, hda⟩ := hrel
      have hal : acc.length ≤ 21 := by
        have := congrArg List.length hda
        rw [List.length_append] at this
        omega
      obtain ⟨d, hd⟩ : ∃ d, u % 10 = d := ⟨_, rfl⟩
      obtain ⟨v, hv⟩ : ∃ v, u / 10 = v := ⟨_, rfl⟩
      have hd10 : d < 10 := by omega
      have hrem : (u : Int) % 10 = (d : Int) := by omega
      have hquo : (u : Int) / 10 = (v : Int) := by omega
      have hsl := dig_any d hd10
      obtain ⟨c, hc⟩ : ∃ c, UInt8.ofNat (48 + d) = c := ⟨_, rfl⟩
      rw [hc] at hsl
      obtain ⟨S, hS⟩ : ∃ S, c :: acc = S := ⟨_, rfl⟩
      have z1 : (⟨#[c]⟩ : ByteArray).size + (⟨acc.toArray⟩ : ByteArray).size ≤ 9223372036854775807 := by have := mk_size acc; rw [this]; show 1 + _ ≤ _; omega
      have m1 : (⟨#[c]⟩ ++ ⟨acc.toArray⟩ : ByteArray) = ⟨S.toArray⟩ := by rw [← hS]; exact mk_append [c] acc
      have q1 : S.length ≤ 22 := by rw [← hS]; simp; omega
      by_cases hu10 : u < 10
      · have hv0 : v = 0 := by omega
        have hSU : S = Lib.decDigits U := by
          rw [← hda, Lib.decDigits, dif_pos hu10, ← hS, ← hc, ← hd, Nat.mod_eq_of_lt hu10]
          rfl
        subst hv0
        have hv0e : (((0 : Nat) : Int) == 0) = true := rfl
        obtain ⟨R, hR⟩ : ∃ R, [45] ++ S = R := ⟨_, rfl⟩
        have z2 : (⟨#[45]⟩ : ByteArray).size + (⟨S.toArray⟩ : ByteArray).size ≤ 9223372036854775807 := by have := mk_size S; rw [this]; show 1 + _ ≤ _; omega
        have m2 : (⟨#[45]⟩ ++ ⟨S.toArray⟩ : ByteArray) = ⟨R.toArray⟩ := by rw [← hR]; exact mk_append [45] S
        have HRI : Hid (Lib.itoa n = R) := by show _ = _; rw [HIT.out, ← hR, hSU]
        clear hd hv hc hS hSU hR hda hu10
        go_wp2
        go_ret
        exact ⟨by rw [HRI.out]; rfl, rfl⟩
      · have hv0 : ((v : Int) == 0) = false := by rw [beq_eq_false_iff_ne]; omega
        have HDA : Hid (Lib.decDigits v ++ S = Lib.decDigits U) := by
          show _ = _
          rw [← hda, Lib.decDigits.eq_def u, dif_neg hu10, ← hS, ← hc, ← hd, ← hv]
          simp
        have hvu : v < u := by omega
        have hvb : v ≤ 9223372036854775808 := by omega
        clear hd hv hc hS hda hu10
        go_wp2
        go_round
        case rel => exact ⟨v, S, rfl, hvb, rfl, HDA.out⟩
        case measure => simp [intOf]; omega
  · obtain ⟨U, hUn⟩ : ∃ U : Nat, n = (U : Int) := ⟨n.toNat, by omega⟩
    have hU : U ≤ 9223372036854775808 := by omega
    have hit : Lib.itoa n = [] ++ Lib.decDigits U := by rw [hUn, Lib.itoa_nonneg U]; rfl
    rw [hit, List.length_append] at hlen
    have hdl : (Lib.decDigits U).length ≤ 21 := by simp at hlen; omega
    have HIT := hide hit
    have hM : IntKind.u64.wrap n = (U : Int) := by rw [hUn, IntKind.wrap_u64]; omega
    clear hlen hit hUn hn1 hn2
    go_enter Tryd.func36, Tryd.ntmps36
    go_wp2
    clear hM
    go_loop [3, 5] (fun t3 t5 => ∃ (u : Nat) (acc : List UInt8), t3 = .int .u64 (u : Int) ∧ u ≤ 9223372036854775808 ∧ t5 = .string ⟨acc.toArray⟩ ∧ Lib.decDigits u ++ acc = Lib.decDigits U) (fun t3 _ => (intOf t3).toNat)
    case atStart => exact ⟨U, [], rfl, hU, rfl, by simp⟩
    case round =>
      obtain ⟨u, acc, rfl, hu, rfl, hda⟩ := hrel
      have hal : acc.length ≤ 21 := by
        have := congrArg List.length hda
        rw [List.length_append] at this
        omega
      obtain ⟨d, hd⟩ : ∃ d, u % 10 = d := ⟨_, rfl⟩
      obtain ⟨v, hv⟩ : ∃ v, u / 10 = v := ⟨_, rfl⟩
      have hd10 : d < 10 := by omega
      have hrem : (u : Int) % 10 = (d : Int) := by omega
      have hquo : (u : Int) / 10 = (v : Int) := by omega
      have hsl := dig_any d hd10
      obtain ⟨c, hc⟩ : ∃ c, UInt8.ofNat (48 + d) = c := ⟨_, rfl⟩
      rw [hc] at hsl
      obtain ⟨S, hS⟩ : ∃ S, c :: acc = S := ⟨_, rfl⟩
      have z1 : (⟨#[c]⟩ : ByteArray).size + (⟨acc.toArray⟩ : ByteArray).size ≤ 9223372036854775807 := by have := mk_size acc; rw [this]; show 1 + _ ≤ _; omega
      have m1 : (⟨#[c]⟩ ++ ⟨acc.toArray⟩ : ByteArray) = ⟨S.toArray⟩ := by rw [← hS]; exact mk_append [c] acc
      have q1 : S.length ≤ 22 := by rw [← hS]; simp; omega
      by_cases hu10 : u < 10
      · have hv0 : v = 0 := by omega
        have hSU : S = Lib.decDigits U := by
          rw [← hda, Lib.decDigits, dif_pos hu10, ← hS, ← hc, ← hd, Nat.mod_eq_of_lt hu10]
          rfl
        subst hv0
        have hv0e : (((0 : Nat) : Int) == 0) = true := rfl
        obtain ⟨R, hR⟩ : ∃ R, [] ++ S = R := ⟨_, rfl⟩
        have z2 : (⟨#[]⟩ : ByteArray).size + (⟨S.toArray⟩ : ByteArray).size ≤ 9223372036854775807 := by have := mk_size S; rw [this]; show 0 + _ ≤ _; omega
        have m2 : (⟨#[]⟩ ++ ⟨S.toArray⟩ : ByteArray) = ⟨R.toArray⟩ := by rw [← hR]; exact mk_append [] S
        have HRI : Hid (Lib.itoa n = R) := by show _ = _; rw [HIT.out, ← hR, hSU]
        clear hd hv hc hS hSU hR hda hu10
        go_wp2
        go_ret
        exact ⟨by rw [HRI.out]; rfl, rfl⟩
      · have hv0 : ((v : Int) == 0) = false := by rw [beq_eq_false_iff_ne]; omega
        have HDA : Hid (Lib.decDigits v ++ S = Lib.decDigits U) := by
          show _ = _
          rw [← hda, Lib.decDigits.eq_def u, dif_neg hu10, ← hS, ← hc, ← hd, ← hv]
          simp
        have hvu : v < u := by omega
        have hvb : v ≤ 9223372036854775808 := by omega
        clear hd hv hc hS hda hu10
        go_wp2
        go_round
        case rel => exact ⟨v, S, rfl, hvb, rfl, HDA.out⟩
        case measure => simp [intOf]; omega
end
end Go.Proofs.YtdahnjcoflifbaaDoor
/- The document's Print. -/
namespace Go.Proofs.YtdahnjcoflifbaaDoor
open Go.RowKit

section
variable {w : World}
set_option maxHeartbeats 8000000 in
set_option maxRecDepth 100000 in
theorem rprint_any {F : Nat → Prop} {name : ByteArray} {v : Value} {l : List StepD} (h : StepsAt F w v l) (hlong : longF name l = false) (hwf : ∀ s ∈ l, I64 s.stub ∧ I64 s.retry ∧ I64 s.wait) :
    Calls Tryd.prog 17 #[.agg #[.string name, v]] w fun e w' => e = .returned (.string ⟨(printF name l).toArray⟩) ∧ Later w w' := by
  obtain ⟨A, cap, rfl, hc1, hc2, _⟩ := FlatAt.shape h
  obtain ⟨n, hn⟩ : ∃ n, l.length = n := ⟨_, rfl⟩
  rw [hn] at h hc1 ⊢
  simp only [longF, Bool.or_eq_false_iff, decide_eq_false_iff_not, List.any_eq_false, decide_eq_true_eq] at hlong
  obtain ⟨hl1, hl2, hl3⟩ := hlong
  have hn40 : n ≤ 40 := by omega
  have hst : ∀ s ∈ l, (stepT s).length ≤ 600 := fun s hs => by
    obtain ⟨a, b, c⟩ := hwf s hs
    exact stepT_len s a b c (by have := hl3 s hs; omega)
  obtain ⟨W1, hW1⟩ : ∃ W1, W1 = w.alloc (.cells #[.string name, .slice A n cap] 25 (0, 0)) := ⟨_, rfl⟩
  have L1 : Hid (Later w W1) := by rw [hW1]; exact (Below.refl _ _).alloc (Nat.le_refl _) _
  obtain ⟨nm, hnl⟩ : ∃ nm, name.data.toList = nm := ⟨_, rfl⟩
  have hnm : name = ⟨nm.toArray⟩ := by rw [← hnl, mk_self]
  have hnlen : nm.length ≤ 400 := by
    rw [← hnl, Array.length_toList]
    show name.size ≤ _
    omega
  obtain ⟨S0, hS0⟩ : ∃ S0, [115, 97, 103, 97, 32] ++ nm = S0 := ⟨_, rfl⟩
  have zS0 : (⟨#[115, 97, 103, 97, 32]⟩ : ByteArray).size + (⟨nm.toArray⟩ : ByteArray).size ≤ 9223372036854775807 := by have e2 := mk_size nm; rw [e2]; show 5 + _ ≤ _; omega
  have mS0 : (⟨#[115, 97, 103, 97, 32]⟩ ++ ⟨nm.toArray⟩ : ByteArray) = ⟨S0.toArray⟩ := by rw [← hS0]; exact mk_append [115, 97, 103, 97, 32] nm
  have qS0 : S0.length ≤ 405 := by rw [← hS0, List.length_append]; show 5 + _ ≤ _; omega
  obtain ⟨S1, hS1⟩ : ∃ S1, S0 ++ [32, 123] = S1 := ⟨_, rfl⟩
  have zS1 : (⟨S0.toArray⟩ : ByteArray).size + (⟨#[32, 123]⟩ : ByteArray).size ≤ 9223372036854775807 := by have e1 := mk_size S0; rw [e1]; show _ + 2 ≤ _; omega
  have mS1 : (⟨S0.toArray⟩ ++ ⟨#[32, 123]⟩ : ByteArray) = ⟨S1.toArray⟩ := by rw [← hS1]; exact mk_append S0 [32, 123]
  have qS1 : S1.length ≤ 407 := by rw [← hS1, List.length_append]; show _ + 2 ≤ _; omega
  have HP : Hid (printF name l = S1 ++ l.flatMap stepT ++ [32, 125]) := by show _ = _; unfold printF; rw [hnl, hS0, hS1]
  obtain ⟨PF, hPF⟩ : ∃ PF, printF name l = PF := ⟨_, rfl⟩
  rw [hPF] at HP ⊢
  have HST := hide hst
  have HWF := hide hwf
  have HL3 := hide hl3
  have H := hide h
  have HN := hide hn
  clear h hn hst hwf hl3 hnl hS0 hS1 hPF
  subst hnm
  have HW1 := hide hW1.symm
  clear hW1
  go_enter Tryd.func17, Tryd.ntmps17
  go_wp2_with (fail)
  rw [HW1.out]
  clear zS0 mS0 zS1 mS1
  go_loopw [3, 13] (fun t3 v wr => ∃ i : Nat, v = .int .i64 (i : Int) ∧ i ≤ n ∧ t3 = .string ⟨(S1 ++ (l.take i).flatMap stepT).toArray⟩ ∧ Later w wr) (fun _ v _ => n - (intOf v).toNat)
  case atStart => exact ⟨0, rfl, by omega, by simp, L1.out⟩
  case round =>
    obtain ⟨i, rfl, hi, rfl, hlat⟩ := hrel
    have LI := hide hlat
    have hlen : ((l.take i).flatMap stepT).length ≤ 24000 := by
      have h1 := steps_len (l.take i) fun s hs => HST.out s (List.mem_of_mem_take hs)
      rw [List.length_take, HN.out] at h1
      have : min i n ≤ 40 := by omega
      omega
    obtain ⟨S, hS⟩ : ∃ S, S1 ++ (l.take i).flatMap stepT = S := ⟨_, rfl⟩
    have qS : S.length ≤ 24407 := by rw [← hS, List.length_append]; omega
    rw [hS]
    have HS := hide hS
    clear hlat hlen hS
    by_cases hlt : i < n
    · obtain ⟨s, bb, off, c', hs', hvv, _, _, _, hr⟩ := StepsAt.at_ (StepsAt.kept H.out (Kept.of_below LI.out F)) (i := i) (by rw [HN.out]; exact hlt)
      rw [HN.out] at hvv
      obtain ⟨rfl, rfl⟩ : A = some ⟨bb, off, none⟩ ∧ cap = c' := by injection hvv with e1 _ e3; exact ⟨e1, e3⟩
      obtain ⟨r0, r1, r2, r3, r4, r5⟩ := range_step hr
      have hsm : s ∈ l := List.mem_of_getElem? hs'
      obtain ⟨w1, w2, w3'⟩ := HWF.out s hsm
      have hsn := HL3.out s hsm
      have HSI := hide hs'
      obtain ⟨nl, hnl⟩ : ∃ nl, s.name.data.toList = nl := ⟨_, rfl⟩
      have hnm : s.name = ⟨nl.toArray⟩ := by rw [← hnl, mk_self]
      have hnlen : nl.length ≤ 400 := by
        rw [← hnl, Array.length_toList]
        show s.name.size ≤ _
        omega
      obtain ⟨i1, hi1⟩ : ∃ i1, Lib.itoa s.stub = i1 := ⟨_, rfl⟩
      obtain ⟨i2, hi2⟩ : ∃ i2, Lib.itoa s.retry = i2 := ⟨_, rfl⟩
      obtain ⟨i3, hi3⟩ : ∃ i3, Lib.itoa s.wait = i3 := ⟨_, rfl⟩
      have n1 : i1.length ≤ 21 := by rw [← hi1]; exact itoa_len _ w1
      have n2 : i2.length ≤ 21 := by rw [← hi2]; exact itoa_len _ w2
      have n3 : i3.length ≤ 21 := by rw [← hi3]; exact itoa_len _ w3'
      have CI1 : Hid (∀ W, Calls Tryd.prog 36 #[.int .i64 s.stub] W fun e w' => e = .returned (.string ⟨i1.toArray⟩) ∧ w' = W) := fun W => by rw [← hi1]; exact digits_any _ w1
      have CI2 : Hid (∀ W, Calls Tryd.prog 36 #[.int .i64 s.retry] W fun e w' => e = .returned (.string ⟨i2.toArray⟩) ∧ w' = W) := fun W => by rw [← hi2]; exact digits_any _ w2
      have CI3 : Hid (∀ W, Calls Tryd.prog 36 #[.int .i64 s.wait] W fun e w' => e = .returned (.string ⟨i3.toArray⟩) ∧ w' = W) := fun W => by rw [← hi3]; exact digits_any _ w3'
      obtain ⟨un, hun⟩ : ∃ un, s.undo = un := ⟨_, rfl⟩
      obtain ⟨pv, hpv⟩ : ∃ pv, s.pivot = pv := ⟨_, rfl⟩
      have HT : Hid (stepT s = ([32, 115, 116, 101, 112, 32] ++ nl) ++ ([32, 115, 116, 117, 98, 32] ++ i1) ++ ([32, 114, 101, 116, 114, 121, 32] ++ i2) ++ ([32, 119, 97, 105, 116, 32] ++ i3)
        ++ (if un then [32, 117, 110, 100, 111] else []) ++ (if pv then [32, 112, 105, 118, 111, 116] else []) ++ [59]) := by show _ = _; unfold stepT; rw [hnl, hi1, hi2, hi3, hun, hpv]
      obtain ⟨Sa, hSa⟩ : ∃ Sa, [32, 115, 116, 101, 112, 32] ++ nl = Sa := ⟨_, rfl⟩
      have zSa : (⟨#[32, 115, 116, 101, 112, 32]⟩ : ByteArray).size + (⟨nl.toArray⟩ : ByteArray).size ≤ 9223372036854775807 := by have e2 := mk_size nl; rw [e2]; show 6 + _ ≤ _; omega
      have mSa : (⟨#[32, 115, 116, 101, 112, 32]⟩ ++ ⟨nl.toArray⟩ : ByteArray) = ⟨Sa.toArray⟩ := by rw [← hSa]; exact mk_append [32, 115, 116, 101, 112, 32] nl
      have qSa : Sa.length ≤ 406 := by rw [← hSa, List.length_append]; show 6 + _ ≤ _; omega
      obtain ⟨Sb, hSb⟩ : ∃ Sb, Sa ++ [32, 115, 116, 117, 98, 32] = Sb := ⟨_, rfl⟩
      have zSb : (⟨Sa.toArray⟩ : ByteArray).size + (⟨#[32, 115, 116, 117, 98, 32]⟩ : ByteArray).size ≤ 9223372036854775807 := by have e1 := mk_size Sa; rw [e1]; show _ + 6 ≤ _; omega
      have mSb : (⟨Sa.toArray⟩ ++ ⟨#[32, 115, 116, 117, 98, 32]⟩ : ByteArray) = ⟨Sb.toArray⟩ := by rw [← hSb]; exact mk_append Sa [32, 115, 116, 117, 98, 32]
      have qSb : Sb.length ≤ 412 := by rw [← hSb, List.length_append]; show _ + 6 ≤ _; omega
      obtain ⟨Sc, hSc⟩ : ∃ Sc, Sb ++ i1 = Sc := ⟨_, rfl⟩
      have zSc : (⟨Sb.toArray⟩ : ByteArray).size + (⟨i1.toArray⟩ : ByteArray).size ≤ 9223372036854775807 := by have e1 := mk_size Sb; have e2 := mk_size i1; rw [e1, e2]; omega
      have mSc : (⟨Sb.toArray⟩ ++ ⟨i1.toArray⟩ : ByteArray) = ⟨Sc.toArray⟩ := by rw [← hSc]; exact mk_append Sb i1
      have qSc : Sc.length ≤ 433 := by rw [← hSc, List.length_append]; omega
      obtain ⟨Sd, hSd⟩ : ∃ Sd, Sc ++ [32, 114, 101, 116, 114, 121, 32] = Sd := ⟨_, rfl⟩
      have zSd : (⟨Sc.toArray⟩ : ByteArray).size + (⟨#[32, 114, 101, 116, 114, 121, 32]⟩ : ByteArray).size ≤ 9223372036854775807 := by have e1 := mk_size Sc; rw [e1]; show _ + 7 ≤ _; omega
      have mSd : (⟨Sc.toArray⟩ ++ ⟨#[32, 114, 101, 116, 114, 121, 32]⟩ : ByteArray) = ⟨Sd.toArray⟩ := by rw [← hSd]; exact mk_append Sc [32, 114, 101, 116, 114, 121, 32]
      have qSd : Sd.length ≤ 440 := by rw [← hSd, List.length_append]; show _ + 7 ≤ _; omega
      obtain ⟨Se, hSe⟩ : ∃ Se, Sd ++ i2 = Se := ⟨_, rfl⟩
      have zSe : (⟨Sd.toArray⟩ : ByteArray).size + (⟨i2.toArray⟩ : ByteArray).size ≤ 9223372036854775807 := by have e1 := mk_size Sd; have e2 := mk_size i2; rw [e1, e2]; omega
      have mSe : (⟨Sd.toArray⟩ ++ ⟨i2.toArray⟩ : ByteArray) = ⟨Se.toArray⟩ := by rw [← hSe]; exact mk_append Sd i2
      have qSe : Se.length ≤ 461 := by rw [← hSe, List.length_append]; omega
      obtain ⟨Sf, hSf⟩ : ∃ Sf, Se ++ [32, 119, 97, 105, 116, 32] = Sf := ⟨_, rfl⟩
      have zSf : (⟨Se.toArray⟩ : ByteArray).size + (⟨#[32, 119, 97, 105, 116, 32]⟩ : ByteArray).size ≤ 9223372036854775807 := by have e1 := mk_size Se; rw [e1]; show _ + 6 ≤ _; omega
      have mSf : (⟨Se.toArray⟩ ++ ⟨#[32, 119, 97, 105, 116, 32]⟩ : ByteArray) = ⟨Sf.toArray⟩ := by rw [← hSf]; exact mk_append Se [32, 119, 97, 105, 116, 32]
      have qSf : Sf.length ≤ 467 := by rw [← hSf, List.length_append]; show _ + 6 ≤ _; omega
      obtain ⟨Sg, hSg⟩ : ∃ Sg, Sf ++ i3 = Sg := ⟨_, rfl⟩
      have zSg : (⟨Sf.toArray⟩ : ByteArray).size + (⟨i3.toArray⟩ : ByteArray).size ≤ 9223372036854775807 := by have e1 := mk_size Sf; have e2 := mk_size i3; rw [e1, e2]; omega
      have mSg : (⟨Sf.toArray⟩ ++ ⟨i3.toArray⟩ : ByteArray) = ⟨Sg.toArray⟩ := by rw [← hSg]; exact mk_append Sf i3
      have qSg : Sg.length ≤ 488 := by rw [← hSg, List.length_append]; omega
      obtain ⟨Sh, hSh⟩ : ∃ Sh, S ++ Sg = Sh := ⟨_, rfl⟩
      have zSh : (⟨S.toArray⟩ : ByteArray).size + (⟨Sg.toArray⟩ : ByteArray).size ≤ 9223372036854775807 := by have e1 := mk_size S; have e2 := mk_size Sg; rw [e1, e2]; omega
      have mSh : (⟨S.toArray⟩ ++ ⟨Sg.toArray⟩ : ByteArray) = ⟨Sh.toArray⟩ := by rw [← hSh]; exact mk_append S Sg
      have qSh : Sh.length ≤ 24900 := by rw [← hSh, List.length_append]; omega
      have HSH : Hid (Sh = S ++ (([32, 115, 116, 101, 112, 32] ++ nl) ++ ([32, 115, 116, 117, 98, 32] ++ i1) ++ ([32, 114, 101, 116, 114, 121, 32] ++ i2) ++ ([32, 119, 97, 105, 116, 32] ++ i3))) := by
        show _ = _
        rw [← hSh, ← hSg, ← hSf, ← hSe, ← hSd, ← hSc, ← hSb, ← hSa]
        simp only [List.append_assoc]
      clear hSa hSb hSc hSd hSe hSf hSg hSh
      obtain ⟨W5, hW5⟩ : ∃ W5, W5 = wr.alloc (.cells s.cells.toArray 41 (0, 0)) := ⟨_, rfl⟩
      obtain ⟨y, hy⟩ : ∃ y, y = wr.heap.size := ⟨_, rfl⟩
      have Y5 : Hid (StepBox y s W5) := by rw [hW5, hy]; exact heap_alloc_new wr _
      have M5 : Hid (Later wr W5) := by rw [hW5]; exact (Below.refl _ _).alloc (Nat.le_refl _) _
      obtain ⟨b0, b1, b2, b3, b4, b5, bf⟩ := Y5.out.cells
      rw [hnm] at b0
      rw [hun] at b4
      rw [hpv] at b5
      unfold StepD.cells at hW5
      have HW5 := hide hW5.symm
      have HY := hide hy.symm
      have hy5 : y < W5.heap.size := lt_of_block Y5.out
      have L5 : Hid (Later w W5.drew) := LI.out.trans (M5.out.trans (Later.drew W5))
      clear hs' hvv hr hW5 hy w1 w2 w3' hsn hsm hnl hnm hi1 hi2 hi3 hun hpv bf
      go_wp2_with (fail)
      have hw := HW5.out
      have hyy := HY.out
      simp only [hw, hyy]
      clear hw hyy r0 r1 r2 r3 r4 r5
      refine wp_region_L (by kernel_rfl) ?_
      refine wpAnyL_take (i := 0) (d := some 17) (v := ?vap0) rfl rfl (by kernel_rfl) (by kernel_rfl) (by kernel_rfl) (fun _ _ _ h => h) (by rfl) ?yap0 ?_
      case yap0 => (intro w' hw'; go_simp; try (with_reducible rfl))
      simp only [Act.put]; try simp only [List.setIfInBounds_toArray]; try simp only [List.set_cons_zero, List.set_cons_succ]
      refine wpAnyL_take (i := 1) (d := some 18) (v := ?vap1) rfl rfl (by kernel_rfl) (by kernel_rfl) (by kernel_rfl) (fun _ _ _ h => h) (by rfl) ?yap1 ?_
      case yap1 => (intro w' hw'; go_simp; try (with_reducible rfl))
      simp only [Act.put]; try simp only [List.setIfInBounds_toArray]; try simp only [List.set_cons_zero, List.set_cons_succ]
      refine wpAnyL_take (i := 2) (d := some 19) (v := ?vap2) rfl rfl (by kernel_rfl) (by kernel_rfl) (by kernel_rfl) (fun _ _ _ h => h) (by rfl) ?yap2 ?_
      case yap2 => (intro w' hw'; have y := later_cell ((Later.drew _).trans hw') b0; go_simp; try (with_reducible rfl))
      simp only [Act.put]; try simp only [List.setIfInBounds_toArray]; try simp only [List.set_cons_zero, List.set_cons_succ]
      refine wpAnyL_take (i := 3) (d := some 20) (v := .string ⟨Sa.toArray⟩) rfl rfl (by kernel_rfl) (by kernel_rfl) (by kernel_rfl) (fun _ _ _ h => h) (by rfl) ?yap3 ?_
      case yap3 => (intro w' hw'; go_simp; omega)
      simp only [Act.put]; try simp only [List.setIfInBounds_toArray]; try simp only [List.set_cons_zero, List.set_cons_succ]
      refine wpAnyL_take (i := 4) (d := some 21) (v := .string ⟨Sb.toArray⟩) rfl rfl (by kernel_rfl) (by kernel_rfl) (by kernel_rfl) (fun _ _ _ h => h) (by rfl) ?yap4 ?_
      case yap4 => (intro w' hw'; go_simp; omega)
      simp only [Act.put]; try simp only [List.setIfInBounds_toArray]; try simp only [List.set_cons_zero, List.set_cons_succ]
      refine wpAnyL_take (i := 5) (d := some 22) (v := ?vap5) rfl rfl (by kernel_rfl) (by kernel_rfl) (by kernel_rfl) (fun _ _ _ h => h) (by rfl) ?yap5 ?_
      case yap5 => (intro w' hw'; go_simp; try (with_reducible rfl))
      simp only [Act.put]; try simp only [List.setIfInBounds_toArray]; try simp only [List.set_cons_zero, List.set_cons_succ]
      refine wpAnyL_take (i := 6) (d := some 23) (v := ?vap6) rfl rfl (by kernel_rfl) (by kernel_rfl) (by kernel_rfl) (fun _ _ _ h => h) (by rfl) ?yap6 ?_
      case yap6 => (intro w' hw'; have y := later_cell ((Later.drew _).trans hw') b1; go_simp; try (with_reducible rfl))
      simp only [Act.put]; try simp only [List.setIfInBounds_toArray]; try simp only [List.set_cons_zero, List.set_cons_succ]
      refine wpAnyL_take (i := 10) (d := some 27) (v := ?vap10) rfl rfl (by kernel_rfl) (by kernel_rfl) (by kernel_rfl) (fun _ _ _ h => h) (by rfl) ?yap10 ?_
      case yap10 => (intro w' hw'; go_simp; try (with_reducible rfl))
      simp only [Act.put]; try simp only [List.setIfInBounds_toArray]; try simp only [List.set_cons_zero, List.set_cons_succ]
      refine wpAnyL_take (i := 11) (d := some 28) (v := ?vap11) rfl rfl (by kernel_rfl) (by kernel_rfl) (by kernel_rfl) (fun _ _ _ h => h) (by rfl) ?yap11 ?_
      case yap11 => (intro w' hw'; have y := later_cell ((Later.drew _).trans hw') b2; go_simp; try (with_reducible rfl))
      simp only [Act.put]; try simp only [List.setIfInBounds_toArray]; try simp only [List.set_cons_zero, List.set_cons_succ]
      refine wpAnyL_take (i := 15) (d := some 32) (v := ?vap15) rfl rfl (by kernel_rfl) (by kernel_rfl) (by kernel_rfl) (fun _ _ _ h => h) (by rfl) ?yap15 ?_
      case yap15 => (intro w' hw'; go_simp; try (with_reducible rfl))
      simp only [Act.put]; try simp only [List.setIfInBounds_toArray]; try simp only [List.set_cons_zero, List.set_cons_succ]
      refine wpAnyL_take (i := 16) (d := some 33) (v := ?vap16) rfl rfl (by kernel_rfl) (by kernel_rfl) (by kernel_rfl) (fun _ _ _ h => h) (by rfl) ?yap16 ?_
      case yap16 => (intro w' hw'; have y := later_cell ((Later.drew _).trans hw') b3; go_simp; try (with_reducible rfl))
      simp only [Act.put]; try simp only [List.setIfInBounds_toArray]; try simp only [List.set_cons_zero, List.set_cons_succ]
      refine wpAnyL_only (i := 7) rfl (by kernel_rfl) (by rfl) fun K hK => ?_
      go_simp
      refine (CI1.out _).mono ?_
      rintro e w_7 ⟨rfl, hq_⟩
      obtain rfl := hq_.symm
      refine hK.out _ _ (Later.refl _) ?_
      clear hK K
      try (simp only [Act.put]; try simp only [List.setIfInBounds_toArray]; try simp only [List.set_cons_zero, List.set_cons_succ])
      refine wpAnyL_take (i := 8) (d := some 25) (v := .string ⟨Sc.toArray⟩) rfl rfl (by kernel_rfl) (by kernel_rfl) (by kernel_rfl) (fun _ _ _ h => h) (by rfl) ?yap8 ?_
      case yap8 => (intro w' hw'; go_simp; omega)
      simp only [Act.put]; try simp only [List.setIfInBounds_toArray]; try simp only [List.set_cons_zero, List.set_cons_succ]
      refine wpAnyL_take (i := 9) (d := some 26) (v := .string ⟨Sd.toArray⟩) rfl rfl (by kernel_rfl) (by kernel_rfl) (by kernel_rfl) (fun _ _ _ h => h) (by rfl) ?yap9 ?_
      case yap9 => (intro w' hw'; go_simp; omega)
      simp only [Act.put]; try simp only [List.setIfInBounds_toArray]; try simp only [List.set_cons_zero, List.set_cons_succ]
      refine wpAnyL_only (i := 12) rfl (by kernel_rfl) (by rfl) fun K hK => ?_
      go_simp
      refine (CI2.out _).mono ?_
      rintro e w_12 ⟨rfl, hq_⟩
      obtain rfl := hq_.symm
      refine hK.out _ _ (Later.refl _) ?_
      clear hK K
      try (simp only [Act.put]; try simp only [List.setIfInBounds_toArray]; try simp only [List.set_cons_zero, List.set_cons_succ])
      refine wpAnyL_take (i := 13) (d := some 30) (v := .string ⟨Se.toArray⟩) rfl rfl (by kernel_rfl) (by kernel_rfl) (by kernel_rfl) (fun _ _ _ h => h) (by rfl) ?yap13 ?_
      case yap13 => (intro w' hw'; go_simp; omega)
      simp only [Act.put]; try simp only [List.setIfInBounds_toArray]; try simp only [List.set_cons_zero, List.set_cons_succ]
      refine wpAnyL_take (i := 14) (d := some 31) (v := .string ⟨Sf.toArray⟩) rfl rfl (by kernel_rfl) (by kernel_rfl) (by kernel_rfl) (fun _ _ _ h => h) (by rfl) ?yap14 ?_
      case yap14 => (intro w' hw'; go_simp; omega)
      simp only [Act.put]; try simp only [List.setIfInBounds_toArray]; try simp only [List.set_cons_zero, List.set_cons_succ]
      refine wpAnyL_only (i := 17) rfl (by kernel_rfl) (by rfl) fun K hK => ?_
      go_simp
      refine (CI3.out _).mono ?_
      rintro e w_17 ⟨rfl, hq_⟩
      obtain rfl := hq_.symm
      refine hK.out _ _ (Later.refl _) ?_
      clear hK K
      try (simp only [Act.put]; try simp only [List.setIfInBounds_toArray]; try simp only [List.set_cons_zero, List.set_cons_succ])
      refine wpAnyL_take (i := 18) (d := some 35) (v := .string ⟨Sg.toArray⟩) rfl rfl (by kernel_rfl) (by kernel_rfl) (by kernel_rfl) (fun _ _ _ h => h) (by rfl) ?yap18 ?_
      case yap18 => (intro w' hw'; go_simp; omega)
      simp only [Act.put]; try simp only [List.setIfInBounds_toArray]; try simp only [List.set_cons_zero, List.set_cons_succ]
      refine wpAnyL_take (i := 19) (d := some 36) (v := .string ⟨Sh.toArray⟩) rfl rfl (by kernel_rfl) (by kernel_rfl) (by kernel_rfl) (fun _ _ _ h => h) (by rfl) ?yap19 ?_
      case yap19 => (intro w' hw'; go_simp; omega)
      simp only [Act.put]; try simp only [List.setIfInBounds_toArray]; try simp only [List.set_cons_zero, List.set_cons_succ]
      refine wpAnyL_take (i := 20) (d := some 3) (v := ?vap20) rfl rfl (by kernel_rfl) (by kernel_rfl) (by kernel_rfl) (fun _ _ _ h => h) (by rfl) ?yap20 ?_
      case yap20 => (intro w' hw'; go_simp; try (with_reducible rfl))
      simp only [Act.put]; try simp only [List.setIfInBounds_toArray]; try simp only [List.set_cons_zero, List.set_cons_succ]
      refine wpAnyL_done (by kernel_rfl) ?_ _
      clear CI1 CI2 CI3 zSa mSa zSb mSb zSc mSc zSd mSd zSe mSe zSf mSf zSg mSg zSh mSh
      cases un <;> cases pv
      · obtain ⟨Sk, hSk⟩ : ∃ Sk, Sh ++ [59] = Sk := ⟨_, rfl⟩
        have zSk : (⟨Sh.toArray⟩ : ByteArray).size + (⟨#[59]⟩ : ByteArray).size ≤ 9223372036854775807 := by have e1 := mk_size Sh; rw [e1]; show _ + 1 ≤ _; omega
        have mSk : (⟨Sh.toArray⟩ ++ ⟨#[59]⟩ : ByteArray) = ⟨Sk.toArray⟩ := by rw [← hSk]; exact mk_append Sh [59]
        have qSk : Sk.length ≤ 24901 := by rw [← hSk, List.length_append]; show _ + 1 ≤ _; omega
        have HSK : Hid (S1 ++ (l.take (i + 1)).flatMap stepT = Sk) := by
          show _ = _
          rw [← hSk, HSH.out, List.take_add_one, HSI.out, ← HS.out]
          simp [List.flatMap_append, HT.out]
        clear hSk
        go_wp2_with (fail)
        go_roundw
        case rel => exact ⟨i + 1, by go_num, by omega, by rw [HSK.out], L5.out⟩
        case measure => simp [intOf]; omega
      · obtain ⟨Sj, hSj⟩ : ∃ Sj, Sh ++ [32, 112, 105, 118, 111, 116] = Sj := ⟨_, rfl⟩
        have zSj : (⟨Sh.toArray⟩ : ByteArray).size + (⟨#[32, 112, 105, 118, 111, 116]⟩ : ByteArray).size ≤ 9223372036854775807 := by have e1 := mk_size Sh; rw [e1]; show _ + 6 ≤ _; omega
        have mSj : (⟨Sh.toArray⟩ ++ ⟨#[32, 112, 105, 118, 111, 116]⟩ : ByteArray) = ⟨Sj.toArray⟩ := by rw [← hSj]; exact mk_append Sh [32, 112, 105, 118, 111, 116]
        have qSj : Sj.length ≤ 24906 := by rw [← hSj, List.length_append]; show _ + 6 ≤ _; omega
        obtain ⟨Sk, hSk⟩ : ∃ Sk, Sj ++ [59] = Sk := ⟨_, rfl⟩
        have zSk : (⟨Sj.toArray⟩ : ByteArray).size + (⟨#[59]⟩ : ByteArray).size ≤ 9223372036854775807 := by have e1 := mk_size Sj; rw [e1]; show _ + 1 ≤ _; omega
        have mSk : (⟨Sj.toArray⟩ ++ ⟨#[59]⟩ : ByteArray) = ⟨Sk.toArray⟩ := by rw [← hSk]; exact mk_append Sj [59]
        have qSk : Sk.length ≤ 24907 := by rw [← hSk, List.length_append]; show _ + 1 ≤ _; omega
        have HSK : Hid (S1 ++ (l.take (i + 1)).flatMap stepT = Sk) := by
          show _ = _
          rw [← hSk, ← hSj, HSH.out, List.take_add_one, HSI.out, ← HS.out]
          simp [List.flatMap_append, HT.out]
        clear hSj hSk
        go_wp2_with (fail)
        go_roundw
        case rel => exact ⟨i + 1, by go_num, by omega, by rw [HSK.out], L5.out⟩
        case measure => simp [intOf]; omega
      · obtain ⟨Si, hSi⟩ : ∃ Si, Sh ++ [32, 117, 110, 100, 111] = Si := ⟨_, rfl⟩
        have zSi : (⟨Sh.toArray⟩ : ByteArray).size + (⟨#[32, 117, 110, 100, 111]⟩ : ByteArray).size ≤ 9223372036854775807 := by have e1 := mk_size Sh; rw [e1]; show _ + 5 ≤ _; omega
        have mSi : (⟨Sh.toArray⟩ ++ ⟨#[32, 117, 110, 100, 111]⟩ : ByteArray) = ⟨Si.toArray⟩ := by rw [← hSi]; exact mk_append Sh [32, 117, 110, 100, 111]
        have qSi : Si.length ≤ 24905 := by rw [← hSi, List.length_append]; show _ + 5 ≤ _; omega
        obtain ⟨Sk, hSk⟩ : ∃ Sk, Si ++ [59] = Sk := ⟨_, rfl⟩
        have zSk : (⟨Si.toArray⟩ : ByteArray).size + (⟨#[59]⟩ : ByteArray).size ≤ 9223372036854775807 := by have e1 := mk_size Si; rw [e1]; show _ + 1 ≤ _; omega
        have mSk : (⟨Si.toArray⟩ ++ ⟨#[59]⟩ : ByteArray) = ⟨Sk.toArray⟩ := by rw [← hSk]; exact mk_append Si [59]
        have qSk : Sk.length ≤ 24906 := by rw [← hSk, List.length_append]; show _ + 1 ≤ _; omega
        have HSK : Hid (S1 ++ (l.take (i + 1)).flatMap stepT = Sk) := by
          show _ = _
          rw [← hSk, ← hSi, HSH.out, List.take_add_one, HSI.out, ← HS.out]
          simp [List.flatMap_append, HT.out]
        clear hSi hSk
        go_wp2_with (fail)
        go_roundw
        case rel => exact ⟨i + 1, by go_num, by omega, by rw [HSK.out], L5.out⟩
        case measure => simp [intOf]; omega
      · obtain ⟨Si, hSi⟩ : ∃ Si, Sh ++ [32, 117, 110, 100, 111] = Si := ⟨_, rfl⟩
        have zSi : (⟨Sh.toArray⟩ : ByteArray).size + (⟨#[32, 117, 110, 100, 111]⟩ : ByteArray).size ≤ 9223372036854775807 := by have e1 := mk_size Sh; rw [e1]; show _ + 5 ≤ _; omega
        have mSi : (⟨Sh.toArray⟩ ++ ⟨#[32, 117, 110, 100, 111]⟩ : ByteArray) = ⟨Si.toArray⟩ := by rw [← hSi]; exact mk_append Sh [32, 117, 110, 100, 111]
        have qSi : Si.length ≤ 24905 := by rw [← hSi, List.length_append]; show _ + 5 ≤ _; omega
        obtain ⟨Sj, hSj⟩ : ∃ Sj, Si ++ [32, 112, 105, 118, 111, 116] = Sj := ⟨_, rfl⟩
        have zSj : (⟨Si.toArray⟩ : ByteArray).size + (⟨#[32, 112, 105, 118, 111, 116]⟩ : ByteArray).size ≤ 9223372036854775807 := by have e1 := mk_size Si; rw [e1]; show _ + 6 ≤ _; omega
        have mSj : (⟨Si.toArray⟩ ++ ⟨#[32, 112, 105, 118, 111, 116]⟩ : ByteArray) = ⟨Sj.toArray⟩ := by rw [← hSj]; exact mk_append Si [32, 112, 105, 118, 111, 116]
        have qSj : Sj.length ≤ 24911 := by rw [← hSj, List.length_append]; show _ + 6 ≤ _; omega
        obtain ⟨Sk, hSk⟩ : ∃ Sk, Sj ++ [59] = Sk := ⟨_, rfl⟩
        have zSk : (⟨Sj.toArray⟩ : ByteArray).size + (⟨#[59]⟩ : ByteArray).size ≤ 9223372036854775807 := by have e1 := mk_size Sj; rw [e1]; show _ + 1 ≤ _; omega
        have mSk : (⟨Sj.toArray⟩ ++ ⟨#[59]⟩ : ByteArray) = ⟨Sk.toArray⟩ := by rw [← hSk]; exact mk_append Sj [59]
        have qSk : Sk.length ≤ 24912 := by rw [← hSk, List.length_append]; show _ + 1 ≤ _; omega
        have HSK : Hid (S1 ++ (l.take (i + 1)).flatMap stepT = Sk) := by
          show _ = _
          rw [← hSk, ← hSj, ← hSi, HSH.out, List.take_add_one, HSI.out, ← HS.out]
          simp [List.flatMap_append, HT.out]
        clear hSi hSj hSk
        go_wp2_with (fail)
        go_roundw
        case rel => exact ⟨i + 1, by go_num, by omega, by rw [HSK.out], L5.out⟩
        case measure => simp [intOf]; omega
    · have hie : i = n := by omega
      subst hie
      have hft : l.take i = l := by rw [← HN.out, List.take_length]
      obtain ⟨R, hR⟩ : ∃ R, S ++ [32, 125] = R := ⟨_, rfl⟩
      have zR : (⟨S.toArray⟩ : ByteArray).size + (⟨#[32, 125]⟩ : ByteArray).size ≤ 9223372036854775807 := by have e1 := mk_size S; rw [e1]; show _ + 2 ≤ _; omega
      have mR : (⟨S.toArray⟩ ++ ⟨#[32, 125]⟩ : ByteArray) = ⟨R.toArray⟩ := by rw [← hR]; exact mk_append S [32, 125]
      have qR : R.length ≤ 24500 := by rw [← hR, List.length_append]; show _ + 2 ≤ _; omega
      have HR : Hid (PF = R) := by show _ = _; rw [HP.out, ← hR, ← HS.out, hft]
      clear hR hft
      go_wp2_with (fail)
      go_ret
      exact ⟨by rw [HR.out]; rfl, LI.out⟩
end
end Go.Proofs.YtdahnjcoflifbaaDoor
/- DefChecks. -/
namespace Go.Proofs.YtdahnjcoflifbaaDoor
open Go.RowKit

section
variable {w : World}
theorem PowAt.later {w w' : World} (h : PowAt w) (hl : Later w w') : PowAt w' := h.below hl h.lt
set_option maxHeartbeats 8000000 in
set_option maxRecDepth 100000 in
theorem law_checks {F : Nat → Prop} {a1 : ByteArray} {v : Value} {l : List StepD} (hl : StepsAt F w v l) (h1b : l.length ≤ 9223372036854775807) (hwf : ∀ s ∈ l, I64 s.stub ∧ I64 s.retry ∧ I64 s.wait) (ho : OptAt w) (hp : PowAt w) :
    Calls Tryd.prog 4 #[.agg #[.string a1, v]] w fun e w' => e = .returned (.bool true) ∧ Later w w' := by
  obtain ⟨A, c, rfl, _, _, _⟩ := FlatAt.shape hl
  obtain ⟨n, hn⟩ : ∃ n, l.length = n := ⟨_, rfl⟩
  rw [hn] at hl ⊢
  obtain ⟨W1, hW1⟩ : ∃ W1, W1 = w.alloc (.cells #[.string a1, .slice A n c] 25 (0, 0)) := ⟨_, rfl⟩
  obtain ⟨x, hx⟩ : ∃ x, x = w.heap.size := ⟨_, rfl⟩
  have L1 : Hid (Later w W1) := by rw [hW1]; exact (Below.refl _ _).alloc (Nat.le_refl _) _
  have X1 : Hid (W1.heap[x]? = some (.cells #[.string a1, .slice A n c] 25 (0, 0))) := by rw [hW1, hx]; exact heap_alloc_new w _
  have CLV : Hid (∀ W, Later W1 W → Calls Tryd.prog 9 #[] W fun e w' => e = .returned (.bool true) ∧ Later W w') := fun W h => lives_any (ho.later (L1.out.trans h))
  have CL1 : Hid (∀ W, Later W1 W → Calls Tryd.prog 13 #[.agg #[.string a1, .slice A n c]] W fun e w' => e = .returned (.bool (longF a1 l)) ∧ Later W w') := fun W h => long_any (hl.kept (Kept.of_below (L1.out.trans h) _)) h1b
  obtain ⟨n1, hn1⟩ : ∃ q, (checkF a1 l).1 = q := ⟨_, rfl⟩
  obtain ⟨n2, hn2⟩ : ∃ q, (checkF a1 l).2 = q := ⟨_, rfl⟩
  have CC : Hid (∀ W, Later W1 W → Calls Tryd.prog 14 #[.agg #[.string a1, .slice A n c]] W fun e w' => e = .returned (.tuple #[.int .i64 (n1 : Int), .int .i64 (n2 : Int)]) ∧ Later W w') := fun W h => hn1 ▸ hn2 ▸ check_any (hl.kept (Kept.of_below (L1.out.trans h) _))
  have CR : Hid (∀ W, Later W1 W → Calls Tryd.prog 15 #[.agg #[.string a1, .slice A n c]] W fun e w' => e = .returned (.tuple #[.int .i64 (n1 : Int), .int .i64 (n2 : Int)]) ∧ Later W w') := fun W h => hn1 ▸ hn2 ▸ rcheck_any (hl.kept (Kept.of_below (L1.out.trans h) _))
  obtain ⟨PF, hPF⟩ : ∃ q, printF a1 l = q := ⟨_, rfl⟩
  obtain ⟨q1, hq1⟩ : ∃ q, longF a1 l = q := ⟨_, rfl⟩
  have CP : Hid (q1 = false → ∀ W, Later W1 W → Calls Tryd.prog 16 #[.agg #[.string a1, .slice A n c]] W fun e w' => e = .returned (.string ⟨PF.toArray⟩) ∧ Later W w') := fun hq W h => hPF ▸ print_any (hl.kept (Kept.of_below (L1.out.trans h) _)) (by rw [hq1, hq]) hwf (hp.later (L1.out.trans h))
  have CQ : Hid (q1 = false → ∀ W, Later W1 W → Calls Tryd.prog 17 #[.agg #[.string a1, .slice A n c]] W fun e w' => e = .returned (.string ⟨PF.toArray⟩) ∧ Later W w') := fun hq W h => hPF ▸ rprint_any (hl.kept (Kept.of_below (L1.out.trans h) _)) (by rw [hq1, hq]) hwf
  rw [hq1] at CL1
  have HW1 := hide hW1.symm
  have HX := hide hx.symm
  clear hl hn hW1 hx hq1 hPF hn1 hn2 h1b ho hp hwf
  go_enter Tryd.func4, Tryd.ntmps4
  go_wp2_with (fail)
  have hw := HW1.out
  have hxx := HX.out
  simp only [hw, hxx]
  clear hw hxx
  refine (CL1.out _ (Later.refl _)).mono ?_
  rintro e w2 ⟨rfl, hl2⟩
  have L2 := hide hl2
  have X2 := hide ((Below.block hl2 x (lt_of_block X1.out)).trans X1.out)
  clear hl2 CL1
  cases q1 with
  | true =>
    clear CP CQ
    go_wp2_with (fail)
    refine (CLV.out _ L2.out).mono ?_
    rintro e w3 ⟨rfl, hl3⟩
    have L3 := hide (L1.out.trans (L2.out.trans hl3))
    clear hl3
    go_wp2_with (fail)
    go_ret
    exact ⟨rfl, L3.out⟩
  | false =>
    have CP' := hide (CP.out rfl)
    have CQ' := hide (CQ.out rfl)
    clear CP CQ
    go_wp2_with (refine wpList_val rfl (by rfl) (exec_load_box 25 _ (by rfl) x 0 (by rfl) 25 _ X2.out 2 _ Tryd.underlying25 (by rfl) (by kernel_rfl) [.string a1, .slice A n c] (by rfl) (by rfl)) ?_)
    refine (CC.out _ L2.out).mono ?_
    rintro e w3 ⟨rfl, hl3⟩
    have L3 := hide (L2.out.trans hl3)
    have X3 := hide ((Below.block hl3 x (lt_of_block X2.out)).trans X2.out)
    clear hl3 CC
    go_wp2_with (refine wpList_val rfl (by rfl) (exec_load_box 25 _ (by rfl) x 0 (by rfl) 25 _ X3.out 2 _ Tryd.underlying25 (by rfl) (by kernel_rfl) [.string a1, .slice A n c] (by rfl) (by rfl)) ?_)
    refine (CR.out _ L3.out).mono ?_
    rintro e w4 ⟨rfl, hl4⟩
    have L4 := hide (L3.out.trans hl4)
    have X4 := hide ((Below.block hl4 x (lt_of_block X3.out)).trans X3.out)
    clear hl4 CR X2 X3 L2 L3
    have LS0 := hide (L4.out.trans (Later.drew w4))
    have XS0 := hide (show w4.drew.heap[x]? = some (.cells #[.string a1, .slice A n c] 25 (0, 0)) from X4.out)
    go_wp2_with (fail)
    refine wp_region_L (by kernel_rfl) ?_
    refine wpAnyL_take (i := 0) (d := some 20) (v := ?vas0) rfl rfl (by kernel_rfl) (by kernel_rfl) (by kernel_rfl) (fun _ _ _ h => h) (by rfl) ?yas0 ?_
    case yas0 => (intro w' hw'; go_simp; try (with_reducible rfl))
    simp only [Act.put]; try simp only [List.setIfInBounds_toArray]; try simp only [List.set_cons_zero, List.set_cons_succ]
    refine wpAnyL_take (i := 1) (d := some 21) (v := ?vas1) rfl rfl (by kernel_rfl) (by kernel_rfl) (by kernel_rfl) (fun _ _ _ h => h) (by rfl) ?yas1 ?_
    case yas1 => (intro w' hw'; go_simp; try (with_reducible rfl))
    simp only [Act.put]; try simp only [List.setIfInBounds_toArray]; try simp only [List.set_cons_zero, List.set_cons_succ]
    refine wpAnyL_take (i := 2) (d := some 22) (v := ?vas2) rfl rfl (by kernel_rfl) (by kernel_rfl) (by kernel_rfl) (fun _ _ _ h => h) (by rfl) ?yas2 ?_
    case yas2 => (intro w' hw'; go_simp; try (with_reducible rfl))
    simp only [Act.put]; try simp only [List.setIfInBounds_toArray]; try simp only [List.set_cons_zero, List.set_cons_succ]
    refine wpAnyL_take (i := 3) (d := some 23) (v := ?vas3) rfl rfl (by kernel_rfl) (by kernel_rfl) (by kernel_rfl) (fun _ _ _ h => h) (by rfl) ?yas3 ?_
    case yas3 => (intro w' hw'; go_simp; try (with_reducible rfl))
    simp only [Act.put]; try simp only [List.setIfInBounds_toArray]; try simp only [List.set_cons_zero, List.set_cons_succ]
    refine wpAnyL_take (i := 4) (d := some 24) (v := ?vas4) rfl rfl (by kernel_rfl) (by kernel_rfl) (by kernel_rfl) (fun _ _ _ h => h) (by rfl) ?yas4 ?_
    case yas4 => (intro w' hw'; go_simp; try (with_reducible rfl))
    simp only [Act.put]; try simp only [List.setIfInBounds_toArray]; try simp only [List.set_cons_zero, List.set_cons_succ]
    refine wpAnyL_take (i := 5) (d := some 25) (v := ?vas5) rfl rfl (by kernel_rfl) (by kernel_rfl) (by kernel_rfl) (fun _ _ _ h => h) (by rfl) ?yas5 ?_
    case yas5 => (intro w' hw'; go_simp; try (with_reducible rfl))
    simp only [Act.put]; try simp only [List.setIfInBounds_toArray]; try simp only [List.set_cons_zero, List.set_cons_succ]
    refine wpAnyL_take (i := 6) (d := some 26) (v := ?vas6) rfl rfl (by kernel_rfl) (by kernel_rfl) (by kernel_rfl) (fun _ _ _ h => h) (by rfl) ?yas6 ?_
    case yas6 => (intro w' hw'; go_simp; try (with_reducible rfl))
    simp only [Act.put]; try simp only [List.setIfInBounds_toArray]; try simp only [List.set_cons_zero, List.set_cons_succ]
    refine wpAnyL_take (i := 7) (d := some 27) (v := ?vas7) rfl rfl (by kernel_rfl) (by kernel_rfl) (by kernel_rfl) (fun _ _ _ h => h) (by rfl) ?yas7 ?_
    case yas7 => (intro w' hw'; go_simp; try (with_reducible rfl))
    simp only [Act.put]; try simp only [List.setIfInBounds_toArray]; try simp only [List.set_cons_zero, List.set_cons_succ]
    refine wpAnyL_take (i := 8) (d := some 28) (v := ?vas8) rfl rfl (by kernel_rfl) (by kernel_rfl) (by kernel_rfl) (fun _ _ _ h => h) (by rfl) ?yas8 ?_
    case yas8 => (intro w' hw'; go_simp; try (with_reducible rfl))
    simp only [Act.put]; try simp only [List.setIfInBounds_toArray]; try simp only [List.set_cons_zero, List.set_cons_succ]
    refine wpAnyL_take (i := 9) (d := some 29) (v := .agg #[.string a1, .slice A n c]) rfl rfl (by kernel_rfl) (by kernel_rfl) (by kernel_rfl) (fun _ _ _ h => h) (by rfl) ?yas9 ?_
    case yas9 => (intro w' hw'; exact exec_load_box 25 _ (by rfl) x 0 (by rfl) 25 _ ((Below.block hw' x (lt_of_block XS0.out)).trans XS0.out) 2 _ Tryd.underlying25 (by rfl) (by kernel_rfl) [.string a1, .slice A n c] (by rfl) (by rfl))
    simp only [Act.put]; try simp only [List.setIfInBounds_toArray]; try simp only [List.set_cons_zero, List.set_cons_succ]
    refine wpAnyL_take (i := 11) (d := some 31) (v := .agg #[.string a1, .slice A n c]) rfl rfl (by kernel_rfl) (by kernel_rfl) (by kernel_rfl) (fun _ _ _ h => h) (by rfl) ?yas11 ?_
    case yas11 => (intro w' hw'; exact exec_load_box 25 _ (by rfl) x 0 (by rfl) 25 _ ((Below.block hw' x (lt_of_block XS0.out)).trans XS0.out) 2 _ Tryd.underlying25 (by rfl) (by kernel_rfl) [.string a1, .slice A n c] (by rfl) (by rfl))
    simp only [Act.put]; try simp only [List.setIfInBounds_toArray]; try simp only [List.set_cons_zero, List.set_cons_succ]
    refine wpAnyL_only (i := 10) rfl (by kernel_rfl) (by rfl) fun K hK => ?_
    go_simp
    refine (CP'.out _ LS0.out).mono ?_
    rintro e w_10 ⟨rfl, hl_⟩
    have LS10 := hide (LS0.out.trans hl_)
    have XS10 := hide ((Below.block hl_ x (lt_of_block XS0.out)).trans XS0.out)
    refine hK.out _ _ hl_ ?_
    clear hl_
    clear hK K
    try (simp only [Act.put]; try simp only [List.setIfInBounds_toArray]; try simp only [List.set_cons_zero, List.set_cons_succ])
    refine wpAnyL_only (i := 12) rfl (by kernel_rfl) (by rfl) fun K hK => ?_
    go_simp
    refine (CQ'.out _ LS10.out).mono ?_
    rintro e w_12 ⟨rfl, hl_⟩
    have LS12 := hide (LS10.out.trans hl_)
    have XS12 := hide ((Below.block hl_ x (lt_of_block XS10.out)).trans XS10.out)
    refine hK.out _ _ hl_ ?_
    clear hl_
    clear hK K
    try (simp only [Act.put]; try simp only [List.setIfInBounds_toArray]; try simp only [List.set_cons_zero, List.set_cons_succ])
    refine wpAnyL_take (i := 13) (d := some 33) (v := ?vas13) rfl rfl (by kernel_rfl) (by kernel_rfl) (by kernel_rfl) (fun _ _ _ h => h) (by rfl) ?yas13 ?_
    case yas13 => (intro w' hw'; go_simp; try (with_reducible rfl))
    simp only [Act.put]; try simp only [List.setIfInBounds_toArray]; try simp only [List.set_cons_zero, List.set_cons_succ]
    refine wpAnyL_take (i := 14) (d := some 34) (v := ?vas14) rfl rfl (by kernel_rfl) (by kernel_rfl) (by kernel_rfl) (fun _ _ _ h => h) (by rfl) ?yas14 ?_
    case yas14 => (intro w' hw'; go_simp; try (with_reducible rfl))
    simp only [Act.put]; try simp only [List.setIfInBounds_toArray]; try simp only [List.set_cons_zero, List.set_cons_succ]
    refine wpAnyL_take (i := 15) (d := some 35) (v := ?vas15) rfl rfl (by kernel_rfl) (by kernel_rfl) (by kernel_rfl) (fun _ _ _ h => h) (by rfl) ?yas15 ?_
    case yas15 => (intro w' hw'; go_simp; try (with_reducible rfl))
    simp only [Act.put]; try simp only [List.setIfInBounds_toArray]; try simp only [List.set_cons_zero, List.set_cons_succ]
    refine wpAnyL_only (i := 16) rfl (by kernel_rfl) (by rfl) fun K hK => ?_
    go_simp
    refine (CLV.out _ LS12.out).mono ?_
    rintro e w_16 ⟨rfl, hl_⟩
    have LS16 := hide (LS12.out.trans hl_)
    have XS16 := hide ((Below.block hl_ x (lt_of_block XS12.out)).trans XS12.out)
    refine hK.out _ _ hl_ ?_
    clear hl_
    clear hK K
    try (simp only [Act.put]; try simp only [List.setIfInBounds_toArray]; try simp only [List.set_cons_zero, List.set_cons_succ])
    refine wpAnyL_take (i := 17) (d := some 37) (v := ?vas17) rfl rfl (by kernel_rfl) (by kernel_rfl) (by kernel_rfl) (fun _ _ _ h => h) (by rfl) ?yas17 ?_
    case yas17 => (intro w' hw'; go_simp; try (with_reducible rfl))
    simp only [Act.put]; try simp only [List.setIfInBounds_toArray]; try simp only [List.set_cons_zero, List.set_cons_succ]
    refine wpAnyL_take (i := 18) (d := some 2) (v := ?vas18) rfl rfl (by kernel_rfl) (by kernel_rfl) (by kernel_rfl) (fun _ _ _ h => h) (by rfl) ?yas18 ?_
    case yas18 => (intro w' hw'; go_simp; try (with_reducible rfl))
    simp only [Act.put]; try simp only [List.setIfInBounds_toArray]; try simp only [List.set_cons_zero, List.set_cons_succ]
    refine wpAnyL_done (by kernel_rfl) ?_ _
    go_wp2_with (fail)
    go_ret
    exact ⟨rfl, L1.out.trans LS16.out⟩
end
end Go.Proofs.YtdahnjcoflifbaaDoor
/- DefBack. -/
namespace Go.Proofs.YtdahnjcoflifbaaDoor
open Go.RowKit

theorem parse_ok {L : List UInt8} {N : ByteArray} {S : List StepD} {P : Nat} (h : parseF L = (N, S, P, 0)) : (checkF N S).2 = 0 := by
  unfold parseF at h
  split at h
  · next h1 =>
    simp only [Prod.mk.injEq] at h
    exact absurd h.2.2.2 h1
  · split at h
    · simp only [Prod.mk.injEq] at h
      omega
    · split at h
      · next h1 =>
        simp only [Prod.mk.injEq] at h
        exact absurd h.2.2.2 h1
      · next h1 =>
        simp only [Prod.mk.injEq] at h
        rw [← h.1, ← h.2.1]
        simpa using h1
theorem print_len {name : ByteArray} {l : List StepD} (hlong : longF name l = false) (hwf : ∀ s ∈ l, I64 s.stub ∧ I64 s.retry ∧ I64 s.wait) : (printF name l).length ≤ 30000 := by
  simp only [longF, Bool.or_eq_false_iff, decide_eq_false_iff_not, List.any_eq_false, decide_eq_true_eq] at hlong
  obtain ⟨hl1, hl2, hl3⟩ := hlong
  have hst : ∀ s ∈ l, (stepT s).length ≤ 600 := fun s hs => by
    obtain ⟨a, b, c⟩ := hwf s hs
    exact stepT_len s a b c (by have := hl3 s hs; omega)
  have h1 := steps_len l hst
  have h2 : name.data.toList.length = name.size := by rw [Array.length_toList]; rfl
  unfold printF
  simp only [List.length_append, h2, List.length_cons, List.length_nil]
  omega

section
variable {w : World}
set_option maxHeartbeats 16000000 in
set_option maxRecDepth 100000 in
theorem law_back {F : Nat → Prop} {a1 : ByteArray} {v : Value} {l : List StepD} {s : ByteArray} (hl : StepsAt F w v l) (h1b : l.length ≤ 9223372036854775807) (hsz : s.size ≤ 9223372036854775807) (hwf : ∀ s ∈ l, I64 s.stub ∧ I64 s.retry ∧ I64 s.wait) (ho : OptAt w) (hp : PowAt w) :
    Calls Tryd.prog 5 #[.agg #[.string a1, v], .string s] w fun e w' => e = .returned (.bool true) ∧ Later w w' := by
  obtain ⟨A, c, rfl, _, _, _⟩ := FlatAt.shape hl
  obtain ⟨n, hn⟩ : ∃ n, l.length = n := ⟨_, rfl⟩
  rw [hn] at hl ⊢
  obtain ⟨W1, hW1⟩ : ∃ W1, W1 = w.alloc (.cells #[.string a1, .slice A n c] 25 (0, 0)) := ⟨_, rfl⟩
  obtain ⟨x, hx⟩ : ∃ x, x = w.heap.size := ⟨_, rfl⟩
  have L1 : Hid (Later w W1) := by rw [hW1]; exact (Below.refl _ _).alloc (Nat.le_refl _) _
  have X1 : Hid (W1.heap[x]? = some (.cells #[.string a1, .slice A n c] 25 (0, 0))) := by rw [hW1, hx]; exact heap_alloc_new w _
  have CLV : Hid (∀ W, Later W1 W → Calls Tryd.prog 9 #[] W fun e w' => e = .returned (.bool true) ∧ Later W w') := fun W h => lives_any (ho.later (L1.out.trans h))
  have CL1 : Hid (∀ W, Later W1 W → Calls Tryd.prog 13 #[.agg #[.string a1, .slice A n c]] W fun e w' => e = .returned (.bool (longF a1 l)) ∧ Later W w') := fun W h => long_any (hl.kept (Kept.of_below (L1.out.trans h) _)) h1b
  obtain ⟨n1, hn1⟩ : ∃ q, (checkF a1 l).1 = q := ⟨_, rfl⟩
  obtain ⟨n2, hn2⟩ : ∃ q, (checkF a1 l).2 = q := ⟨_, rfl⟩
  have CC : Hid (∀ W, Later W1 W → Calls Tryd.prog 14 #[.agg #[.string a1, .slice A n c]] W fun e w' => e = .returned (.tuple #[.int .i64 (n1 : Int), .int .i64 (n2 : Int)]) ∧ Later W w') := fun W h => hn1 ▸ hn2 ▸ check_any (hl.kept (Kept.of_below (L1.out.trans h) _))
  have CCK : Hid (∀ (G : Nat → Prop) N B m d S W, (checkF N S).2 = 0 → StepsAt G W (.slice B m d) S → Calls Tryd.prog 14 #[.agg #[.string N, .slice B m d]] W fun e w' => e = .returned (.tuple #[.int .i64 ((checkF N S).1 : Int), .int .i64 0]) ∧ Later W w') := fun G N B m d S W h0 h => by
    have := check_any (name := N) h
    rw [h0] at this
    exact this
  obtain ⟨PF, hPF⟩ : ∃ q, printF a1 l = q := ⟨_, rfl⟩
  obtain ⟨q1, hq1⟩ : ∃ q, longF a1 l = q := ⟨_, rfl⟩
  have CP : Hid (q1 = false → ∀ (G : Nat → Prop) B m d W, Later W1 W → StepsAt G W (.slice B m d) l → Calls Tryd.prog 16 #[.agg #[.string a1, .slice B m d]] W fun e w' => e = .returned (.string ⟨PF.toArray⟩) ∧ Later W w') := fun hq G B m d W h hs => hPF ▸ print_any hs (by rw [hq1, hq]) hwf (hp.later (L1.out.trans h))
  have CS : Hid (∀ (G : Nat → Prop) B m d W, Later W1 W → StepsAt G W (.slice B m d) l → Calls Tryd.prog 18 #[.agg #[.string a1, .slice B m d], .agg #[.string a1, .slice A n c]] W fun e w' => e = .returned (.bool true) ∧ Later W w') := fun G B m d W h hs => by
    have := same13_any (a1 := a1) (a2 := a1) hs (hl.kept (Kept.of_below (L1.out.trans h) _))
    simpa using this
  obtain ⟨⟨N, S, P, E⟩, hPA⟩ : ∃ q, parseF s.data.toList = q := ⟨_, rfl⟩
  have CPS : Hid (∀ W, Later W1 W → Calls Tryd.prog 10 #[.string s] W fun e w' => ∃ v, e = .returned (.tuple #[.agg #[.string N, v], .int .i64 (P : Int), .int .i64 (E : Int)]) ∧ StepsAt (W.heap.size ≤ ·) w' v S ∧ Later W w') := fun W h => by
    have := parse_any (w := W) s hsz (ho.later (L1.out.trans h))
    unfold Parsed at this
    rw [hPA] at this
    exact this
  have HPK : Hid (E = 0 → (checkF N S).2 = 0) := fun h0 => by subst h0; exact parse_ok hPA
  have HLEN : Hid (q1 = false → PF.length ≤ 30000) := fun hq => by rw [← hPF]; exact print_len (by rw [hq1, hq]) hwf
  have CPB : Hid (n2 = 0 → q1 = false → ∀ W, Later W1 W → Calls Tryd.prog 10 #[.string ⟨PF.toArray⟩] W fun e w' =>
      if 400 < PF.length then ∃ v, e = .returned (.tuple #[.agg #[.string ⟨#[]⟩, v], .int .i64 0, .int .i64 12]) ∧ StepsAt (W.heap.size ≤ ·) w' v [] ∧ Later W w'
      else ∃ v, e = .returned (.tuple #[.agg #[.string a1, v], .int .i64 0, .int .i64 0]) ∧ StepsAt (W.heap.size ≤ ·) w' v l ∧ Later W w') := fun h0 hq W h => by
    have h1 := parse_any (w := W) ⟨PF.toArray⟩ (by rw [mk_size]; have := HLEN.out hq; omega) (ho.later (L1.out.trans h))
    have h2 := parse_back (hn2.trans h0)
    rw [hPF] at h2
    unfold Parsed at h1
    have h3 : (⟨PF.toArray⟩ : ByteArray).data.toList = PF := rfl
    rw [h3, h2] at h1
    by_cases h4 : 400 < PF.length
    · simp only [h4, if_true] at h1 ⊢; exact h1
    · simp only [h4, if_false] at h1 ⊢; exact h1
  rw [hq1] at CL1
  have HST : Hid (StepsAt F w (.slice A n c) l) := hl
  have HW1 := hide hW1.symm
  have HX := hide hx.symm
  clear hl hn hW1 hx hq1 hPF hn1 hn2 h1b ho hp hwf hPA hsz
  by_cases h3 : 3000 < s.size
  · have h3i : (3000 : Int) < (s.size : Int) := by omega
    clear CP CS CPS HPK HLEN CPB CC CCK
    go_enter Tryd.func5, Tryd.ntmps5
    go_wp2_with (fail)
    have hw := HW1.out
    have hxx := HX.out
    simp only [hw, hxx]
    clear hw hxx
    refine (CL1.out _ (Later.refl _)).mono ?_
    rintro e w2 ⟨rfl, hl2⟩
    have L2 := hide hl2
    clear hl2 CL1
    cases q1 <;> (
      go_wp2_with (fail)
      refine (CLV.out _ L2.out).mono ?_
      rintro e w3 ⟨rfl, hl3⟩
      have L3 := hide (L1.out.trans (L2.out.trans hl3))
      clear hl3
      go_wp2_with (fail)
      go_ret
      exact ⟨rfl, L3.out⟩)
  · have h3i : ¬ (3000 : Int) < (s.size : Int) := by omega
    go_enter Tryd.func5, Tryd.ntmps5
    go_wp2_with (fail)
    have hw := HW1.out
    have hxx := HX.out
    simp only [hw, hxx]
    clear hw hxx
    refine (CL1.out _ (Later.refl _)).mono ?_
    rintro e w2 ⟨rfl, hl2⟩
    have L2 := hide hl2
    have X2 := hide ((Below.block hl2 x (lt_of_block X1.out)).trans X1.out)
    clear hl2 CL1
    cases q1 with
    | true =>
      clear CP CS CPS HPK HLEN CPB CC CCK
      go_wp2_with (fail)
      refine (CLV.out _ L2.out).mono ?_
      rintro e w3 ⟨rfl, hl3⟩
      have L3 := hide (L1.out.trans (L2.out.trans hl3))
      clear hl3
      go_wp2_with (fail)
      go_ret
      exact ⟨rfl, L3.out⟩
    | false =>
      have hlen := HLEN.out rfl
      have CPP := hide (CP.out rfl)
      have CPB1 : Hid (n2 = 0 → ∀ W, Later W1 W → Calls Tryd.prog 10 #[.string ⟨PF.toArray⟩] W fun e w' =>
        if 400 < PF.length then ∃ v, e = .returned (.tuple #[.agg #[.string ⟨#[]⟩, v], .int .i64 0, .int .i64 12]) ∧ StepsAt (W.heap.size ≤ ·) w' v [] ∧ Later W w'
        else ∃ v, e = .returned (.tuple #[.agg #[.string a1, v], .int .i64 0, .int .i64 0]) ∧ StepsAt (W.heap.size ≤ ·) w' v l ∧ Later W w') := fun h0 => CPB.out h0 rfl
      clear CP CPB
      go_wp2_with (fail)
      refine (CPS.out _ L2.out).mono ?_
      rintro e w3 ⟨v3, rfl, hst3, hl3⟩
      obtain ⟨B3, c3, rfl, _, _, _⟩ := FlatAt.shape hst3
      obtain ⟨m3, hm3⟩ : ∃ m, S.length = m := ⟨_, rfl⟩
      rw [hm3] at hst3 ⊢
      obtain ⟨W4, hW4⟩ : ∃ W4, W4 = w3.alloc (.cells #[.string N, .slice B3 m3 c3] 25 (0, 0)) := ⟨_, rfl⟩
      have hl4 : Later w3 W4 := by rw [hW4]; exact (Below.refl _ _).alloc (Nat.le_refl _) _
      have L4 := hide (L2.out.trans (hl3.trans hl4))
      have X4 := hide ((Below.block (hl3.trans hl4) x (lt_of_block X2.out)).trans X2.out)
      have X3 := hide ((Below.block hl3 x (lt_of_block X2.out)).trans X2.out)
      have HW4 := hide hW4.symm
      have ST4 := hide (hst3.kept (Kept.of_below hl4 _))
      clear hst3 hl3 hW4 hl4 CPS
      by_cases hE : E = 0
      · have hb : ((E : Int) == 0) = true := by rw [hE]; rfl
        have hb2 : (E : Int) = 0 := by omega
        have CK := hide (CCK.out _ N B3 m3 c3 S W4 (HPK.out hE) ST4.out)
        clear HPK CCK ST4 hE
        go_wp2_with (fail)
        have hw := HW4.out
        simp only [hw]
        clear hw
        refine CK.out.mono ?_
        rintro e w5 ⟨rfl, hl5⟩
        have L5 := hide (L4.out.trans hl5)
        have X5 := hide ((Below.block hl5 x (lt_of_block X4.out)).trans X4.out)
        clear hl5 CK hb hb2
        go_wp2_with (refine wpList_val rfl (by rfl) (exec_load_box 25 _ (by rfl) x 0 (by rfl) 25 _ X5.out 2 _ Tryd.underlying25 (by rfl) (by kernel_rfl) [.string a1, .slice A n c] (by rfl) (by rfl)) ?_)
        refine (CC.out _ L5.out).mono ?_
        rintro e w6 ⟨rfl, hl6⟩
        have L6 := hide (L5.out.trans hl6)
        have X6 := hide ((Below.block hl6 x (lt_of_block X5.out)).trans X5.out)
        clear hl6 CC
        by_cases hC : n2 = 0
        · have hd : ((n2 : Int) != 0) = false := by rw [hC]; rfl
          have CPB' := hide (CPB1.out hC)
          clear CPB1
          subst hC
          go_wp2_with (refine wpList_val rfl (by rfl) (exec_load_box 25 _ (by rfl) x 0 (by rfl) 25 _ X6.out 2 _ Tryd.underlying25 (by rfl) (by kernel_rfl) [.string a1, .slice A n c] (by rfl) (by rfl)) ?_)
          refine (CPP.out _ A n c _ L6.out (HST.out.kept (Kept.of_below (L1.out.trans L6.out) _))).mono ?_
          rintro e w7 ⟨rfl, hl7⟩
          have L7 := hide (L6.out.trans hl7)
          have X7 := hide ((Below.block hl7 x (lt_of_block X6.out)).trans X6.out)
          clear hl7
          go_wp2_with (fail)
          refine (CPB'.out _ L7.out).mono ?_
          intro e w8 h8
          by_cases h4 : 400 < PF.length
          · simp only [h4, if_true] at h8
            obtain ⟨v8, rfl, hst8, hl8⟩ := h8
            obtain ⟨B8, c8, rfl, _, _, _⟩ := FlatAt.shape hst8
            have h4i : (400 : Int) < (PF.length : Int) := by omega
            have L8 := hide (L7.out.trans hl8)
            obtain ⟨W9, hW9⟩ : ∃ W9, W9 = w8.alloc (.cells #[.string ⟨#[]⟩, .slice B8 0 c8] 25 (0, 0)) := ⟨_, rfl⟩
            have L9 : Hid (Later W1 W9) := by rw [hW9]; exact L8.out.trans ((Below.refl _ _).alloc (Nat.le_refl _) _)
            have HW9 := hide hW9.symm
            clear hst8 hl8 hW9 CPB' CPP
            simp only [List.length_nil]
            go_wp2_with (fail)
            have hw := HW9.out
            simp only [Int.natCast_zero, hw]
            clear hw
            refine (CLV.out _ L9.out).mono ?_
            rintro e w10 ⟨rfl, hl10⟩
            have L10 := hide (L1.out.trans (L9.out.trans hl10))
            clear hl10
            go_wp2_with (fail)
            go_ret
            exact ⟨rfl, L10.out⟩
          · simp only [h4, if_false] at h8
            obtain ⟨v8, rfl, hst8, hl8⟩ := h8
            obtain ⟨B8, c8, rfl, _, _, _⟩ := FlatAt.shape hst8
            obtain ⟨m8, hm8⟩ : ∃ m, l.length = m := ⟨_, rfl⟩
            rw [hm8] at hst8 ⊢
            have h4i : ¬ (400 : Int) < (PF.length : Int) := by omega
            have L8 := hide (L7.out.trans hl8)
            obtain ⟨W9, hW9⟩ : ∃ W9, W9 = w8.alloc (.cells #[.string a1, .slice B8 m8 c8] 25 (0, 0)) := ⟨_, rfl⟩
            obtain ⟨z, hz⟩ : ∃ z, z = w8.heap.size := ⟨_, rfl⟩
            have hl9 : Later w8 W9 := by rw [hW9]; exact (Below.refl _ _).alloc (Nat.le_refl _) _
            have L9 := hide (L8.out.trans hl9)
            have X9 := hide ((Below.block (hl8.trans hl9) x (lt_of_block X7.out)).trans X7.out)
            have Z9 : Hid (W9.heap[z]? = some (.cells #[.string a1, .slice B8 m8 c8] 25 (0, 0))) := by rw [hW9, hz]; exact heap_alloc_new w8 _
            have ST9 := hide (hst8.kept (Kept.of_below hl9 _))
            have HW9 := hide hW9.symm
            have HZ := hide hz.symm
            have X9r : Hid ((w8.alloc (.cells #[.string a1, .slice B8 m8 c8] 25 (0, 0))).heap[x]? = some (.cells #[.string a1, .slice A n c] 25 (0, 0))) := by rw [HW9.out]; exact X9.out
            clear hst8 hl8 hW9 CPB' hl9 hz
            go_wp2_with (refine wpList_val rfl (by rfl) (exec_load_box 25 _ (by rfl) x 0 (by rfl) 25 _ X9r.out 2 _ Tryd.underlying25 (by rfl) (by kernel_rfl) [.string a1, .slice A n c] (by rfl) (by rfl)) ?_)
            have hw := HW9.out
            have hzz := HZ.out
            simp only [hw, hzz]
            clear hw hzz
            refine (CS.out _ B8 m8 c8 _ L9.out ST9.out).mono ?_
            rintro e w10 ⟨rfl, hl10⟩
            have L10 := hide (L9.out.trans hl10)
            have Z10 := hide ((Below.block hl10 z (lt_of_block Z9.out)).trans Z9.out)
            have ST10 := hide (ST9.out.kept (Kept.of_below hl10 _))
            clear hl10 CS
            go_wp2_with (refine wpList_val rfl (by rfl) (exec_load_box 25 _ (by rfl) z 0 (by rfl) 25 _ Z10.out 2 _ Tryd.underlying25 (by rfl) (by kernel_rfl) [.string a1, .slice B8 m8 c8] (by rfl) (by rfl)) ?_)
            refine (CPP.out _ B8 m8 c8 _ L10.out ST10.out).mono ?_
            rintro e w11 ⟨rfl, hl11⟩
            have L11 := hide (L10.out.trans hl11)
            clear hl11
            go_wp2_with (fail)
            refine (CLV.out _ L11.out).mono ?_
            rintro e w12 ⟨rfl, hl12⟩
            have L12 := hide (L1.out.trans (L11.out.trans hl12))
            clear hl12
            go_wp2_with (fail)
            go_ret
            exact ⟨rfl, L12.out⟩
        · have hd : ((n2 : Int) != 0) = true := by simp; omega
          clear CPP CPB1 CS HLEN
          go_wp2_with (fail)
          refine (CLV.out _ L6.out).mono ?_
          rintro e w7 ⟨rfl, hl7⟩
          have L7 := hide (L1.out.trans (L6.out.trans hl7))
          clear hl7
          go_wp2_with (fail)
          go_ret
          exact ⟨rfl, L7.out⟩
      · have hb : ((E : Int) == 0) = false := by simp; omega
        have hb2 : ¬ (E : Int) = 0 := by omega
        have L5 := L4
        have X5 := X4
        have X4r : Hid ((w3.alloc (.cells #[.string N, .slice B3 m3 c3] 25 (0, 0))).heap[x]? = some (.cells #[.string a1, .slice A n c] 25 (0, 0))) := by rw [HW4.out]; exact X4.out
        clear HPK CCK ST4
        go_wp2_with (refine wpList_val rfl (by rfl) (exec_load_box 25 _ (by rfl) x 0 (by rfl) 25 _ X4r.out 2 _ Tryd.underlying25 (by rfl) (by kernel_rfl) [.string a1, .slice A n c] (by rfl) (by rfl)) ?_)
        have hw := HW4.out
        simp only [hw]
        clear hw hb hb2
        refine (CC.out _ L5.out).mono ?_
        rintro e w6 ⟨rfl, hl6⟩
        have L6 := hide (L5.out.trans hl6)
        have X6 := hide ((Below.block hl6 x (lt_of_block X5.out)).trans X5.out)
        clear hl6 CC
        by_cases hC : n2 = 0
        · have hd : ((n2 : Int) != 0) = false := by rw [hC]; rfl
          have CPB' := hide (CPB1.out hC)
          clear CPB1
          subst hC
          go_wp2_with (refine wpList_val rfl (by rfl) (exec_load_box 25 _ (by rfl) x 0 (by rfl) 25 _ X6.out 2 _ Tryd.underlying25 (by rfl) (by kernel_rfl) [.string a1, .slice A n c] (by rfl) (by rfl)) ?_)
          refine (CPP.out _ A n c _ L6.out (HST.out.kept (Kept.of_below (L1.out.trans L6.out) _))).mono ?_
          rintro e w7 ⟨rfl, hl7⟩
          have L7 := hide (L6.out.trans hl7)
          have X7 := hide ((Below.block hl7 x (lt_of_block X6.out)).trans X6.out)
          clear hl7
          go_wp2_with (fail)
          refine (CPB'.out _ L7.out).mono ?_
          intro e w8 h8
          by_cases h4 : 400 < PF.length
          · simp only [h4, if_true] at h8
            obtain ⟨v8, rfl, hst8, hl8⟩ := h8
            obtain ⟨B8, c8, rfl, _, _, _⟩ := FlatAt.shape hst8
            have h4i : (400 : Int) < (PF.length : Int) := by omega
            have L8 := hide (L7.out.trans hl8)
            obtain ⟨W9, hW9⟩ : ∃ W9, W9 = w8.alloc (.cells #[.string ⟨#[]⟩, .slice B8 0 c8] 25 (0, 0)) := ⟨_, rfl⟩
            have L9 : Hid (Later W1 W9) := by rw [hW9]; exact L8.out.trans ((Below.refl _ _).alloc (Nat.le_refl _) _)
            have HW9 := hide hW9.symm
            clear hst8 hl8 hW9 CPB' CPP
            simp only [List.length_nil]
            go_wp2_with (fail)
            have hw := HW9.out
            simp only [Int.natCast_zero, hw]
            clear hw
            refine (CLV.out _ L9.out).mono ?_
            rintro e w10 ⟨rfl, hl10⟩
            have L10 := hide (L1.out.trans (L9.out.trans hl10))
            clear hl10
            go_wp2_with (fail)
            go_ret
            exact ⟨rfl, L10.out⟩
          · simp only [h4, if_false] at h8
            obtain ⟨v8, rfl, hst8, hl8⟩ := h8
            obtain ⟨B8, c8, rfl, _, _, _⟩ := FlatAt.shape hst8
            obtain ⟨m8, hm8⟩ : ∃ m, l.length = m := ⟨_, rfl⟩
            rw [hm8] at hst8 ⊢
            have h4i : ¬ (400 : Int) < (PF.length : Int) := by omega
            have L8 := hide (L7.out.trans hl8)
            obtain ⟨W9, hW9⟩ : ∃ W9, W9 = w8.alloc (.cells #[.string a1, .slice B8 m8 c8] 25 (0, 0)) := ⟨_, rfl⟩
            obtain ⟨z, hz⟩ : ∃ z, z = w8.heap.size := ⟨_, rfl⟩
            have hl9 : Later w8 W9 := by rw [hW9]; exact (Below.refl _ _).alloc (Nat.le_refl _) _
            have L9 := hide (L8.out.trans hl9)
            have X9 := hide ((Below.block (hl8.trans hl9) x (lt_of_block X7.out)).trans X7.out)
            have Z9 : Hid (W9.heap[z]? = some (.cells #[.string a1, .slice B8 m8 c8] 25 (0, 0))) := by rw [hW9, hz]; exact heap_alloc_new w8 _
            have ST9 := hide (hst8.kept (Kept.of_below hl9 _))
            have HW9 := hide hW9.symm
            have HZ := hide hz.symm
            have X9r : Hid ((w8.alloc (.cells #[.string a1, .slice B8 m8 c8] 25 (0, 0))).heap[x]? = some (.cells #[.string a1, .slice A n c] 25 (0, 0))) := by rw [HW9.out]; exact X9.out
            clear hst8 hl8 hW9 CPB' hl9 hz
            go_wp2_with (refine wpList_val rfl (by rfl) (exec_load_box 25 _ (by rfl) x 0 (by rfl) 25 _ X9r.out 2 _ Tryd.underlying25 (by rfl) (by kernel_rfl) [.string a1, .slice A n c] (by rfl) (by rfl)) ?_)
            have hw := HW9.out
            have hzz := HZ.out
            simp only [hw, hzz]
            clear hw hzz
            refine (CS.out _ B8 m8 c8 _ L9.out ST9.out).mono ?_
            rintro e w10 ⟨rfl, hl10⟩
            have L10 := hide (L9.out.trans hl10)
            have Z10 := hide ((Below.block hl10 z (lt_of_block Z9.out)).trans Z9.out)
            have ST10 := hide (ST9.out.kept (Kept.of_below hl10 _))
            clear hl10 CS
            go_wp2_with (refine wpList_val rfl (by rfl) (exec_load_box 25 _ (by rfl) z 0 (by rfl) 25 _ Z10.out 2 _ Tryd.underlying25 (by rfl) (by kernel_rfl) [.string a1, .slice B8 m8 c8] (by rfl) (by rfl)) ?_)
            refine (CPP.out _ B8 m8 c8 _ L10.out ST10.out).mono ?_
            rintro e w11 ⟨rfl, hl11⟩
            have L11 := hide (L10.out.trans hl11)
            clear hl11
            go_wp2_with (fail)
            refine (CLV.out _ L11.out).mono ?_
            rintro e w12 ⟨rfl, hl12⟩
            have L12 := hide (L1.out.trans (L11.out.trans hl12))
            clear hl12
            go_wp2_with (fail)
            go_ret
            exact ⟨rfl, L12.out⟩
        · have hd : ((n2 : Int) != 0) = true := by simp; omega
          clear CPP CPB1 CS HLEN
          go_wp2_with (fail)
          refine (CLV.out _ L6.out).mono ?_
          rintro e w7 ⟨rfl, hl7⟩
          have L7 := hide (L1.out.trans (L6.out.trans hl7))
          clear hl7
          go_wp2_with (fail)
          go_ret
          exact ⟨rfl, L7.out⟩
end
end Go.Proofs.YtdahnjcoflifbaaDoor
/- DefBack, as the claim asks it. -/
namespace Go.Proofs.YtdahnjcoflifbaaDoor
open Go.RowKit
theorem law_backW (nm1 : ByteArray) (v1 : Value) (l1 : List StepD) (s : ByteArray) (w : World) (h1 : StepsAt (· < w.heap.size) w v1 l1) (_ : nm1.size ≤ 140737488355328) (hwf : ∀ s ∈ l1, s.wf)
    (hs : s.size ≤ 9223372036854775807) (ho : OptAt w ∧ PowAt w) :
    Calls Tryd.prog 5 #[.agg #[.string nm1, v1], .string s] w fun e w' => e = .returned (.bool true) ∧ Later w w' := by
  have b1 : l1.length ≤ 9223372036854775807 := by obtain ⟨A, c, _, a, b, _⟩ := FlatAt.shape h1; unfold maxLen at b; omega
  exact law_back h1 b1 hs (fun s hs => (hwf s hs).2) ho.1 ho.2
end Go.Proofs.YtdahnjcoflifbaaDoor
namespace Go.Proofs.YtdahnjcoflifbaaDoor
open Go.ChangeShapes Go.WideShapes Go.ChangeAt Go.RowKit

theorem defBack_lawKnobs : ownKnob Tryd.prog.godebug = none := by kernel_rfl
theorem defBack_allLaid : laidOutB Tryd.prog = true := by kernel_rfl

set_option maxRecDepth 100000 in
set_option maxHeartbeats 1000000 in
theorem defBack_lifted (os : Os) (started : os.Started) (H : Type) (enc : TypeId × Value → H) :
    ReturnsInHanded {} Tryd.checked os 5 .any (fun w args => (Rows.defBackSpec.pre enc Tryd.prog Tryd.f5 Rows.defBackRow.domain false w args ∧ laidMetH Tryd.prog Rows.defBackRow.laid w) ∧ sizedMet enc Tryd.prog Tryd.f5 (OpenSpec.ofChange Rows.defBackSpec) false w args)
      (Rows.defBackSpec.post enc Tryd.prog Tryd.f5 false true false false) := by
  refine returnsInHanded_of_change_and (C := Tryd.checked) (X := fun w _ => laidMetH Tryd.prog Rows.defBackRow.laid w) (fun _ _ _ hh h => h.of_heap hh) defBack_lawKnobs started (by kernel_rfl) Tryd.func5
    (ChangeSpec.witness_shaped (enc := enc) (C := Tryd.checked) (os := os) (X := fun w _ => laidMetH Tryd.prog Rows.defBackRow.laid w) false (World.doorLaid Tryd.prog 400 os) #[.agg #[.string ⟨#[]⟩, .slice none 0 0], .string ⟨#[]⟩] 8 rfl (World.shaped_of_RefB (by kernel_rfl) (by kernel_rfl)) (by kernel_rfl) (by kernel_rfl) (by kernel_rfl) (tab_start4 os _)) ?_
  intro W base args ds gs before hval0 hW hcnd hsz0 hL _
  have hTab := opt4 hL
  have hval : ∀ (j : Nat) t v, Tryd.f5.params[j]? = some t → args[j]? = some v → Value.okWide Tryd.prog W .any base t v := hval0
  have hW' := hW
  obtain ⟨p, q, hA0, hV, rfl, _, _⟩ := hW
  have hA : DataW.TrodAll enc Tryd.prog W 0 (fun _ => true) true Tryd.f5.params.toList args.toList ds p := hA0
  have hsz : (DataW.weightsEach Tryd.prog (Tryd.f5.params.toList ++ Rows.defBackSpec.plain.varTypes Tryd.prog) (ds ++ gs)).all (· ≤ reachBytes) = true := hsz0
  rw [Tryd.params5] at hA hval hsz
  obtain ⟨v0, vs0, d0, ds0, p0, q0, hargs, rfl, rfl, h0, r0⟩ := trodAll_cons hA
  obtain ⟨v1, vs1, d1, ds1, p1, q1, rfl, rfl, rfl, h1, r1⟩ := trodAll_cons r0
  obtain ⟨rfl, rfl, rfl⟩ := trodAll_nil r1
  obtain rfl : args = #[v0, v1] := by cases args; simp_all
  obtain ⟨rfl, rfl⟩ := trodVars_none hV
  have k0 := h0
  have lt0 : ∀ x ∈ p0, x.block < W.heap.size := by obtain ⟨m, hm⟩ := k0; exact DataW.trod_lt m _ _ _ hm
  have s0 : Sm 25 d0 := sm_of hsz (j := 0) rfl rfl
  obtain ⟨cs0, rfl, _⟩ := okWide_struct Tryd.underlying25 (hval 0 25 v0 rfl rfl)
  obtain ⟨nm0, sv0, l0, rfl, hs0, hn0, wf0⟩ := arg_def h0 s0
  have k1 := h1
  obtain ⟨a1, rfl, rfl, rfl, w1⟩ := Go.ChangeMaps.open_string Tryd.underlying9 (hval 1 9 v1 rfl rfl) h1
  clear hA0 hval0 hL
  refine (law_backW nm0 sv0 l0 a1 W hs0 hn0 wf0 (by unfold maxLen at w1; omega) hTab).mono fun e W' ⟨he, bel0⟩ => ?_
  have bel : Below W.heap.size W W' := bel0
  subst he
  exact ⟨_, rfl, _, _, _, [], _, [], hW', trodAll_mk1 (shut_bool Tryd.underlying4 _), (trodAll_cons_mk (Below.trod defBack_allLaid (by kernel_rfl) (of_decide_eq_true (by kernel_rfl)) k0 bel lt0) (trodAll_cons_mk (Go.ChangeMaps.shut_string Tryd.underlying9 w1) trodAll_mk0)), rfl, bel.frame _, fun h => by cases h⟩

theorem defBack_over : Rows.defBackRow.holds Tryd.pinned (OpenSpec.ofChange Rows.defBackSpec) :=
  OpenClaim.holds_of_wide 5 Tryd.f5 rfl rfl rfl rfl rfl rfl rfl ⟨rfl, rfl, rfl, rfl, rfl⟩ rfl rfl rfl rfl rfl (by kernel_rfl) Tryd.func5 (by kernel_rfl)
    (of_decide_eq_true (by kernel_rfl)) (by unfold Func.isWrapper; first | (rw [if_pos (by decide +kernel)]; kernel_rfl) | (rw [if_neg (by decide +kernel)]; exact ⟨rfl, rfl⟩))
    (fun os started H enc _ => defBack_lifted os started H enc)

theorem defBack_card : Rows.DefBackCardSaid :=
  Claim7.holds_tied_plain_at .later [] _ true _ false defBack_over (fun _ h => by cases h) (by kernel_rfl) (fun _ h => by cases h) defBack_row_tie rfl ⟨rfl, rfl⟩ (by kernel_rfl) rfl
    (fun f fn hf hfn => by
      obtain rfl : f = 5 := Option.some.inj ((show Tryd.prog.funcNamed "drover/droverlaw13.DefBack" = some 5 by kernel_rfl).symm.trans hf) |>.symm
      obtain rfl : fn = Tryd.f5 := (Option.some.inj (Tryd.func5.symm.trans hfn)).symm
      exact ⟨by kernel_rfl, fun j t ht => by
        rw [Tryd.params5] at ht
        have hm : t ∈ [25, 9] := by simpa using Array.mem_of_getElem? ht
        have hall : ([25, 9].all fun u => !Tryd.prog.wantsStandIn u) = true := by kernel_rfl
        exact (show Tryd.prog.wantsStandIn t = false by simpa using List.all_eq_true.1 hall t hm)⟩)
    (by kernel_rfl)
#print axioms defBack_card
end Go.Proofs.YtdahnjcoflifbaaDoor
