/- Texts merged: SameDef, SameOp, SameOps, Ints, RefInts, SameIncs, EqR, Same, Chain, Apart9, OpenM, Args9, Args, Tab. -/
import Derived.Test.YtehiaeihkdfclaaDoorBaseN1
import Derived.Test.YtehiaeihkdfclaaDoorBaseN2
import Derived.Test.YtehiaeihkdfclaaDoorBaseN3
import Derived.Test.YtehiaeihkdfclaaDoorBaseN4
import Derived.Deep.QuietTactic
import Derived.BigQuiet
import Derived.Test.YtehiaeihkdfclaaDoorRows
import Derived.Laws.CopyOwn
import Derived.Deep.Slices
import Derived.ChangeArms
import Derived.SizedLaws
import Derived.ShutString
import Derived.ProofKit
import Derived.OpenShut
import Derived.Lib.LaidTab
import Derived.LaidMore
/- slices.Equal at steps, the document's SameDef. -/
namespace Go.Proofs.YtehiaeihkdfclaaDoor
open Go.RowKit

/-- The first k are alike. -/
def Alike {α : Type} (l m : List α) (k : Nat) : Prop := ∀ i, i < k → l[i]? = m[i]?
section
variable {α : Type} {l m : List α} {k : Nat}
theorem Alike.zero (l m : List α) : Alike l m 0 := fun i hi => by omega
theorem Alike.next (h : Alike l m k) (he : l[k]? = m[k]?) : Alike l m (k + 1) := fun i hi => by
  by_cases hk : i = k
  · rw [hk, he]
  · exact h i (by omega)
theorem Alike.all (h : Alike l m k) (h1 : l.length = k) (h2 : m.length = k) : l = m := by
  apply List.ext_getElem?
  intro i
  by_cases hi : i < k
  · exact h i hi
  · rw [List.getElem?_eq_none (by omega), List.getElem?_eq_none (by omega)]
theorem ne_at {x y : α} (hx : l[k]? = some x) (hy : m[k]? = some y) (hne : x ≠ y) : l ≠ m := by
  rintro rfl
  rw [hx] at hy
  exact hne (Option.some.inj hy)
end
theorem neq_step_same (s : StepD) (w : World) : (binOp .neq 72 (.agg (s.cells).toArray) (.agg (s.cells).toArray)).run Tryd.prog w = .ok (.bool false) w := by rw [neq_step]; simp
theorem neq_step_other {s t : StepD} (h : s ≠ t) (w : World) : (binOp .neq 72 (.agg (s.cells).toArray) (.agg (t.cells).toArray)).run Tryd.prog w = .ok (.bool true) w := by rw [neq_step]; simp [h]

set_option maxHeartbeats 1000000 in
theorem same_def (F G : Nat → Prop) (a1 a2 : ByteArray) (v v2 : Value) (l m : List StepD) (w : World) (hl : StepsAt F w v l) (hm : StepsAt G w v2 m) :
    Calls Tryd.prog 18 #[.agg #[.string a1, v], .agg #[.string a2, v2]] w fun e w' => e = .returned (.bool (decide (a1 = a2 ∧ l = m))) ∧ Below w.heap.size w w' := by
  obtain ⟨A, c, rfl, h1, h2, _⟩ := FlatAt.shape hl
  obtain ⟨A2, c2, rfl, h3, h4, _⟩ := FlatAt.shape hm
  unfold maxLen at h2 h4
  obtain ⟨n, hn⟩ : ∃ n, l.length = n := ⟨_, rfl⟩
  obtain ⟨n2, hn2⟩ : ∃ n2, m.length = n2 := ⟨_, rfl⟩
  rw [hn] at h1 hl ⊢
  rw [hn2] at h3 hm ⊢
  have hbw : Below w.heap.size w ((w.alloc (.cells #[.string a1, .slice A n c] 24 (0, 0))).alloc (.cells #[.string a2, .slice A2 n2 c2] 24 (0, 0))) := ((Below.refl _ _).alloc (Nat.le_refl _) _).alloc (by simp) _
  have H1 := hide (hl.kept (Kept.of_below hbw F))
  have H2 := hide (hm.kept (Kept.of_below hbw G))
  have HBW := hide hbw
  have HN := hide hn
  have HN2 := hide hn2
  clear hl hm hbw hn hn2
  by_cases ha : a1 = a2
  · subst ha
    have hs1 : (a1.toList == a1.toList) = true := by simp
    have hs2 : (a1.toList != a1.toList) = false := by simp
    by_cases hnm : n = n2
    · subst hnm
      have ht : ((n : Int) != (n : Int)) = false := by simp
      go_enter Tryd.func18, Tryd.ntmps18
      go_wp2
      have cA : ((w.alloc (.cells #[.string a1, .slice A n c] 24 (0, 0))).alloc (.cells #[.string a1, .slice A2 n c2] 24 (0, 0))).cell? ⟨w.heap.size, 1, none⟩ = some (.slice A n c) := cell_of_row _ _ 1 _ _ _ ((Below.block ((Below.refl _ _).alloc (Nat.le_refl _) _) w.heap.size (by simp)).trans (heap_alloc_new w _))
      have cB : ((w.alloc (.cells #[.string a1, .slice A n c] 24 (0, 0))).alloc (.cells #[.string a1, .slice A2 n c2] 24 (0, 0))).cell? ⟨w.heap.size + 1, 1, none⟩ = some (.slice A2 n c2) := cell_of_row _ _ 1 _ _ _ (heap_alloc2_new w _ _)
      generalize ((w.alloc (.cells #[.string a1, .slice A n c] 24 (0, 0))).alloc (.cells #[.string a1, .slice A2 n c2] 24 (0, 0))) = W at H1 H2 HBW cA cB ⊢
      go_loopw [23] (fun i wr => ∃ k : Nat, k ≤ n ∧ i = .int .i64 (k : Int) ∧ Alike l m k ∧ ∃ q, wr = W.drewN q) (fun i _ => n - (intOf i).toNat)
      case atStart => exact ⟨0, by omega, rfl, Alike.zero _ _, 0, rfl⟩
      case round =>
        obtain ⟨k, hk, rfl, hup, q, rfl⟩ := hrel
        have HU := hide hup
        clear hup
        by_cases hkn : k < n
        · obtain ⟨x, b, off, c', hx, hv, _, _, _, hr⟩ := StepsAt.at_ H1.out (i := k) (by rw [HN.out]; exact hkn)
          rw [HN.out] at hv
          obtain ⟨rfl, rfl⟩ : A = some ⟨b, off, none⟩ ∧ c = c' := by injection hv with e1 _ e3; exact ⟨e1, e3⟩
          obtain ⟨y, b2, off2, c2', hy, hv2, _, _, _, hr2⟩ := StepsAt.at_ H2.out (i := k) (by rw [HN2.out]; exact hkn)
          rw [HN2.out] at hv2
          obtain ⟨rfl, rfl⟩ : A2 = some ⟨b2, off2, none⟩ ∧ c2 = c2' := by injection hv2 with e1 _ e3; exact ⟨e1, e3⟩
          obtain ⟨r0, r1, r2, r3, r4, r5⟩ := range_step hr
          obtain ⟨s0, s1, s2, s3, s4, s5⟩ := range_step hr2
          have HX := hide hx
          have HY := hide hy
          clear hx hy hv hv2 hr hr2
          by_cases he : x = y
          · subst he
            have hq := fun w => neq_step_same x w
            simp only [StepD.cells] at hq
            go_wp2
            go_quiet (fail)
            go_wp2
            go_roundw
            case rel => exact ⟨k + 1, by omega, by go_num, HU.out.next (HX.out.trans HY.out.symm), _, rfl⟩
            case measure => simp [intOf]; omega
          · have hq := fun w => neq_step_other he w
            simp only [StepD.cells] at hq
            have HE := hide (ne_at HX.out HY.out he)
            clear he
            go_wp2
            go_quiet (fail)
            go_wp2
            go_ret
            exact ⟨ret_bool (by simp [HE.out]), HBW.out.trans ((below_drewN _ _ _).trans (below_drewN _ _ _))⟩
        · go_wp2
          go_ret
          exact ⟨ret_bool (by simp [HU.out.all (by have := HN.out; omega) (by have := HN2.out; omega)]), HBW.out.trans (below_drewN _ _ _)⟩
    · have ht : ((n : Int) != (n2 : Int)) = true := by simp; omega
      have HE : Hid (l ≠ m) := by
        rintro rfl
        exact hnm (HN.out.symm.trans HN2.out)
      go_enter Tryd.func18, Tryd.ntmps18
      go_wp2
      go_ret
      exact ⟨ret_bool (by simp [HE.out]), HBW.out⟩
  · have hs0 : (a1.toList == a2.toList) = false := by rw [str_eq]; simpa using ha
    have hs1 : (a1.toList != a2.toList) = true := by unfold bne; rw [hs0]; rfl
    have HE := hide ha
    clear ha
    go_enter Tryd.func18, Tryd.ntmps18
    go_wp2
    go_ret
    exact ⟨ret_bool (by simp [HE.out]), HBW.out⟩
end Go.Proofs.YtehiaeihkdfclaaDoor
/- The document's SameOp. -/
namespace Go.Proofs.YtehiaeihkdfclaaDoor
open Go.RowKit

theorem op_iff (x y : OpD) : x = y ↔ x.kind = y.kind ∧ x.client = y.client ∧ x.request = y.request ∧ (x.name = y.name ∧ x.steps = y.steps) ∧ x.saga = y.saga ∧ x.step = y.step ∧ x.try_ = y.try_ ∧ x.back = y.back ∧ x.good = y.good := by
  cases x
  cases y
  simp [and_assoc]

set_option maxHeartbeats 1000000 in
set_option maxRecDepth 100000 in
theorem same_op (F G : Nat → Prop) (v v2 : Value) (x y : OpD) (w : World) (hl : StepsAt F w v x.steps) (hm : StepsAt G w v2 y.steps) :
    Calls Tryd.prog 13 #[.agg (x.cells v).toArray, .agg (y.cells v2).toArray] w fun e w' => e = .returned (.bool (decide (x = y))) ∧ Below w.heap.size w w' := by
  obtain ⟨q0, h0⟩ : ∃ q, (x.kind == y.kind) = q := ⟨_, rfl⟩
  obtain ⟨q1, h1⟩ : ∃ q, (x.client == y.client) = q := ⟨_, rfl⟩
  obtain ⟨q2, h2⟩ : ∃ q, (x.request == y.request) = q := ⟨_, rfl⟩
  obtain ⟨q3, h3⟩ : ∃ q, decide (x.name = y.name ∧ x.steps = y.steps) = q := ⟨_, rfl⟩
  obtain ⟨q4, h4⟩ : ∃ q, (x.saga == y.saga) = q := ⟨_, rfl⟩
  obtain ⟨q5, h5⟩ : ∃ q, (x.step == y.step) = q := ⟨_, rfl⟩
  obtain ⟨q6, h6⟩ : ∃ q, (x.try_ == y.try_) = q := ⟨_, rfl⟩
  obtain ⟨q7, h7⟩ : ∃ q, (x.back == y.back) = q := ⟨_, rfl⟩
  obtain ⟨q8, h8⟩ : ∃ q, (x.good == y.good) = q := ⟨_, rfl⟩
  have HALL : Hid (decide (x = y) = (q0 && (q1 && (q2 && (q3 && (q4 && (q5 && (q6 && (q7 && q8))))))))) := by
    show _ = _
    rw [← h0, ← h1, ← h2, ← h3, ← h4, ← h5, ← h6, ← h7, ← h8, Bool.eq_iff_iff, decide_eq_true_eq, op_iff]
    simp
  have C := hide (fun w' (hb : Below w.heap.size w w') => same_def F G x.name y.name v v2 x.steps y.steps w' (hl.kept (Kept.of_below hb F)) (hm.kept (Kept.of_below hb G)))
  rw [h3] at C
  clear h3
  have H1 := FlatAt.oneCell hl
  have H2 := FlatAt.oneCell hm
  clear hl hm
  unfold OpD.cells
  have hbw : Below w.heap.size w ((w.alloc (.cells (x.cells v).toArray 26 (0, 0))).alloc (.cells (y.cells v2).toArray 26 (0, 0))) := ((Below.refl _ _).alloc (Nat.le_refl _) _).alloc (by simp) _
  have HBW := hide hbw
  have B1 : Hid (∀ w' : World, Below (w.heap.size + 2) ((w.alloc (.cells (x.cells v).toArray 26 (0, 0))).alloc (.cells (y.cells v2).toArray 26 (0, 0))) w' → w'.heap[w.heap.size]? = some (.cells (x.cells v).toArray 26 (0, 0)) ∧ w'.heap[w.heap.size + 1]? = some (.cells (y.cells v2).toArray 26 (0, 0))) := fun w' hb =>
    ⟨(hb.block _ (by omega)).trans ((Below.block ((Below.refl _ _).alloc (Nat.le_refl _) _) w.heap.size (by simp)).trans (heap_alloc_new w _)), (hb.block _ (by omega)).trans (heap_alloc2_new w _ _)⟩
  clear hbw
  unfold OpD.cells at HBW B1
  go_enter Tryd.func13, Tryd.ntmps13
  go_wp2_with (fail)
  all_goals (try (go_ret; exact ⟨ret_bool (by rw [HALL.out]; simp [*]), HBW.out⟩))
  refine (C.out _ HBW.out).mono ?_
  rintro e w1 ⟨rfl, hb1⟩
  have HB1 := hide (HBW.out.trans (hb1.mono HBW.out.size))
  obtain ⟨hx, hy⟩ := B1.out w1 (hb1.mono (by simp))
  obtain ⟨x0, x1, x2, x3, x4, x5, x6, x7, x8, x9⟩ := box10 hx
  obtain ⟨y0, y1, y2, y3, y4, y5, y6, y7, y8, y9⟩ := box10 hy
  clear hb1 hx hy x0 x1 x2 x3 x4 y0 y1 y2 y3 y4
  go_wp2_with (fail)
  all_goals (try (go_ret; exact ⟨ret_bool (by rw [HALL.out]; simp [*]), HB1.out⟩))
end Go.Proofs.YtehiaeihkdfclaaDoor
/- The document's SameOps. -/
namespace Go.Proofs.YtehiaeihkdfclaaDoor
open Go.RowKit

theorem map_at {α β : Type} {f : α → β} {ps : List α} {l : List β} (h : ps.map f = l) {k : Nat} {x : α} (hx : ps[k]? = some x) : l[k]? = some (f x) := by
  rw [← h, List.getElem?_map, hx]
  rfl

set_option maxHeartbeats 2000000 in
set_option maxRecDepth 100000 in
theorem same_ops (F G : Nat → Prop) (v v2 : Value) (l m : List OpD) (w : World) (hl : OpsAt F w v l) (hm : OpsAt G w v2 m) :
    Calls Tryd.prog 52 #[v, v2] w fun e w' => e = .returned (.bool (decide (l = m))) ∧ Below w.heap.size w w' := by
  obtain ⟨ps, hps, hl⟩ := hl
  obtain ⟨ps2, hps2, hm⟩ := hm
  obtain ⟨A, c, rfl, h1, h2, _⟩ := FlatAt.shape hl.1
  obtain ⟨A2, c2, rfl, h3, h4, _⟩ := FlatAt.shape hm.1
  unfold maxLen at h2 h4
  obtain ⟨n, hn⟩ : ∃ n, ps.length = n := ⟨_, rfl⟩
  obtain ⟨n2, hn2⟩ : ∃ n2, ps2.length = n2 := ⟨_, rfl⟩
  rw [hn] at h1 hl ⊢
  rw [hn2] at h3 hm ⊢
  have H1 := hide hl
  have H2 := hide hm
  have HN := hide hn
  have HN2 := hide hn2
  have HP := hide hps
  have HP2 := hide hps2
  have HLN : Hid (l.length = n) := by show _ = _; rw [← hps, List.length_map, hn]
  have HMN : Hid (m.length = n2) := by show _ = _; rw [← hps2, List.length_map, hn2]
  clear hl hm hn hn2 hps hps2
  by_cases hnm : n = n2
  · subst hnm
    have ht : ((n : Int) != (n : Int)) = false := by simp
    go_enter Tryd.func52, Tryd.ntmps52
    go_wp2
    go_loopw [13] (fun i wr => ∃ k : Nat, k ≤ n ∧ i = .int .i64 (k : Int) ∧ Alike l m k ∧ Later w wr) (fun i _ => n - (intOf i).toNat)
    case atStart => exact ⟨0, by omega, rfl, Alike.zero _ _, Later.refl _⟩
    case round =>
      obtain ⟨k, hk, rfl, hup, hb⟩ := hrel
      have HU := hide hup
      have HB := hide hb
      clear hup hb
      by_cases hkn : k < n
      · obtain ⟨x, s, b, off, c', hx, hv, _, _, _, hr, hs⟩ := OpsIn.at_ (H1.out.kept (Kept.of_below HB.out F)) (i := k) (by rw [HN.out]; exact hkn)
        rw [HN.out] at hv
        obtain ⟨rfl, rfl⟩ : A = some ⟨b, off, none⟩ ∧ c = c' := by injection hv with e1 _ e3; exact ⟨e1, e3⟩
        obtain ⟨y, s2, b2, off2, c2', hy, hv2, _, _, _, hr2, hs2⟩ := OpsIn.at_ (H2.out.kept (Kept.of_below HB.out G)) (i := k) (by rw [HN2.out]; exact hkn)
        rw [HN2.out] at hv2
        obtain ⟨rfl, rfl⟩ : A2 = some ⟨b2, off2, none⟩ ∧ c2 = c2' := by injection hv2 with e1 _ e3; exact ⟨e1, e3⟩
        have HX := hide (map_at HP.out hx)
        have HY := hide (map_at HP2.out hy)
        have RX : Hid (∀ w' : World, Later wr w' → w'.rangeAt b (off + k * 10) (x.cells s)) := fun w' hb j u hu => by
          have hr' := hr j u hu
          exact (World.cell?_of_block (Below.block hb b (by assumption))).trans hr'
        have RY : Hid (∀ w' : World, Later wr w' → w'.rangeAt b2 (off2 + k * 10) (y.cells s2)) := fun w' hb j u hu => by
          have hr' := hr2 j u hu
          exact (World.cell?_of_block (Below.block hb b2 (by assumption))).trans hr'
        have C := hide (fun w' (hb : Later wr w') => same_op F G s s2 x y w' (hs.kept (Kept.of_below hb F)) (hs2.kept (Kept.of_below hb G)))
        have L0 : Hid (Later wr wr.drew) := Later.drew _
        clear hx hy hv hv2 hr hr2 hs hs2
        by_cases he : x = y
        · have hd : decide (x = y) = true := decide_eq_true he
          have HE := hide he
          clear he
          rw [hd] at C
          clear hd
          go_wp2
          refine wp_region_L (by kernel_rfl) ?_
          refine wpAnyL_take (i := 0) (d := some 16) (v := ?vap0) rfl rfl (by kernel_rfl) (by kernel_rfl) (by kernel_rfl) (fun _ _ _ h => h) (by rfl) ?yap0 ?_
          case yap0 => (intro w' hw'; go_simp; try (with_reducible rfl))
          simp only [Act.put, List.setIfInBounds_toArray, List.set_cons_zero, List.set_cons_succ]
          refine wpAnyL_take (i := 1) (d := some 17) (v := ?vap1) rfl rfl (by kernel_rfl) (by kernel_rfl) (by kernel_rfl) (fun _ _ _ h => h) (by rfl) ?yap1 ?_
          case yap1 => (intro w' hw'; go_simp; try (with_reducible rfl))
          simp only [Act.put, List.setIfInBounds_toArray, List.set_cons_zero, List.set_cons_succ]
          refine wpAnyL_take (i := 2) (d := some 18) (v := ?vap2) rfl rfl (by kernel_rfl) (by kernel_rfl) (by kernel_rfl) (fun _ _ _ h => h) (by rfl) ?yap2 ?_
          case yap2 => (intro w' hw'; go_simp; try (with_reducible rfl))
          simp only [Act.put, List.setIfInBounds_toArray, List.set_cons_zero, List.set_cons_succ]
          refine wpAnyL_take (i := 3) (d := some 19) (v := ?vap3) rfl rfl (by kernel_rfl) (by kernel_rfl) (by kernel_rfl) (fun _ _ _ h => h) (by rfl) ?yap3 ?_
          case yap3 => (intro w' hw'; obtain ⟨r0, r1, r2, r3, r4, r5, r6, r7, r8, r9⟩ := range_op (RX.out w' (L0.out.trans hw')); go_simp; try (with_reducible rfl))
          simp only [Act.put, List.setIfInBounds_toArray, List.set_cons_zero, List.set_cons_succ]
          refine wpAnyL_take (i := 4) (d := some 20) (v := ?vap4) rfl rfl (by kernel_rfl) (by kernel_rfl) (by kernel_rfl) (fun _ _ _ h => h) (by rfl) ?yap4 ?_
          case yap4 => (intro w' hw'; go_simp; try (with_reducible rfl))
          simp only [Act.put, List.setIfInBounds_toArray, List.set_cons_zero, List.set_cons_succ]
          refine wpAnyL_take (i := 5) (d := some 21) (v := ?vap5) rfl rfl (by kernel_rfl) (by kernel_rfl) (by kernel_rfl) (fun _ _ _ h => h) (by rfl) ?yap5 ?_
          case yap5 => (intro w' hw'; go_simp; try (with_reducible rfl))
          simp only [Act.put, List.setIfInBounds_toArray, List.set_cons_zero, List.set_cons_succ]
          refine wpAnyL_take (i := 6) (d := some 22) (v := ?vap6) rfl rfl (by kernel_rfl) (by kernel_rfl) (by kernel_rfl) (fun _ _ _ h => h) (by rfl) ?yap6 ?_
          case yap6 => (intro w' hw'; go_simp; try (with_reducible rfl))
          simp only [Act.put, List.setIfInBounds_toArray, List.set_cons_zero, List.set_cons_succ]
          refine wpAnyL_take (i := 7) (d := some 23) (v := ?vap7) rfl rfl (by kernel_rfl) (by kernel_rfl) (by kernel_rfl) (fun _ _ _ h => h) (by rfl) ?yap7 ?_
          case yap7 => (intro w' hw'; obtain ⟨r0, r1, r2, r3, r4, r5, r6, r7, r8, r9⟩ := range_op (RY.out w' (L0.out.trans hw')); go_simp; try (with_reducible rfl))
          simp only [Act.put, List.setIfInBounds_toArray, List.set_cons_zero, List.set_cons_succ]
          refine wpAnyL_only (i := 8) rfl (by kernel_rfl) (by rfl) fun K hK => ?_
          go_simp
          refine (C.out _ L0.out).mono ?_
          rintro e w8 ⟨rfl, hb8⟩
          have L8 : Hid (Later wr w8) := L0.out.trans hb8
          have HB8 := hide hb8
          clear hb8
          refine hK.out _ _ HB8.out ?_
          clear hK K
          try simp only [Act.put, List.setIfInBounds_toArray, List.set_cons_zero, List.set_cons_succ]
          refine wpAnyL_take (i := 9) (d := some 25) (v := ?vap9) rfl rfl (by kernel_rfl) (by kernel_rfl) (by kernel_rfl) (fun _ _ _ h => h) (by rfl) ?yap9 ?_
          case yap9 => (intro w' hw'; go_simp; try (with_reducible rfl))
          simp only [Act.put, List.setIfInBounds_toArray, List.set_cons_zero, List.set_cons_succ]
          refine wpAnyL_done (by kernel_rfl) ?_ _
          go_wp2
          go_roundw
          case rel => exact ⟨k + 1, by omega, by go_num, HU.out.next (HX.out.trans (by rw [HE.out]; exact HY.out.symm)), HB.out.trans L8.out⟩
          case measure => simp [intOf]; omega
        · have hd : decide (x = y) = false := decide_eq_false he
          have HE := hide (ne_at HX.out HY.out he)
          clear he
          rw [hd] at C
          clear hd
          go_wp2
          refine wp_region_L (by kernel_rfl) ?_
          refine wpAnyL_take (i := 0) (d := some 16) (v := ?vaq0) rfl rfl (by kernel_rfl) (by kernel_rfl) (by kernel_rfl) (fun _ _ _ h => h) (by rfl) ?yaq0 ?_
          case yaq0 => (intro w' hw'; go_simp; try (with_reducible rfl))
          simp only [Act.put, List.setIfInBounds_toArray, List.set_cons_zero, List.set_cons_succ]
          refine wpAnyL_take (i := 1) (d := some 17) (v := ?vaq1) rfl rfl (by kernel_rfl) (by kernel_rfl) (by kernel_rfl) (fun _ _ _ h => h) (by rfl) ?yaq1 ?_
          case yaq1 => (intro w' hw'; go_simp; try (with_reducible rfl))
          simp only [Act.put, List.setIfInBounds_toArray, List.set_cons_zero, List.set_cons_succ]
          refine wpAnyL_take (i := 2) (d := some 18) (v := ?vaq2) rfl rfl (by kernel_rfl) (by kernel_rfl) (by kernel_rfl) (fun _ _ _ h => h) (by rfl) ?yaq2 ?_
          case yaq2 => (intro w' hw'; go_simp; try (with_reducible rfl))
          simp only [Act.put, List.setIfInBounds_toArray, List.set_cons_zero, List.set_cons_succ]
          refine wpAnyL_take (i := 3) (d := some 19) (v := ?vaq3) rfl rfl (by kernel_rfl) (by kernel_rfl) (by kernel_rfl) (fun _ _ _ h => h) (by rfl) ?yaq3 ?_
          case yaq3 => (intro w' hw'; obtain ⟨r0, r1, r2, r3, r4, r5, r6, r7, r8, r9⟩ := range_op (RX.out w' (L0.out.trans hw')); go_simp; try (with_reducible rfl))
          simp only [Act.put, List.setIfInBounds_toArray, List.set_cons_zero, List.set_cons_succ]
          refine wpAnyL_take (i := 4) (d := some 20) (v := ?vaq4) rfl rfl (by kernel_rfl) (by kernel_rfl) (by kernel_rfl) (fun _ _ _ h => h) (by rfl) ?yaq4 ?_
          case yaq4 => (intro w' hw'; go_simp; try (with_reducible rfl))
          simp only [Act.put, List.setIfInBounds_toArray, List.set_cons_zero, List.set_cons_succ]
          refine wpAnyL_take (i := 5) (d := some 21) (v := ?vaq5) rfl rfl (by kernel_rfl) (by kernel_rfl) (by kernel_rfl) (fun _ _ _ h => h) (by rfl) ?yaq5 ?_
          case yaq5 => (intro w' hw'; go_simp; try (with_reducible rfl))
          simp only [Act.put, List.setIfInBounds_toArray, List.set_cons_zero, List.set_cons_succ]
          refine wpAnyL_take (i := 6) (d := some 22) (v := ?vaq6) rfl rfl (by kernel_rfl) (by kernel_rfl) (by kernel_rfl) (fun _ _ _ h => h) (by rfl) ?yaq6 ?_
          case yaq6 => (intro w' hw'; go_simp; try (with_reducible rfl))
          simp only [Act.put, List.setIfInBounds_toArray, List.set_cons_zero, List.set_cons_succ]
          refine wpAnyL_take (i := 7) (d := some 23) (v := ?vaq7) rfl rfl (by kernel_rfl) (by kernel_rfl) (by kernel_rfl) (fun _ _ _ h => h) (by rfl) ?yaq7 ?_
          case yaq7 => (intro w' hw'; obtain ⟨r0, r1, r2, r3, r4, r5, r6, r7, r8, r9⟩ := range_op (RY.out w' (L0.out.trans hw')); go_simp; try (with_reducible rfl))
          simp only [Act.put, List.setIfInBounds_toArray, List.set_cons_zero, List.set_cons_succ]
          refine wpAnyL_only (i := 8) rfl (by kernel_rfl) (by rfl) fun K hK => ?_
          go_simp
          refine (C.out _ L0.out).mono ?_
          rintro e w8 ⟨rfl, hb8⟩
          have L8 : Hid (Later wr w8) := L0.out.trans hb8
          have HB8 := hide hb8
          clear hb8
          refine hK.out _ _ HB8.out ?_
          clear hK K
          try simp only [Act.put, List.setIfInBounds_toArray, List.set_cons_zero, List.set_cons_succ]
          refine wpAnyL_take (i := 9) (d := some 25) (v := ?vaq9) rfl rfl (by kernel_rfl) (by kernel_rfl) (by kernel_rfl) (fun _ _ _ h => h) (by rfl) ?yaq9 ?_
          case yaq9 => (intro w' hw'; go_simp; try (with_reducible rfl))
          simp only [Act.put, List.setIfInBounds_toArray, List.set_cons_zero, List.set_cons_succ]
          refine wpAnyL_done (by kernel_rfl) ?_ _
          go_wp2
          go_ret
          exact ⟨ret_bool (by simp [HE.out]), HB.out.trans L8.out⟩
      · go_wp2
        go_ret
        exact ⟨ret_bool (by simp [HU.out.all (by have := HLN.out; omega) (by have := HMN.out; omega)]), HB.out⟩
  · have ht : ((n : Int) != (n2 : Int)) = true := by simp; omega
    have HE : Hid (l ≠ m) := by
      rintro rfl
      exact hnm (HLN.out.symm.trans HMN.out)
    go_enter Tryd.func52, Tryd.ntmps52
    go_wp2
    go_ret
    exact ⟨ret_bool (by simp [HE.out]), Below.refl _ _⟩
end Go.Proofs.YtehiaeihkdfclaaDoor
/- What is said of memory, for slices of int: a slice that holds a list of integers, nil and empty ones among them; a row of ints that the call itself made. -/
namespace Go.Proofs.YtehiaeihkdfclaaDoor
open Go.RowKit

def iv (x : Int) : Value := .int .i64 x
def ivs (l : List Int) : List Value := l.map iv

theorem ivs_len (l : List Int) : (ivs l).length = l.length := by simp [ivs]
theorem ivs_append (a b : List Int) : ivs (a ++ b) = ivs a ++ ivs b := by simp [ivs]
theorem ivs_one (x : Int) : ivs [x] = [.int .i64 x] := rfl
theorem ivs_cell (l : List Int) : ∀ u ∈ ivs l, u.oneCell' = true := by
  intro u hu
  obtain ⟨_, _, rfl⟩ := List.mem_map.1 hu
  rfl
theorem ivs_get {l : List Int} {i : Nat} (h : i < l.length) : (ivs l)[i]? = some (.int .i64 (l.getD i 0)) := by
  simp [ivs, iv, h]
theorem ivs_set (l : List Int) (i : Nat) (x : Int) : ivs (l.set i x) = (ivs l).set i (.int .i64 x) := by simp [ivs, iv, List.map_set]

/-- All of them fit an int. -/
def Fit (l : List Int) : Prop := ∀ x ∈ l, -9223372036854775808 ≤ x ∧ x < 9223372036854775808
theorem Fit.get {l : List Int} (h : Fit l) (i : Nat) : -9223372036854775808 ≤ l.getD i 0 ∧ l.getD i 0 < 9223372036854775808 := by
  by_cases hi : i < l.length
  · have e : l.getD i 0 = l[i] := by simp [List.getD, hi]
    rw [e]
    exact h _ (List.getElem_mem hi)
  · have e : l.getD i 0 = 0 := by simp [List.getD, Nat.not_lt.1 hi]
    rw [e]
    decide

/-- The slice at 'A', of 'n' ints, holds the list l, in a block below B. -/
def IHolds (w : World) (B : Nat) (A : Option Addr) (n : Nat) (l : List Int) : Prop :=
  l.length = n ∧ Fit l ∧ (0 < n → ∃ b off, A = some ⟨b, off, none⟩ ∧ b < B ∧ ∀ i, i < n → w.cell? ⟨b, off + i, none⟩ = some (.int .i64 (l.getD i 0)))

section
variable {w w' : World} {B B' : Nat} {A : Option Addr} {n : Nat} {l : List Int}
theorem IHolds.nil_ (w : World) (B : Nat) : IHolds w B none 0 [] := ⟨rfl, by simp [Fit], fun h => by omega⟩
theorem IHolds.keep (h : IHolds w B A n l) (hk : ∀ p : Addr, p.block < B → w'.cell? p = w.cell? p) : IHolds w' B A n l :=
  ⟨h.1, h.2.1, fun hn => by
    obtain ⟨b, off, e, hb, hc⟩ := h.2.2 hn
    exact ⟨b, off, e, hb, fun i hi => (hk ⟨b, off + i, none⟩ hb).trans (hc i hi)⟩⟩
theorem IHolds.below (h : IHolds w B A n l) (hb : Below B w w') : IHolds w' B A n l := h.keep fun _ hp => hb.cell hp
theorem IHolds.more (h : IHolds w B A n l) (hB : B ≤ B') : IHolds w B' A n l :=
  ⟨h.1, h.2.1, fun hn => by
    obtain ⟨b, off, e, hb, hc⟩ := h.2.2 hn
    exact ⟨b, off, e, by omega, hc⟩⟩
theorem IHolds.drew (h : IHolds w B A n l) : IHolds w.drew B A n l := h
theorem IHolds.drewN (h : IHolds w B A n l) (k : Nat) : IHolds (w.drewN k) B A n l := h
/-- The cell of one of them, at an address that is there. -/
theorem IHolds.at_ (h : IHolds w B A n l) {i : Nat} (hi : i < n) : ∃ b off, A = some ⟨b, off, none⟩ ∧ b < B ∧ w.cell? ⟨b, off + i, none⟩ = some (.int .i64 (l.getD i 0)) := by
  obtain ⟨b, off, e, hb, hc⟩ := h.2.2 (by omega)
  exact ⟨b, off, e, hb, hc i hi⟩
/-- A row of the call's own is such a slice. -/
theorem IHolds.of_own {base e : Nat} {v : Value} (h : w.ownsRow base e 1 v n (ivs l)) (hs : Fit l) : ∃ A c, v = .slice A n c ∧ n ≤ c ∧ (A = none → c = 0) ∧ IHolds w w.heap.size A n l := by
  have hl : l.length = n := by have := h.1; rw [ivs_len] at this; omega
  rcases h.2 with ⟨rfl, rfl⟩ | ⟨g, cap, cur, rfl, _, hg, hnc, _, _, _⟩
  · exact ⟨none, 0, rfl, Nat.le_refl _, fun _ => rfl, hl, hs, fun h => by omega⟩
  · refine ⟨some ⟨g, 0, none⟩, cap, rfl, hnc, (fun h => by cases h), hl, hs, fun hn => ⟨g, 0, rfl, ?_, fun i hi => ?_⟩⟩
    · exact (Array.getElem?_eq_some_iff.1 hg).1
    · have := h.cellAt i (by omega)
      rw [Nat.zero_add, this, ivs_get (by omega)]
end

/-- What a call hands back that makes ints: a slice of the call's own, that holds l; nothing that was there has turned. -/
def NewInts (w : World) (l : List Int) (e : Ending) (w' : World) : Prop :=
  ∃ A n c, e = .returned (.slice A n c) ∧ w'.ownsRow w.heap.size 3 1 (.slice A n c) n (ivs l) ∧ IHolds w' w'.heap.size A n l ∧ n ≤ c ∧ Below w.heap.size w w'

theorem Tryd.infoI64 : (Tryd.prog.info? 3).map (fun i => (i.zero, i.size, i.bytes)) = some (some (.int .i64 0), 1, 8) := by kernel_rfl

section
variable {P : Program} (w : World)
/-- 'append(row, l...)', the row the call's own, l whatever slice of ints. -/
theorem run_append_ints (base : Nat) (t ty e : TypeId) (i : TypeInfo) (z : Value) (ht : P.underlying t = some (.slice e)) (hi : P.info? e = some i) (hz : i.zero = some z)
    (hsize : i.size = 1) (hby : i.bytes = 8) (hzs : z.cells.size = 1)
    (v : Value) (n : Nat) (xs : List Value) (hown : w.ownsRow base e 1 v n xs)
    (B : Nat) (A : Option Addr) (m c : Nat) (l : List Int) (hl : IHolds w B A m l) (hroom : n + m ≤ 8796093022208) (hbase : base ≤ w.heap.size) :
    ∃ v' w', (Builtin.append_ #[t, t] ty #[v, .slice A m c]).run P w = .ok v' w' ∧ w'.ownsRow base e 1 v' (n + m) (xs ++ ivs l) ∧ Went w v.ownBlock w' v'.ownBlock := by
  have hlen := hl.1
  rcases A with _ | ad
  · have hm : m = 0 := by
      rcases Nat.eq_zero_or_pos m with h | h
      · exact h
      · obtain ⟨_, _, h, _⟩ := hl.2.2 h
        cases h
    subst hm
    have : l = [] := List.eq_nil_of_length_eq_zero hlen
    subst this
    refine ⟨v, w, ?_, by simpa [ivs] using hown, Went.refl w _⟩
    rcases hown.2 with ⟨rfl, rfl⟩ | ⟨g, cap, cur, rfl, _, _, hnc, _⟩
    · simp [Builtin.append_, run_underlying ht, sizeOf, typeInfo, hi, Builtin.lenOf, Builtin.firstCells]
    · simp [Builtin.append_, run_underlying ht, sizeOf, typeInfo, hi, Builtin.lenOf, Builtin.firstCells, hnc, storeCells]
  · obtain ⟨v', w', h1, h2, h3, _, h5⟩ := run_append_own_at (P := P) w base t ty e i z 1 8 ht hi hz hsize hby hzs (by omega) v n xs hown ad m c (ivs l) (by rw [ivs_len, hlen, Nat.mul_one])
      (fun j u hu => by
        have hj : j < l.length := by
          have := (List.getElem?_eq_some_iff.1 hu).1
          rwa [ivs_len] at this
        obtain ⟨b, off, h, _, hc⟩ := hl.2.2 (by omega)
        obtain rfl := Option.some.inj h
        rw [ivs_get hj] at hu
        rw [Addr.add_lit, hc j (by omega)]
        exact hu) (ivs_cell _) (by simp only [maxLen]; omega) (by omega) hbase
    exact ⟨v', w', h1, h2, .of_at h3 h5⟩

theorem wpList_append_ints {ops : Array Oper} {rest : List Oper} {o : Oper} {a : Act} {Q : Exit → Act → World → Prop} (hgd : o.guard = none) (s x : Operand) (t : TypeId)
    (ho : o.op = .call { callee := .builtin .append, args := #[s, x], argTypes := #[t, t] })
    (base : Nat) (e : TypeId) (i : TypeInfo) (z : Value) (ht : P.underlying t = some (.slice e)) (hi : P.info? e = some i) (hz : i.zero = some z)
    (hsize : i.size = 1) (hby : i.bytes = 8) (hzs : z.cells.size = 1)
    (v : Value) (n : Nat) (xs : List Value) (hs : a.eval s = v) (hown : w.ownsRow base e 1 v n xs)
    (B : Nat) (A : Option Addr) (m c : Nat) (l : List Int) (hx : a.eval x = .slice A m c) (hl : IHolds w B A m l) (hroom : n + m ≤ 8796093022208) (hbase : base ≤ w.heap.size)
    (h : ∀ v' w', w'.ownsRow base e 1 v' (n + m) (xs ++ ivs l) → Went w v.ownBlock w' v'.ownBlock → wpList P ops Q rest (a.put o.dst v') w') : wpList P ops Q (o :: rest) a w := by
  refine wpList_plain hgd fun K hK => ?_
  obtain ⟨v', w', hr, h2, h3⟩ := run_append_ints (P := P) w base t o.type e i z ht hi hz hsize hby hzs v n xs hown B A m c l hl hroom hbase
  unfold Oper.wp execOp
  simp only [ho, resolve, invoke, builtin, Sem.run_bind, Sem.run_pure, Result.andThen_ok, List.map_toArray, List.map_cons, List.map_nil, hs, hx, hr]
  exact hK _ _ (h v' w' h2 h3)
end

/-- A row of ints of the call's own: where it lies, its cells, a cell that is written. -/
theorem iown_at {w : World} {base e n : Nat} {v : Value} {xs : List Value} (h : w.ownsRow base e 1 v n xs) (hn : 0 < n) : ∃ g c, v = .slice (some ⟨g, 0, none⟩) n c ∧ base ≤ g ∧ g < w.heap.size ∧ n ≤ c ∧ c ≤ maxLen := by
  rcases h.2 with ⟨_, h0⟩ | ⟨g, cap, cur, hv, hb, hg, hnc, hm, _⟩
  · omega
  · exact ⟨g, cap, hv, hb, lt_of_block hg, hnc, hm⟩
theorem iown_cell {w : World} {base e g n c : Nat} {l : List Int} (h : w.ownsRow base e 1 (.slice (some ⟨g, 0, none⟩) n c) n (ivs l)) {i : Nat} (hi : i < n) : w.cell? ⟨g, i, none⟩ = some (.int .i64 (l.getD i 0)) := by
  have hl : l.length = n := by have := h.1; rw [ivs_len] at this; omega
  have h1 := h.cellAt i (by omega)
  rw [h1, ivs_get (by omega)]
theorem iown_free {w : World} {base e g n c : Nat} {xs : List Value} (h : w.ownsRow base e 1 (.slice (some ⟨g, 0, none⟩) n c) n xs) (i : Nat) : w.frozen? ⟨g, i, none⟩ = false := by
  rcases h.2 with ⟨h0, _⟩ | ⟨g', cap, cur, hv, hb, hg, _⟩
  · cases h0
  · simp only [Value.slice.injEq, Option.some.injEq, Addr.mk.injEq, and_true, true_and] at hv
    obtain ⟨rfl, _⟩ := hv
    simp [World.frozen?, hg]
theorem iown_set {w : World} {base e g n c : Nat} {l : List Int} (h : w.ownsRow base e 1 (.slice (some ⟨g, 0, none⟩) n c) n (ivs l)) (i : Nat) (x : Int) :
    (w.setCell ⟨g, i, none⟩ (.int .i64 x)).ownsRow base e 1 (.slice (some ⟨g, 0, none⟩) n c) n (ivs (l.set i x)) ∧ w.grownBy (w.setCell ⟨g, i, none⟩ (.int .i64 x)) (some g) := by
  have h1 := h.stored i (.int .i64 x)
  rw [ivs_set]
  exact h1
theorem own_whole {w : World} {base e g n : Nat} {xs : List Value} (h : w.ownsRow base e 1 (.slice (some ⟨g, 0, none⟩) n n) n xs) : w.heap[g]? = some (.cells xs.toArray e (0, 0)) := by
  rcases h.2 with ⟨h0, _⟩ | ⟨g', cap, cur, hv, _, hg, _, _, hs, ht⟩
  · cases h0
  · simp only [Value.slice.injEq, Option.some.injEq, Addr.mk.injEq, and_true, true_and] at hv
    obtain ⟨rfl, rfl⟩ := hv
    rw [Nat.mul_one] at hs ht
    rw [List.take_of_length_le (by simp [hs])] at ht
    rw [hg, ← ht]
theorem own_of_whole {w : World} {base e g n : Nat} {xs : List Value} (h : w.heap[g]? = some (.cells xs.toArray e (0, 0))) (hl : xs.length = n) (hb : base ≤ g) (hn : n ≤ maxLen) : w.ownsRow base e 1 (.slice (some ⟨g, 0, none⟩) n n) n xs :=
  ⟨by omega, .inr ⟨g, n, xs.toArray, rfl, hb, h, Nat.le_refl _, hn, by simp [hl], by rw [Nat.mul_one]; simp [← hl]⟩⟩
theorem splice_all {cur cs : List Value} (h : cur.length = cs.length) : splice cur 0 cs = cs := by simp [splice, ← h]

/-- 'copy(row, l)', the row made of the same length. -/
theorem wpList_copy_ints {w : World} {ops : Array Oper} {rest : List Oper} {o : Oper} {a : Act} {Q : Exit → Act → World → Prop} (hgd : o.guard = none) (d s : Operand)
    (ho : o.op = .call { callee := .builtin .copy, args := #[d, s], argTypes := #[33, 33] })
    (base g n : Nat) (A : Option Addr) (cap B : Nat) (l : List Int) (xs : List Value) (hd : a.eval d = .slice (some ⟨g, 0, none⟩) n n) (hs : a.eval s = .slice A n cap)
    (hown : w.ownsRow base 3 1 (.slice (some ⟨g, 0, none⟩) n n) n xs) (hl : IHolds w B A n l) (hg : base ≤ g) (hn : n ≤ maxLen)
    (h : ∀ w', Hid (w'.ownsRow base 3 1 (.slice (some ⟨g, 0, none⟩) n n) n (ivs l)) → Hid (Below base w w') → wpList Tryd.prog ops Q rest (a.put o.dst (goInt n)) w') : wpList Tryd.prog ops Q (o :: rest) a w := by
  obtain ⟨i0, hi, hz0, hz1, hz2⟩ := info_parts Tryd.infoI64
  have hsz : (Tryd.prog.info? 3).map (·.size) = some 1 := by rw [hi, ← hz1]; rfl
  have hlen : (ivs l).length = n := by rw [ivs_len, hl.1]
  have hxs : xs.length = n := by have := hown.1; omega
  refine wpList_copy_splice hgd d s 33 33 ho 3 Tryd.underlying33 hsz (some ⟨g, 0, none⟩) A n n n cap hd hs g 0 xs 3 (own_whole hown) (ivs l) (by rw [hlen]; simp) (fun h0 => ?_) (by omega) (ivs_cell _) base w (Below.refl _ _) hg (fun w' h1 h2 => ?_)
  · rw [hlen] at h0
    obtain ⟨b, off, e1, _, hc⟩ := hl.2.2 h0
    refine ⟨rfl, _, e1, fun j u hu => ?_⟩
    have hj : j < l.length := by
      have := (List.getElem?_eq_some_iff.1 hu).1
      rwa [ivs_len] at this
    rw [ivs_get hj] at hu
    rw [Addr.add_lit, ← hu]
    exact hc j (by have := hl.1; omega)
  · rw [hlen]
    refine h w' ?_ h2
    have h3 := h1.out
    rw [splice_all (by omega)] at h3
    exact own_of_whole h3 hlen hg hn
end Go.Proofs.YtehiaeihkdfclaaDoor
/- The walk over droverref01.Ints: are two lists of ints the same? -/
namespace Go.Proofs.YtehiaeihkdfclaaDoor
open Go.RowKit

/-- Are they the same? -/
def eqI (l m : List Int) : Bool := decide (l = m)
theorem eqI_self (l : List Int) : eqI l l = true := by simp [eqI]
theorem eqI_len {l m : List Int} (h : l.length ≠ m.length) : false = eqI l m := by
  unfold eqI
  symm
  rw [decide_eq_false_iff_not]
  intro e
  exact h (congrArg List.length e)
theorem eqI_no {l m : List Int} {i : Nat} (h : l.getD i 0 ≠ m.getD i 0) : false = eqI l m := by
  unfold eqI
  symm
  rw [decide_eq_false_iff_not]
  intro e
  exact h (by rw [e])
def SameUp (l m : List Int) (k : Nat) : Prop := ∀ i, i < k → l.getD i 0 = m.getD i 0
theorem SameUp.zero (l m : List Int) : SameUp l m 0 := fun i hi => by omega
theorem SameUp.next {l m : List Int} {k : Nat} (h : SameUp l m k) (he : l.getD k 0 = m.getD k 0) : SameUp l m (k + 1) := fun i hi => by
  by_cases hk : i = k
  · rw [hk, he]
  · exact h i (by omega)
theorem SameUp.all {l m : List Int} {k : Nat} (h : SameUp l m k) (h1 : l.length = k) (h2 : m.length = k) : true = eqI l m := by
  unfold eqI
  symm
  rw [decide_eq_true_eq]
  apply List.ext_getElem (by omega)
  intro i hi1 hi2
  have := h i (by omega)
  simpa [List.getD, hi1, hi2] using this

set_option maxHeartbeats 400000 in
theorem refints_any (A A2 : Option Addr) (n c m c2 B B2 : Nat) (l l2 : List Int) (w : World) (hl : IHolds w B A n l) (hl2 : IHolds w B2 A2 m l2) (hn : n ≤ 1099511627000) (hm : m ≤ 1099511627000) :
    Calls Tryd.prog 53 #[.slice A n c, .slice A2 m c2] w fun e w' => e = .returned (.bool (eqI l l2)) ∧ ∃ q, w' = w.drewN q := by
  have H1 := hide hl
  have H2 := hide hl2
  clear hl hl2
  by_cases hnm : n = m
  · subst hnm
    have ht : ((n : Int) != (n : Int)) = false := by simp
    go_enter Tryd.func53, Tryd.ntmps53
    go_wp2
    go_loopw [13] (fun i wr => ∃ k : Nat, k ≤ n ∧ i = .int .i64 (k : Int) ∧ SameUp l l2 k ∧ ∃ q, wr = w.drewN q) (fun i _ => n - (intOf i).toNat)
    case atStart => exact ⟨0, by omega, rfl, SameUp.zero _ _, 0, rfl⟩
    case round =>
      obtain ⟨k, hk, rfl, hup, q, rfl⟩ := hrel
      have HU := hide hup
      clear hup
      by_cases hkn : k < n
      · obtain ⟨b, off, rfl, _, hc⟩ := H1.out.at_ hkn
        obtain ⟨b2, off2, rfl, _, hc2⟩ := H2.out.at_ hkn
        obtain ⟨x, hx⟩ : ∃ x, x = l.getD k 0 := ⟨_, rfl⟩
        obtain ⟨y, hy⟩ : ∃ y, y = l2.getD k 0 := ⟨_, rfl⟩
        rw [← hx] at hc
        rw [← hy] at hc2
        have HX := hide hx
        have HY := hide hy
        clear hx hy
        by_cases he : x = y
        · subst he
          have ht2 : (x != x) = false := by simp
          go_wp2
          go_quiet (fail)
          go_wp2
          go_roundw
          case rel => exact ⟨k + 1, by omega, by go_num, HU.out.next (by rw [← HX.out, ← HY.out]), _, rfl⟩
          case measure => simp [intOf]; omega
        · have ht2 : (x != y) = true := by simpa using he
          have HE : Hid (l.getD k 0 ≠ l2.getD k 0) := by rw [← HX.out, ← HY.out]; exact he
          clear he
          go_wp2
          go_quiet (fail)
          go_wp2
          go_ret
          exact ⟨ret_bool (eqI_no HE.out), _, World.drewN_drewN _ _ _⟩
      · go_wp2
        go_ret
        exact ⟨ret_bool (HU.out.all (by have := H1.out.1; omega) (by have := H2.out.1; omega)), _, rfl⟩
  · have ht : ((n : Int) != (m : Int)) = true := by simp; omega
    go_enter Tryd.func53, Tryd.ntmps53
    go_wp2
    go_ret
    exact ⟨ret_bool (eqI_len (by rw [H1.out.1, H2.out.1]; exact hnm)), 0, rfl⟩
end Go.Proofs.YtehiaeihkdfclaaDoor
/- droverref01.Ints at two lists of incarnations; slices.Equal at them, and at steps. -/
namespace Go.Proofs.YtehiaeihkdfclaaDoor
open Go.RowKit

set_option maxHeartbeats 1000000 in
theorem same_incs (F G : Nat → Prop) (v v2 : Value) (l m : List Int) (w : World) (hl : IncsAt F w v l) (hm : IncsAt G w v2 m) :
    Calls Tryd.prog 53 #[v, v2] w fun e w' => e = .returned (.bool (decide (l = m))) ∧ ∃ q, w' = w.drewN q := by
  obtain ⟨A, c, rfl, h1, h2, _⟩ := FlatAt.shape hl
  obtain ⟨A2, c2, rfl, h3, h4, _⟩ := FlatAt.shape hm
  unfold maxLen at h2 h4
  obtain ⟨n, hn⟩ : ∃ n, l.length = n := ⟨_, rfl⟩
  obtain ⟨n2, hn2⟩ : ∃ n2, m.length = n2 := ⟨_, rfl⟩
  rw [hn] at h1 hl ⊢
  rw [hn2] at h3 hm ⊢
  have H1 := hide hl
  have H2 := hide hm
  have HN := hide hn
  have HN2 := hide hn2
  clear hl hm hn hn2
  by_cases hnm : n = n2
  · subst hnm
    have ht : ((n : Int) != (n : Int)) = false := by simp
    go_enter Tryd.func53, Tryd.ntmps53
    go_wp2
    go_loopw [13] (fun i wr => ∃ k : Nat, k ≤ n ∧ i = .int .i64 (k : Int) ∧ Alike l m k ∧ ∃ q, wr = w.drewN q) (fun i _ => n - (intOf i).toNat)
    case atStart => exact ⟨0, by omega, rfl, Alike.zero _ _, 0, rfl⟩
    case round =>
      obtain ⟨k, hk, rfl, hup, q, rfl⟩ := hrel
      have HU := hide hup
      clear hup
      by_cases hkn : k < n
      · obtain ⟨x, b, off, c', hx, hv, _, _, _, hr⟩ := IncsAt.at_ H1.out (i := k) (by rw [HN.out]; exact hkn)
        rw [HN.out] at hv
        obtain ⟨rfl, rfl⟩ : A = some ⟨b, off, none⟩ ∧ c = c' := by injection hv with e1 _ e3; exact ⟨e1, e3⟩
        obtain ⟨y, b2, off2, c2', hy, hv2, _, _, _, hr2⟩ := IncsAt.at_ H2.out (i := k) (by rw [HN2.out]; exact hkn)
        rw [HN2.out] at hv2
        obtain ⟨rfl, rfl⟩ : A2 = some ⟨b2, off2, none⟩ ∧ c2 = c2' := by injection hv2 with e1 _ e3; exact ⟨e1, e3⟩
        have HX := hide hx
        have HY := hide hy
        clear hx hy hv hv2
        by_cases he : x = y
        · subst he
          have ht2 : (x != x) = false := by simp
          go_wp2
          go_quiet (fail)
          go_wp2
          go_roundw
          case rel => exact ⟨k + 1, by omega, by go_num, HU.out.next (HX.out.trans HY.out.symm), _, rfl⟩
          case measure => simp [intOf]; omega
        · have ht2 : (x != y) = true := by simpa using he
          have HE := hide (ne_at HX.out HY.out he)
          clear he
          go_wp2
          go_quiet (fail)
          go_wp2
          go_ret
          exact ⟨ret_bool (by simp [HE.out]), _, World.drewN_drewN _ _ _⟩
      · go_wp2
        go_ret
        exact ⟨ret_bool (by simp [HU.out.all (by have := HN.out; omega) (by have := HN2.out; omega)]), _, rfl⟩
  · have ht : ((n : Int) != (n2 : Int)) = true := by simp; omega
    have HE : Hid (l ≠ m) := by
      rintro rfl
      exact hnm (HN.out.symm.trans HN2.out)
    go_enter Tryd.func53, Tryd.ntmps53
    go_wp2
    go_ret
    exact ⟨ret_bool (by simp [HE.out]), 0, rfl⟩
end Go.Proofs.YtehiaeihkdfclaaDoor
/- What == and != give at replies and commands. -/
namespace Go.Proofs.YtehiaeihkdfclaaDoor
open Go.RowKit

theorem eql_reply (a b c d a' b' c' d' : Int) (w : World) : (binOp .eql 29 (.agg ([.int .i64 a, .int .i64 b, .int .i64 c, .int .i64 d]).toArray) (.agg ([.int .i64 a', .int .i64 b', .int .i64 c', .int .i64 d']).toArray)).run Tryd.prog w = .ok (.bool (decide (a = a' ∧ b = b' ∧ c = c' ∧ d = d'))) w := by
  have u3 := Tryd.underlying3
  have u4 := Tryd.underlying4
  have u9 := Tryd.underlying9
  have u34 := Tryd.underlying27
  have hS : Tryd.prog.underlying 29 = some (.struct (Tryd.prog.fieldsOf 29)) := by kernel_rfl
  have hp : Tryd.prog.stoodInHeld 29 = false := by kernel_rfl
  skip
  rw [run_eql_struct, show (10000 : Nat) = 9999 + 1 from rfl, run_equalIn_struct w 9999 29 _ _ hS hp]
  simp only [Program.fieldsOf, Tryd.underlying29]
  go_simp
  by_cases h0 : a = a' <;> by_cases h1 : b = b' <;> by_cases h2 : c = c' <;> by_cases h3 : d = d' <;> simp [h0, h1, h2, h3]

theorem neq_reply (a b c d a' b' c' d' : Int) (w : World) : (binOp .neq 29 (.agg ([.int .i64 a, .int .i64 b, .int .i64 c, .int .i64 d]).toArray) (.agg ([.int .i64 a', .int .i64 b', .int .i64 c', .int .i64 d']).toArray)).run Tryd.prog w = .ok (.bool (!decide (a = a' ∧ b = b' ∧ c = c' ∧ d = d'))) w := by
  have u3 := Tryd.underlying3
  have u4 := Tryd.underlying4
  have u9 := Tryd.underlying9
  have u34 := Tryd.underlying27
  have hS : Tryd.prog.underlying 29 = some (.struct (Tryd.prog.fieldsOf 29)) := by kernel_rfl
  have hp : Tryd.prog.stoodInHeld 29 = false := by kernel_rfl
  skip
  rw [run_neq_struct, show (10000 : Nat) = 9999 + 1 from rfl, run_equalIn_struct w 9999 29 _ _ hS hp]
  simp only [Program.fieldsOf, Tryd.underlying29]
  go_simp
  by_cases h0 : a = a' <;> by_cases h1 : b = b' <;> by_cases h2 : c = c' <;> by_cases h3 : d = d' <;> simp [h0, h1, h2, h3]

theorem eql_command (a b c d e a' b' c' d' e' : Int) (f f' : Bool) (w : World) : (binOp .eql 31 (.agg ([.int .i64 a, .int .i64 b, .int .i64 c, .int .i64 d, .int .i64 e, .bool f]).toArray) (.agg ([.int .i64 a', .int .i64 b', .int .i64 c', .int .i64 d', .int .i64 e', .bool f']).toArray)).run Tryd.prog w = .ok (.bool (decide (a = a' ∧ b = b' ∧ c = c' ∧ d = d' ∧ e = e' ∧ f = f'))) w := by
  have u3 := Tryd.underlying3
  have u4 := Tryd.underlying4
  have u9 := Tryd.underlying9
  have u34 := Tryd.underlying27
  have hS : Tryd.prog.underlying 31 = some (.struct (Tryd.prog.fieldsOf 31)) := by kernel_rfl
  have hp : Tryd.prog.stoodInHeld 31 = false := by kernel_rfl
  skip
  rw [run_eql_struct, show (10000 : Nat) = 9999 + 1 from rfl, run_equalIn_struct w 9999 31 _ _ hS hp]
  simp only [Program.fieldsOf, Tryd.underlying31]
  go_simp
  by_cases h0 : a = a' <;> by_cases h1 : b = b' <;> by_cases h2 : c = c' <;> by_cases h3 : d = d' <;> by_cases h4 : e = e' <;> by_cases h5 : f = f' <;> simp [h0, h1, h2, h3, h4, h5]

theorem neq_command (a b c d e a' b' c' d' e' : Int) (f f' : Bool) (w : World) : (binOp .neq 31 (.agg ([.int .i64 a, .int .i64 b, .int .i64 c, .int .i64 d, .int .i64 e, .bool f]).toArray) (.agg ([.int .i64 a', .int .i64 b', .int .i64 c', .int .i64 d', .int .i64 e', .bool f']).toArray)).run Tryd.prog w = .ok (.bool (!decide (a = a' ∧ b = b' ∧ c = c' ∧ d = d' ∧ e = e' ∧ f = f'))) w := by
  have u3 := Tryd.underlying3
  have u4 := Tryd.underlying4
  have u9 := Tryd.underlying9
  have u34 := Tryd.underlying27
  have hS : Tryd.prog.underlying 31 = some (.struct (Tryd.prog.fieldsOf 31)) := by kernel_rfl
  have hp : Tryd.prog.stoodInHeld 31 = false := by kernel_rfl
  skip
  rw [run_neq_struct, show (10000 : Nat) = 9999 + 1 from rfl, run_equalIn_struct w 9999 31 _ _ hS hp]
  simp only [Program.fieldsOf, Tryd.underlying31]
  go_simp
  by_cases h0 : a = a' <;> by_cases h1 : b = b' <;> by_cases h2 : c = c' <;> by_cases h3 : d = d' <;> by_cases h4 : e = e' <;> by_cases h5 : f = f' <;> simp [h0, h1, h2, h3, h4, h5]

end Go.Proofs.YtehiaeihkdfclaaDoor
/- The document's Same. -/
namespace Go.Proofs.YtehiaeihkdfclaaDoor
open Go.RowKit

theorem msg_iff (x y : MsgD) : x = y ↔ (x.kind = y.kind ∧ x.src = y.src ∧ x.dst = y.dst ∧ x.view = y.view ∧ x.last = y.last ∧ x.num = y.num ∧ x.commit = y.commit ∧ x.nonce = y.nonce ∧ x.request = y.request) ∧ x.lead = y.lead ∧ x.good = y.good ∧ x.fenced = y.fenced ∧ x.op = y.op ∧
    (x.rerr = y.rerr ∧ x.rsaga = y.rsaga ∧ x.rstate = y.rstate ∧ x.rstep = y.rstep) ∧ (x.cview = y.cview ∧ x.cstub = y.cstub ∧ x.csaga = y.csaga ∧ x.cstep = y.cstep ∧ x.ctry = y.ctry ∧ x.cback = y.cback) ∧ x.ops = y.ops ∧ x.incs = y.incs := by
  cases x
  cases y
  simp [and_assoc]

set_option maxHeartbeats 4000000 in
set_option maxRecDepth 100000 in
theorem same_any (F G : Nat → Prop) (s o i s2 o2 i2 : Value) (x y : MsgD) (w : World) (hl : Lists F w x s o i) (hm : Lists G w y s2 o2 i2) :
    Calls Tryd.prog 27 #[.agg (x.cells s o i).toArray, .agg (y.cells s2 o2 i2).toArray] w fun e w' => e = .returned (.bool (decide (x = y))) ∧ Below w.heap.size w w' := by
  obtain ⟨q0, h0⟩ : ∃ q, (x.kind != y.kind) = q := ⟨_, rfl⟩
  obtain ⟨q1, h1⟩ : ∃ q, (x.src != y.src) = q := ⟨_, rfl⟩
  obtain ⟨q2, h2⟩ : ∃ q, (x.dst != y.dst) = q := ⟨_, rfl⟩
  obtain ⟨q3, h3⟩ : ∃ q, (x.view != y.view) = q := ⟨_, rfl⟩
  obtain ⟨q4, h4⟩ : ∃ q, (x.last != y.last) = q := ⟨_, rfl⟩
  obtain ⟨q5, h5⟩ : ∃ q, (x.num != y.num) = q := ⟨_, rfl⟩
  obtain ⟨q6, h6⟩ : ∃ q, (x.commit != y.commit) = q := ⟨_, rfl⟩
  obtain ⟨q7, h7⟩ : ∃ q, (x.nonce != y.nonce) = q := ⟨_, rfl⟩
  obtain ⟨q8, h8⟩ : ∃ q, (x.request != y.request) = q := ⟨_, rfl⟩
  obtain ⟨q9, h9⟩ : ∃ q, (x.lead == y.lead) = q := ⟨_, rfl⟩
  obtain ⟨q10, h10⟩ : ∃ q, (x.good == y.good) = q := ⟨_, rfl⟩
  obtain ⟨q11, h11⟩ : ∃ q, (x.fenced == y.fenced) = q := ⟨_, rfl⟩
  obtain ⟨q12, h12⟩ : ∃ q, decide (x.op = y.op) = q := ⟨_, rfl⟩
  obtain ⟨q13, h13⟩ : ∃ q, decide (x.rerr = y.rerr ∧ x.rsaga = y.rsaga ∧ x.rstate = y.rstate ∧ x.rstep = y.rstep) = q := ⟨_, rfl⟩
  obtain ⟨q14, h14⟩ : ∃ q, decide (x.cview = y.cview ∧ x.cstub = y.cstub ∧ x.csaga = y.csaga ∧ x.cstep = y.cstep ∧ x.ctry = y.ctry ∧ x.cback = y.cback) = q := ⟨_, rfl⟩
  obtain ⟨q15, h15⟩ : ∃ q, decide (x.ops = y.ops) = q := ⟨_, rfl⟩
  obtain ⟨q16, h16⟩ : ∃ q, decide (x.incs = y.incs) = q := ⟨_, rfl⟩
  have HALL : Hid (decide (x = y) = ((!q0 && (!q1 && (!q2 && (!q3 && (!q4 && (!q5 && (!q6 && (!q7 && (!q8))))))))) && (q9 && (q10 && (q11 && (q12 && (q13 && (q14 && (q15 && (q16)))))))))) := by
    show _ = _
    rw [← h0, ← h1, ← h2, ← h3, ← h4, ← h5, ← h6, ← h7, ← h8, ← h9, ← h10, ← h11, ← h12, ← h13, ← h14, ← h15, ← h16, Bool.eq_iff_iff, decide_eq_true_eq, msg_iff]
    simp [bne]
  have C1 := hide (fun w' (hb : Later w w') => same_op F G s s2 x.op y.op w' (hl.1.kept (Kept.of_below hb F)) (hm.1.kept (Kept.of_below hb G)))
  have C2 := hide (fun w' (hb : Later w w') => same_ops F G o o2 x.ops y.ops w' (hl.2.1.kept (Kept.of_below hb F)) (hm.2.1.kept (Kept.of_below hb G)))
  have C3 := hide (fun w' (hb : Later w w') => same_incs F G i i2 x.incs y.incs w' (hl.2.2.kept (Kept.of_below hb F)) (hm.2.2.kept (Kept.of_below hb G)))
  rw [h12] at C1
  rw [h15] at C2
  rw [h16] at C3
  have hr := fun w => eql_reply x.rerr x.rsaga x.rstate x.rstep y.rerr y.rsaga y.rstate y.rstep w
  have hc := fun w => eql_command x.cview x.cstub x.csaga x.cstep x.ctry y.cview y.cstub y.csaga y.cstep y.ctry x.cback y.cback w
  rw [h13] at hr
  rw [h14] at hc
  clear h12 h13 h14 h15 h16
  obtain ⟨k1, k2, k3⟩ := hl.cell
  obtain ⟨j1, j2, j3⟩ := hm.cell
  clear hl hm
  have hbw : Below w.heap.size w ((w.alloc (.cells (x.cells s o i).toArray 35 (0, 0))).alloc (.cells (y.cells s2 o2 i2).toArray 35 (0, 0))) := ((Below.refl _ _).alloc (Nat.le_refl _) _).alloc (by simp) _
  have HBW := hide hbw
  have B1 : Hid (∀ w' : World, Below (w.heap.size + 2) ((w.alloc (.cells (x.cells s o i).toArray 35 (0, 0))).alloc (.cells (y.cells s2 o2 i2).toArray 35 (0, 0))) w' → w'.heap[w.heap.size]? = some (.cells (x.cells s o i).toArray 35 (0, 0)) ∧ w'.heap[w.heap.size + 1]? = some (.cells (y.cells s2 o2 i2).toArray 35 (0, 0))) := fun w' hb =>
    ⟨(hb.block _ (by omega)).trans ((Below.block ((Below.refl _ _).alloc (Nat.le_refl _) _) w.heap.size (by simp)).trans (heap_alloc_new w _)), (hb.block _ (by omega)).trans (heap_alloc2_new w _ _)⟩
  clear hbw
  unfold MsgD.cells at HBW B1
  unfold MsgD.cells
  unfold OpD.cells at C1
  go_enter Tryd.func27, Tryd.ntmps27
  go_wp2_with (fail)
  all_goals (try (go_ret; exact ⟨ret_bool (by rw [HALL.out]; simp [*]), HBW.out⟩))
  refine (C1.out _ HBW.out).mono ?_
  rintro e w1 ⟨rfl, hb1⟩
  have HB1 := hide (HBW.out.trans (hb1.mono HBW.out.size))
  have hb1' : Below (w.heap.size + 2) _ w1 := hb1.mono (by simp)
  have HC1 := hide hb1'
  obtain ⟨hx, hy⟩ := B1.out w1 hb1'
  obtain ⟨x0, x1, x2, x3, x4, x5, x6, x7, x8, x9, x10, x11, x12, x13, x14, x15, x16, x17, x18, x19, x20, x21, x22, x23, x24, x25, x26, x27, x28, x29, x30, x31, x32, x33⟩ := box34 hx
  obtain ⟨y0, y1, y2, y3, y4, y5, y6, y7, y8, y9, y10, y11, y12, y13, y14, y15, y16, y17, y18, y19, y20, y21, y22, y23, y24, y25, y26, y27, y28, y29, y30, y31, y32, y33⟩ := box34 hy
  clear hb1 hb1' hx hy x0 y0 x1 y1 x2 y2 x3 y3 x4 y4 x5 y5 x6 y6 x7 y7 x8 y8 x9 y9 x10 y10 x11 y11 x12 y12 x13 y13 x14 y14 x15 y15 x16 y16 x17 y17 x18 y18 x19 y19 x20 y20 x21 y21
  go_wp2_with (fail)
  all_goals (try (go_ret; exact ⟨ret_bool (by rw [HALL.out]; simp [*]), HB1.out⟩))
  clear x22 y22 x23 y23 x24 y24 x25 y25 x26 y26 x27 y27 x28 y28 x29 y29 x30 y30 x31 y31 x32 y32 x33 y33
  refine (C2.out _ HB1.out).mono ?_
  rintro e w2 ⟨rfl, hb2⟩
  have HB2 := hide (HB1.out.trans (hb2.mono HB1.out.size))
  have hs1 : w.heap.size + 2 ≤ w1.heap.size := by
    have := HC1.out.size
    simpa using this
  obtain ⟨hx, hy⟩ := B1.out w2 (HC1.out.trans (hb2.mono hs1))
  obtain ⟨x0, x1, x2, x3, x4, x5, x6, x7, x8, x9, x10, x11, x12, x13, x14, x15, x16, x17, x18, x19, x20, x21, x22, x23, x24, x25, x26, x27, x28, x29, x30, x31, x32, x33⟩ := box34 hx
  obtain ⟨y0, y1, y2, y3, y4, y5, y6, y7, y8, y9, y10, y11, y12, y13, y14, y15, y16, y17, y18, y19, y20, y21, y22, y23, y24, y25, y26, y27, y28, y29, y30, y31, y32, y33⟩ := box34 hy
  clear hb2 hs1 hx hy x0 y0 x1 y1 x2 y2 x3 y3 x4 y4 x5 y5 x6 y6 x7 y7 x8 y8 x9 y9 x10 y10 x11 y11 x12 y12 x13 y13 x14 y14 x15 y15 x16 y16 x17 y17 x18 y18 x19 y19 x20 y20 x21 y21 x22 y22 x23 y23 x24 y24 x25 y25 x26 y26 x27 y27 x28 y28 x29 y29 x30 y30 x31 y31 x32 y32
  go_wp2_with (fail)
  all_goals (try (go_ret; exact ⟨ret_bool (by rw [HALL.out]; simp [*]), HB2.out⟩))
  refine (C3.out _ HB2.out).mono ?_
  rintro e w3 ⟨rfl, q, rfl⟩
  go_wp2_with (fail)
  go_ret
  exact ⟨ret_bool (by rw [HALL.out]; simp [*]), HB2.out.trans (below_drewN _ _ _)⟩
end Go.Proofs.YtehiaeihkdfclaaDoor
/- A long chain of '&&' over fields of two structs, one conjunct at a time: the frame is known by four of its slots alone. -/
namespace Go.Proofs.YtehiaeihkdfclaaDoor
open Go.RowKit

/-- The frame: two addresses in slots 2 and 3, and what holds so far in slot k. -/
structure Fr (X Y : Value) (k : Nat) (c : Bool) (n : Nat) (a : Act) : Prop where
  x : a.tmps[2]? = some X
  y : a.tmps[3]? = some Y
  c : a.tmps[k]? = some (.bool c)
  n : a.tmps.size = n
  d : a.defers = []
theorem put_tmps (a : Act) (d : Nat) (v : Value) (i : Nat) : (a.put (some d) v).tmps[i]? = if d = i then (if i < a.tmps.size then some v else none) else a.tmps[i]? := by
  show (a.tmps.setIfInBounds d v)[i]? = _
  rw [Array.getElem?_setIfInBounds]
  by_cases h : d = i
  · subst h
    simp
  · simp [h]
theorem put_same (a : Act) (d : Nat) (v : Value) (h : d < a.tmps.size) : (a.put (some d) v).tmps[d]? = some v := by rw [put_tmps, if_pos rfl, if_pos h]
theorem put_other (a : Act) (d : Nat) (v : Value) (i : Nat) (h : d ≠ i) : (a.put (some d) v).tmps[i]? = a.tmps[i]? := by rw [put_tmps, if_neg h]
theorem put_size (a : Act) (d : Nat) (v : Value) : (a.put (some d) v).tmps.size = a.tmps.size := by simp [Act.put]
theorem eval_of {a : Act} {i : Nat} {v : Value} (h : a.tmps[i]? = some v) : a.eval (.tmp i) = v := by
  show a.tmps.getD i undef = v
  rw [Array.getD_eq_getD_getElem?, h]
  rfl
/-- The same without a word of what holds so far. -/
structure Fr0 (X Y : Value) (n : Nat) (a : Act) : Prop where
  x : a.tmps[2]? = some X
  y : a.tmps[3]? = some Y
  n : a.tmps.size = n
  d : a.defers = []
section
variable {X Y : Value} {k n : Nat} {c : Bool} {a : Act}
theorem Fr0.put (h : Fr0 X Y n a) (d : Nat) (v : Value) (h2 : d ≠ 2) (h3 : d ≠ 3) : Fr0 X Y n (a.put (some d) v) := ⟨(put_other a d v 2 h2).trans h.x, (put_other a d v 3 h3).trans h.y, (put_size a d v).trans h.n, h.d⟩
theorem Fr.put (h : Fr X Y k c n a) (d : Nat) (v : Value) (h2 : d ≠ 2) (h3 : d ≠ 3) (hk : d ≠ k) : Fr X Y k c n (a.put (some d) v) :=
  ⟨(put_other a d v 2 h2).trans h.x, (put_other a d v 3 h3).trans h.y, (put_other a d v k hk).trans h.c, (put_size a d v).trans h.n, h.d⟩
variable {P : Program} {ops : Array Oper} {Q : Exit → Act → World → Prop} {rest : List Oper} {w : World}
theorem wpList_val {o : Oper} {d : Nat} {v : Value} {w' : World} (hd : o.dst = some d) (hw : Region.wanted o (yielded ops a.tmps) = true) (hx : (execOp a.eval o).run P w = .ok (.value v) w')
    (h : wpList P ops Q rest (a.put (some d) v) w') : wpList P ops Q (o :: rest) a w := by
  refine wpList_step fun K hK => ?_
  rw [if_pos hw]
  unfold Oper.wp
  rw [hx, Oper.upon_value, hd]
  exact hK _ _ h
theorem want_true {o : Oper} {j : Nat} {k : Nat} (hg : o.guard = some (j, true)) (hj : (ops[j]?).bind (·.dst) = some k) (hk : a.tmps[k]? = some (.bool true)) : Region.wanted o (yielded ops a.tmps) = true := by
  unfold Region.wanted yielded
  rw [hg]
  simp only [hj, Option.bind_some, hk]
  rfl
theorem want_false {o : Oper} {j : Nat} {k : Nat} (hg : o.guard = some (j, true)) (hj : (ops[j]?).bind (·.dst) = some k) (hk : a.tmps[k]? = some (.bool false)) : Region.wanted o (yielded ops a.tmps) = false := by
  unfold Region.wanted yielded
  rw [hg]
  simp only [hj, Option.bind_some, hk]
  rfl
theorem want_none {o : Oper} (hg : o.guard = none) : Region.wanted o (yielded ops a.tmps) = true := by
  unfold Region.wanted
  rw [hg]
theorem skip_one {o : Oper} {j d : Nat} (h : Fr X Y k false n a) (hj : (ops[j]?).bind (·.dst) = some k) (hd : o.dst = some d) (hg : o.guard = some (j, true)) (h2 : d ≠ 2) (h3 : d ≠ 3) (hk : d ≠ k)
    (next : ∀ a', Fr X Y k false n a' → wpList P ops Q rest a' w) : wpList P ops Q (o :: rest) a w := by
  refine wpList_skip (want_false hg hj h.c) ?_
  rw [hd]
  exact next _ (h.put d undef h2 h3 hk)

/-- One conjunct: the operations at slots s to s + 4 are wanted just if all holds so far; then the pick, then a move. -/
theorem conj {q : Bool} {s : Nat} {W : World → Prop} (j t : Nat) (h : Fr X Y k c n a) (hj : (ops[j]?).bind (·.dst) = some k) (hs : k < s) (hs3 : 3 < s) (hn : s + 6 ≤ n) (ht : 3 < t) (htn : t < n) (hW : W w)
    {o1 o2 o3 o4 o5 o6 o7 : Oper} {px py vx vy : Value}
    (g1 : o1.dst = some s ∧ o1.guard = some (j, true)) (g2 : o2.dst = some (s + 1) ∧ o2.guard = some (j, true)) (g3 : o3.dst = some (s + 2) ∧ o3.guard = some (j, true)) (g4 : o4.dst = some (s + 3) ∧ o4.guard = some (j, true)) (g5 : o5.dst = some (s + 4) ∧ o5.guard = some (j, true))
    (g6 : o6.op = .pick (.tmp k) (.tmp (s + 4)) (.const (.bool false)) ∧ o6.dst = some (s + 5) ∧ o6.guard = none) (g7 : (o7.op = .move (.tmp (s + 5)) ∨ o7.op = .assign (.tmp (s + 5))) ∧ o7.dst = some t ∧ o7.guard = none)
    (e1 : ∀ a' : Act, a'.tmps[2]? = some X → (execOp a'.eval o1).run P w = .ok (.value px) w)
    (e2 : ∀ a' : Act, a'.tmps[s]? = some px → (execOp a'.eval o2).run P w = .ok (.value vx) w)
    (e3 : ∀ a' : Act, a'.tmps[3]? = some Y → (execOp a'.eval o3).run P w = .ok (.value py) w)
    (e4 : ∀ a' : Act, a'.tmps[(s + 2)]? = some py → (execOp a'.eval o4).run P w = .ok (.value vy) w)
    (e5 : ∀ (a' : Act) (r : List Oper), a'.tmps[(s + 1)]? = some vx → a'.tmps[(s + 3)]? = some vy → Region.wanted o5 (yielded ops a'.tmps) = true → (∀ w', W w' → wpList P ops Q r (a'.put (some (s + 4)) (.bool q)) w') → wpList P ops Q (o5 :: r) a' w)
    (next : ∀ a' w', Fr X Y t (c && q) n a' → W w' → wpList P ops Q rest a' w') : wpList P ops Q (o1 :: o2 :: o3 :: o4 :: o5 :: o6 :: o7 :: rest) a w := by
  have last : ∀ (a' : Act) (w' : World) (b : Bool), Fr X Y k c n a' → (c = true → a'.tmps[s + 4]? = some (.bool q)) → W w' → wpList P ops Q (o6 :: o7 :: rest) a' w' := by
    intro a' w' b h' hq hw'
    refine wpList_val (w' := w') (v := .bool (c && q)) g6.2.1 (want_none g6.2.2) ?_ ?_
    · unfold execOp
      simp only [g6.1, eval_of h'.c]
      cases c with
      | false => rfl
      | true =>
        simp only [eval_of (hq rfl)]
        rfl
    · refine wpList_val (w' := w') (v := .bool (c && q)) g7.2.1 (want_none g7.2.2) ?_ ?_
      · unfold execOp
        rcases g7.1 with g | g <;> (simp only [g, eval_of (put_same a' (s + 5) (.bool (c && q)) (by have := h'.n; omega))]; rfl)
      · have h5 := h'.put (s + 5) (.bool (c && q)) (by omega) (by omega) (by omega)
        exact next _ _ ⟨(put_other _ t _ 2 (by omega)).trans h5.x, (put_other _ t _ 3 (by omega)).trans h5.y, put_same _ _ _ (by have := h5.n; omega), (put_size _ _ _).trans h5.n, h5.d⟩ hw'
  cases c with
  | false =>
    refine skip_one h hj g1.1 g1.2 (by omega) (by omega) (by omega) fun a1 h1 => ?_
    refine skip_one h1 hj g2.1 g2.2 (by omega) (by omega) (by omega) fun a2 h2 => ?_
    refine skip_one h2 hj g3.1 g3.2 (by omega) (by omega) (by omega) fun a3 h3 => ?_
    refine skip_one h3 hj g4.1 g4.2 (by omega) (by omega) (by omega) fun a4 h4 => ?_
    refine skip_one h4 hj g5.1 g5.2 (by omega) (by omega) (by omega) fun a5 h5 => ?_
    exact last a5 w false h5 (fun h => by cases h) hW
  | true =>
    have sz := h.n
    refine wpList_val g1.1 (want_true g1.2 hj h.c) (e1 a h.x) ?_
    have h1 := h.put s px (by omega) (by omega) (by omega)
    have t1 : (a.put (some s) px).tmps[s]? = some px := put_same a s px (by omega)
    refine wpList_val g2.1 (want_true g2.2 hj h1.c) (e2 _ t1) ?_
    have h2 := h1.put (s + 1) vx (by omega) (by omega) (by omega)
    have t2 := put_same (a.put (some s) px) (s + 1) vx (by have := h1.n; omega)
    refine wpList_val g3.1 (want_true g3.2 hj h2.c) (e3 _ h2.y) ?_
    have h3 := h2.put (s + 2) py (by omega) (by omega) (by omega)
    have t3 := put_same ((a.put (some s) px).put (some (s + 1)) vx) (s + 2) py (by have := h2.n; omega)
    have t2' := (put_other ((a.put (some s) px).put (some (s + 1)) vx) (s + 2) py (s + 1) (by omega)).trans t2
    refine wpList_val g4.1 (want_true g4.2 hj h3.c) (e4 _ t3) ?_
    have h4 := h3.put (s + 3) vy (by omega) (by omega) (by omega)
    have t4 := put_same (((a.put (some s) px).put (some (s + 1)) vx).put (some (s + 2)) py) (s + 3) vy (by have := h3.n; omega)
    have t2'' := (put_other (((a.put (some s) px).put (some (s + 1)) vx).put (some (s + 2)) py) (s + 3) vy (s + 1) (by omega)).trans t2'
    refine e5 _ _ t2'' t4 (want_true g5.2 hj h4.c) fun w' hw' => ?_
    have h5 := h4.put (s + 4) (.bool q) (by omega) (by omega) (by omega)
    exact last _ w' true h5 (fun _ => put_same _ _ _ (by have := h4.n; omega)) hw'
/-- One conjunct over fields of fields: the operations at slots s to s + 6 are wanted just if all holds so far; then the pick, then a move. -/
theorem conj2 {q : Bool} {s : Nat} {W : World → Prop} (j t : Nat) (h : Fr X Y k c n a) (hj : (ops[j]?).bind (·.dst) = some k) (hs : k < s) (hs3 : 3 < s) (hn : s + 8 ≤ n) (ht : 3 < t) (htn : t < n) (hW : W w)
    {o1 o1' o2 o3 o3' o4 o5 o6 o7 : Oper} {px px' py py' vx vy : Value}
    (g1 : o1.dst = some s ∧ o1.guard = some (j, true)) (g1' : o1'.dst = some (s + 1) ∧ o1'.guard = some (j, true)) (g2 : o2.dst = some (s + 2) ∧ o2.guard = some (j, true)) (g3 : o3.dst = some (s + 3) ∧ o3.guard = some (j, true)) (g3' : o3'.dst = some (s + 4) ∧ o3'.guard = some (j, true)) (g4 : o4.dst = some (s + 5) ∧ o4.guard = some (j, true)) (g5 : o5.dst = some (s + 6) ∧ o5.guard = some (j, true))
    (g6 : o6.op = .pick (.tmp k) (.tmp (s + 6)) (.const (.bool false)) ∧ o6.dst = some (s + 7) ∧ o6.guard = none) (g7 : (o7.op = .move (.tmp (s + 7)) ∨ o7.op = .assign (.tmp (s + 7))) ∧ o7.dst = some t ∧ o7.guard = none)
    (e1 : ∀ a' : Act, a'.tmps[2]? = some X → (execOp a'.eval o1).run P w = .ok (.value px) w)
    (e1' : ∀ a' : Act, a'.tmps[s]? = some px → (execOp a'.eval o1').run P w = .ok (.value px') w)
    (e2 : ∀ a' : Act, a'.tmps[s + 1]? = some px' → (execOp a'.eval o2).run P w = .ok (.value vx) w)
    (e3 : ∀ a' : Act, a'.tmps[3]? = some Y → (execOp a'.eval o3).run P w = .ok (.value py) w)
    (e3' : ∀ a' : Act, a'.tmps[s + 3]? = some py → (execOp a'.eval o3').run P w = .ok (.value py') w)
    (e4 : ∀ a' : Act, a'.tmps[s + 4]? = some py' → (execOp a'.eval o4).run P w = .ok (.value vy) w)
    (e5 : ∀ (a' : Act) (r : List Oper), a'.tmps[(s + 2)]? = some vx → a'.tmps[(s + 5)]? = some vy → Region.wanted o5 (yielded ops a'.tmps) = true → (∀ w', W w' → wpList P ops Q r (a'.put (some (s + 6)) (.bool q)) w') → wpList P ops Q (o5 :: r) a' w)
    (next : ∀ a' w', Fr X Y t (c && q) n a' → W w' → wpList P ops Q rest a' w') : wpList P ops Q (o1 :: o1' :: o2 :: o3 :: o3' :: o4 :: o5 :: o6 :: o7 :: rest) a w := by
  have last : ∀ (a' : Act) (w' : World) (b : Bool), Fr X Y k c n a' → (c = true → a'.tmps[s + 6]? = some (.bool q)) → W w' → wpList P ops Q (o6 :: o7 :: rest) a' w' := by
    intro a' w' b h' hq hw'
    refine wpList_val (w' := w') (v := .bool (c && q)) g6.2.1 (want_none g6.2.2) ?_ ?_
    · unfold execOp
      simp only [g6.1, eval_of h'.c]
      cases c with
      | false => rfl
      | true =>
        simp only [eval_of (hq rfl)]
        rfl
    · refine wpList_val (w' := w') (v := .bool (c && q)) g7.2.1 (want_none g7.2.2) ?_ ?_
      · unfold execOp
        rcases g7.1 with g | g <;> (simp only [g, eval_of (put_same a' (s + 7) (.bool (c && q)) (by have := h'.n; omega))]; rfl)
      · have h5 := h'.put (s + 7) (.bool (c && q)) (by omega) (by omega) (by omega)
        exact next _ _ ⟨(put_other _ t _ 2 (by omega)).trans h5.x, (put_other _ t _ 3 (by omega)).trans h5.y, put_same _ _ _ (by have := h5.n; omega), (put_size _ _ _).trans h5.n, h5.d⟩ hw'
  cases c with
  | false =>
    refine skip_one h hj g1.1 g1.2 (by omega) (by omega) (by omega) fun a1 h1 => ?_
    refine skip_one h1 hj g1'.1 g1'.2 (by omega) (by omega) (by omega) fun b1 hb1 => ?_
    refine skip_one hb1 hj g2.1 g2.2 (by omega) (by omega) (by omega) fun a2 h2 => ?_
    refine skip_one h2 hj g3.1 g3.2 (by omega) (by omega) (by omega) fun a3 h3 => ?_
    refine skip_one h3 hj g3'.1 g3'.2 (by omega) (by omega) (by omega) fun b3 hb3 => ?_
    refine skip_one hb3 hj g4.1 g4.2 (by omega) (by omega) (by omega) fun a4 h4 => ?_
    refine skip_one h4 hj g5.1 g5.2 (by omega) (by omega) (by omega) fun a5 h5 => ?_
    exact last a5 w false h5 (fun h => by cases h) hW
  | true =>
    have sz := h.n
    refine wpList_val g1.1 (want_true g1.2 hj h.c) (e1 a h.x) ?_
    have h1 := h.put s px (by omega) (by omega) (by omega)
    have t1 : (a.put (some s) px).tmps[s]? = some px := put_same a s px (by omega)
    generalize a.put (some s) px = a1 at t1 h1 ⊢
    refine wpList_val g1'.1 (want_true g1'.2 hj h1.c) (e1' _ t1) ?_
    have tb1 := put_same a1 (s + 1) px' (by have := h1.n; omega)
    have hb1 := h1.put (s + 1) px' (by omega) (by omega) (by omega)
    generalize a1.put (some (s + 1)) px' = b1 at tb1 hb1 ⊢
    refine wpList_val g2.1 (want_true g2.2 hj hb1.c) (e2 _ tb1) ?_
    have t2 := put_same b1 (s + 2) vx (by have := hb1.n; omega)
    have h2 := hb1.put (s + 2) vx (by omega) (by omega) (by omega)
    generalize b1.put (some (s + 2)) vx = a2 at t2 h2 ⊢
    refine wpList_val g3.1 (want_true g3.2 hj h2.c) (e3 _ h2.y) ?_
    have t3 := put_same a2 (s + 3) py (by have := h2.n; omega)
    have u3 := (put_other a2 (s + 3) py (s + 2) (by omega)).trans t2
    have h3 := h2.put (s + 3) py (by omega) (by omega) (by omega)
    generalize a2.put (some (s + 3)) py = a3 at t3 u3 h3 ⊢
    refine wpList_val g3'.1 (want_true g3'.2 hj h3.c) (e3' _ t3) ?_
    have tb3 := put_same a3 (s + 4) py' (by have := h3.n; omega)
    have ub3 := (put_other a3 (s + 4) py' (s + 2) (by omega)).trans u3
    have hb3 := h3.put (s + 4) py' (by omega) (by omega) (by omega)
    generalize a3.put (some (s + 4)) py' = b3 at tb3 ub3 hb3 ⊢
    refine wpList_val g4.1 (want_true g4.2 hj hb3.c) (e4 _ tb3) ?_
    have t4 := put_same b3 (s + 5) vy (by have := hb3.n; omega)
    have u4 := (put_other b3 (s + 5) vy (s + 2) (by omega)).trans ub3
    have h4 := hb3.put (s + 5) vy (by omega) (by omega) (by omega)
    generalize b3.put (some (s + 5)) vy = a4 at t4 u4 h4 ⊢
    refine e5 _ _ u4 t4 (want_true g5.2 hj h4.c) fun w' hw' => ?_
    have h5 := h4.put (s + 6) (.bool q) (by omega) (by omega) (by omega)
    exact last _ w' true h5 (fun _ => put_same _ _ _ (by have := h4.n; omega)) hw'
/-- The first conjunct, that is always wanted: no pick. -/
theorem conj_first {q : Bool} {s : Nat} (hx : a.tmps[2]? = some X) (hy : a.tmps[3]? = some Y) (hsz : a.tmps.size = n) (hd : a.defers = []) (hs3 : 3 < s) (hn : s + 5 < n)
    {o1 o2 o3 o4 o5 o6 : Oper} {px py vx vy : Value}
    (g1 : o1.dst = some s ∧ o1.guard = none) (g2 : o2.dst = some (s + 1) ∧ o2.guard = none) (g3 : o3.dst = some (s + 2) ∧ o3.guard = none) (g4 : o4.dst = some (s + 3) ∧ o4.guard = none) (g5 : o5.dst = some (s + 4) ∧ o5.guard = none)
    (g6 : o6.op = .move (.tmp (s + 4)) ∧ o6.dst = some (s + 5) ∧ o6.guard = none)
    (e1 : ∀ a' : Act, a'.tmps[2]? = some X → (execOp a'.eval o1).run P w = .ok (.value px) w)
    (e2 : ∀ a' : Act, a'.tmps[s]? = some px → (execOp a'.eval o2).run P w = .ok (.value vx) w)
    (e3 : ∀ a' : Act, a'.tmps[3]? = some Y → (execOp a'.eval o3).run P w = .ok (.value py) w)
    (e4 : ∀ a' : Act, a'.tmps[(s + 2)]? = some py → (execOp a'.eval o4).run P w = .ok (.value vy) w)
    (e5 : ∀ a' : Act, a'.tmps[(s + 1)]? = some vx → a'.tmps[(s + 3)]? = some vy → (execOp a'.eval o5).run P w = .ok (.value (.bool q)) w)
    (next : ∀ a', Fr X Y (s + 5) q n a' → wpList P ops Q rest a' w) : wpList P ops Q (o1 :: o2 :: o3 :: o4 :: o5 :: o6 :: rest) a w := by
  have h0 : Fr0 X Y n a := ⟨hx, hy, hsz, hd⟩
  refine wpList_val g1.1 (want_none g1.2) (e1 a h0.x) ?_
  have t1 := put_same a s px (by have := h0.n; omega)
  have h1 := h0.put s px (by omega) (by omega)
  generalize a.put (some s) px = a1 at t1 h1 ⊢
  refine wpList_val g2.1 (want_none g2.2) (e2 _ t1) ?_
  have t2 := put_same a1 (s + 1) vx (by have := h1.n; omega)
  have h2 := h1.put (s + 1) vx (by omega) (by omega)
  generalize a1.put (some (s + 1)) vx = a2 at t2 h2 ⊢
  refine wpList_val g3.1 (want_none g3.2) (e3 _ h2.y) ?_
  have t3 := put_same a2 (s + 2) py (by have := h2.n; omega)
  have t2' := (put_other a2 (s + 2) py (s + 1) (by omega)).trans t2
  have h3 := h2.put (s + 2) py (by omega) (by omega)
  generalize a2.put (some (s + 2)) py = a3 at t3 t2' h3 ⊢
  refine wpList_val g4.1 (want_none g4.2) (e4 _ t3) ?_
  have t4 := put_same a3 (s + 3) vy (by have := h3.n; omega)
  have t2'' := (put_other a3 (s + 3) vy (s + 1) (by omega)).trans t2'
  have h4 := h3.put (s + 3) vy (by omega) (by omega)
  generalize a3.put (some (s + 3)) vy = a4 at t4 t2'' h4 ⊢
  refine wpList_val g5.1 (want_none g5.2) (e5 _ t2'' t4) ?_
  have t5 := put_same a4 (s + 4) (.bool q) (by have := h4.n; omega)
  have h5 := h4.put (s + 4) (.bool q) (by omega) (by omega)
  generalize a4.put (some (s + 4)) (.bool q) = a5 at t5 h5 ⊢
  refine wpList_val (w' := w) (v := .bool q) g6.2.1 (want_none g6.2.2) ?_ ?_
  · unfold execOp
    simp only [g6.1, eval_of t5]
    rfl
  · have h6 := h5.put (s + 5) (.bool q) (by omega) (by omega)
    exact next _ ⟨h6.x, h6.y, put_same _ _ _ (by have := h5.n; omega), h6.n, h6.d⟩
end
end Go.Proofs.YtehiaeihkdfclaaDoor
/- The walk over droverlaw09.NoteApart: the bytes of two good messages are the same just if they are alike. -/
namespace Go.Proofs.YtehiaeihkdfclaaDoor
open Go.RowKit

set_option maxHeartbeats 8000000 in
set_option maxRecDepth 100000 in
theorem refsame_any (F G : Nat → Prop) (s o i s2 o2 i2 : Value) (x y : MsgD) (w : World) (hl : Lists F w x s o i) (hm : Lists G w y s2 o2 i2) :
    Calls Tryd.prog 11 #[.agg (x.cells s o i).toArray, .agg (y.cells s2 o2 i2).toArray] w fun e w' => e = .returned (.bool (decide (x = y))) ∧ Later w w' := by
  have hL : Later w ((w.alloc (.cells (x.cells s o i).toArray 35 (0, 0))).alloc (.cells (y.cells s2 o2 i2).toArray 35 (0, 0))) := (Later.alloc _ _).trans (Later.alloc _ _)
  have x0 : ((w.alloc (.cells (x.cells s o i).toArray 35 (0, 0))).alloc (.cells (y.cells s2 o2 i2).toArray 35 (0, 0))).heap[w.heap.size]? = some (.cells (x.cells s o i).toArray 35 (0, 0)) := (Below.block (Later.alloc _ _) _ (by rw [World.size_alloc]; omega)).trans (heap_alloc_new w _)
  have x1 : ((w.alloc (.cells (x.cells s o i).toArray 35 (0, 0))).alloc (.cells (y.cells s2 o2 i2).toArray 35 (0, 0))).heap[w.heap.size + 1]? = some (.cells (y.cells s2 o2 i2).toArray 35 (0, 0)) := by
    have h := heap_alloc_new (w.alloc (.cells (x.cells s o i).toArray 35 (0, 0))) (.cells (y.cells s2 o2 i2).toArray 35 (0, 0))
    rwa [World.size_alloc] at h
  have C := hide (same_any F G s o i s2 o2 i2 x y _ (hl.kept (Kept.of_below hL F)) (hm.kept (Kept.of_below hL G)))
  have X0 := hide x0
  have X1 := hide x1
  have HL := hide hL
  clear hl hm hL x0 x1
  go_enter Tryd.func11, Tryd.ntmps11
  go_wp2_with (first
    | (refine wpList_load_box (by rfl) 35 _ (by rfl) w.heap.size 0 (by rfl) 35 _ X0.out 34 _ Tryd.underlying35 (by rfl) (by kernel_rfl) (x.cells s o i) (by simp [List.take_of_length_le (Nat.le_of_eq (x.len s o i))]) (x.len s o i) ?_)
    | (refine wpList_load_box (by rfl) 35 _ (by rfl) (w.heap.size + 1) 0 (by rfl) 35 _ X1.out 34 _ Tryd.underlying35 (by rfl) (by kernel_rfl) (y.cells s2 o2 i2) (by simp [List.take_of_length_le (Nat.le_of_eq (y.len s2 o2 i2))]) (y.len s2 o2 i2) ?_))
  refine C.out.mono ?_
  rintro e w1 ⟨rfl, l1⟩
  have L1 := hide (HL.out.trans (show Later _ w1 from l1))
  clear l1 C
  go_wp2
  go_ret
  exact ⟨rfl, L1.out⟩

set_option maxHeartbeats 8000000 in
set_option maxRecDepth 100000 in
theorem law_apart (a : MsgD) (sv ov iv : Value) (b : MsgD) (sv2 ov2 iv2 : Value) (w : World) (ha : Lists (· < w.heap.size) w a sv ov iv) (hwa : a.wf) (hb : Lists (· < w.heap.size) w b sv2 ov2 iv2) (hwb : b.wf) (hT : Tab w) :
    Calls Tryd.prog 4 #[.agg (a.cells sv ov iv).toArray, .agg (b.cells sv2 ov2 iv2).toArray] w fun e w' => e = .returned (.bool true) ∧ Later w w' := by
  have hL0 : Later w ((w.alloc (.cells (a.cells sv ov iv).toArray 35 (0, 0))).alloc (.cells (b.cells sv2 ov2 iv2).toArray 35 (0, 0))) := (Later.alloc _ _).trans (Later.alloc _ _)
  have x0 : ((w.alloc (.cells (a.cells sv ov iv).toArray 35 (0, 0))).alloc (.cells (b.cells sv2 ov2 iv2).toArray 35 (0, 0))).heap[w.heap.size]? = some (.cells (a.cells sv ov iv).toArray 35 (0, 0)) := (Below.block (Later.alloc _ _) _ (by rw [World.size_alloc]; omega)).trans (heap_alloc_new w _)
  have x1 : ((w.alloc (.cells (a.cells sv ov iv).toArray 35 (0, 0))).alloc (.cells (b.cells sv2 ov2 iv2).toArray 35 (0, 0))).heap[w.heap.size + 1]? = some (.cells (b.cells sv2 ov2 iv2).toArray 35 (0, 0)) := by
    have h := heap_alloc_new (w.alloc (.cells (a.cells sv ov iv).toArray 35 (0, 0))) (.cells (b.cells sv2 ov2 iv2).toArray 35 (0, 0))
    rwa [World.size_alloc] at h
  have HXA : Hid (∀ w', Later ((w.alloc (.cells (a.cells sv ov iv).toArray 35 (0, 0))).alloc (.cells (b.cells sv2 ov2 iv2).toArray 35 (0, 0))) w' → w'.heap[w.heap.size]? = some (.cells (a.cells sv ov iv).toArray 35 (0, 0))) := fun w' h => (Below.block h _ (lt_of_block x0)).trans x0
  have HXB : Hid (∀ w', Later ((w.alloc (.cells (a.cells sv ov iv).toArray 35 (0, 0))).alloc (.cells (b.cells sv2 ov2 iv2).toArray 35 (0, 0))) w' → w'.heap[w.heap.size + 1]? = some (.cells (b.cells sv2 ov2 iv2).toArray 35 (0, 0))) := fun w' h => (Below.block h _ (lt_of_block x1)).trans x1
  have HA : Hid (∀ w', Later w w' → Lists (· < w.heap.size) w' a sv ov iv) := fun w' h => ha.kept (Kept.of_below h _)
  have HB : Hid (∀ w', Later w w' → Lists (· < w.heap.size) w' b sv2 ov2 iv2) := fun w' h => hb.kept (Kept.of_below h _)
  have HT : Hid (∀ w', Later w w' → Tab w') := fun w' hl => hT.later hl
  have HL0 := hide hL0
  have XA0 := hide x0
  have XB0 := hide x1
  have C1 := hide (small_law hwa (HA.out _ hL0))
  have HWA := hide hwa
  have HWB := hide hwb
  clear ha hwa hb hwb hT hL0 x0 x1
  go_enter Tryd.func4, Tryd.ntmps4
  go_wp2_with (refine wpList_val rfl (by rfl) (exec_load_box 35 _ (by rfl) w.heap.size 0 (by rfl) 35 _ XA0.out 34 _ Tryd.underlying35 (by rfl) (by kernel_rfl) (a.cells sv ov iv) (by simp [List.take_of_length_le (Nat.le_of_eq (a.len sv ov iv))]) (a.len sv ov iv)) ?_)
  refine C1.out.mono ?_
  rintro e w1 ⟨t1, rfl, ht1, l1⟩
  have HT1 := hide ht1
  have M1 := hide l1
  have L1 := hide (HL0.out.trans l1)
  have XA1 := hide (HXA.out w1 l1)
  have XB1 := hide (HXB.out w1 l1)
  have C2 := hide (small_law HWB.out (HB.out _ L1.out))
  clear ht1 l1 C1
  cases t1 with
  | false =>
    have E := hide (lives_any (HT.out _ L1.out))
    go_wp2_with (fail)
    refine E.out.mono ?_
    rintro e wc ⟨rfl, lc⟩
    have Lc := hide (L1.out.trans lc)
    clear lc E
    go_wp2
    go_ret
    exact ⟨rfl, Lc.out⟩
  | true =>
    go_wp2_with (refine wpList_val rfl (by rfl) (exec_load_box 35 _ (by rfl) (w.heap.size + 1) 0 (by rfl) 35 _ XB1.out 34 _ Tryd.underlying35 (by rfl) (by kernel_rfl) (b.cells sv2 ov2 iv2) (by simp [List.take_of_length_le (Nat.le_of_eq (b.len sv2 ov2 iv2))]) (b.len sv2 ov2 iv2)) ?_)
    refine C2.out.mono ?_
    rintro e w2 ⟨t2, rfl, ht2, l2⟩
    have HT2 := hide ht2
    have M2 := hide (M1.out.trans l2)
    have L2 := hide (HL0.out.trans M2.out)
    have XA2 := hide (HXA.out w2 M2.out)
    have XB2 := hide (HXB.out w2 M2.out)
    have hna : a.ops.length ≤ 100000 := by have := (HT1.out (by trivial)).1.2.1; omega
    have HNA := hide hna
    have C3 := hide (good_any9 hna (HA.out _ L2.out) (HT.out _ L2.out))
    clear ht2 l2 C2 hna
    cases t2 with
    | false =>
      have E := hide (lives_any (HT.out _ L2.out))
      go_wp2_with (fail)
      refine E.out.mono ?_
      rintro e wc ⟨rfl, lc⟩
      have Lc := hide (L2.out.trans lc)
      clear lc E
      go_wp2
      go_ret
      exact ⟨rfl, Lc.out⟩
    | true =>
      obtain ⟨ga, hga⟩ : ∃ q, decide (bytesM a ≠ []) = q := ⟨_, rfl⟩
      rw [hga] at C3
      have HGA := hide hga
      clear hga
      go_wp2_with (refine wpList_val rfl (by rfl) (exec_load_box 35 _ (by rfl) w.heap.size 0 (by rfl) 35 _ XA2.out 34 _ Tryd.underlying35 (by rfl) (by kernel_rfl) (a.cells sv ov iv) (by simp [List.take_of_length_le (Nat.le_of_eq (a.len sv ov iv))]) (a.len sv ov iv)) ?_)
      refine C3.out.mono ?_
      rintro e w3 ⟨rfl, l3⟩
      have M3 := hide (M2.out.trans l3)
      have L3 := hide (HL0.out.trans M3.out)
      have XA3 := hide (HXA.out w3 M3.out)
      have XB3 := hide (HXB.out w3 M3.out)
      have hnb : b.ops.length ≤ 100000 := by have := (HT2.out (by trivial)).1.2.1; omega
      have HNB := hide hnb
      have C4 := hide (good_any9 hnb (HB.out _ L3.out) (HT.out _ L3.out))
      clear l3 C3 hnb
      cases ga with
      | false =>
        have E := hide (lives_any (HT.out _ L3.out))
        go_wp2_with (fail)
        refine E.out.mono ?_
        rintro e wc ⟨rfl, lc⟩
        have Lc := hide (L3.out.trans lc)
        clear lc E
        go_wp2
        go_ret
        exact ⟨rfl, Lc.out⟩
      | true =>
        obtain ⟨gb, hgb⟩ : ∃ q, decide (bytesM b ≠ []) = q := ⟨_, rfl⟩
        rw [hgb] at C4
        have HGB := hide hgb
        clear hgb
        go_wp2_with (refine wpList_val rfl (by rfl) (exec_load_box 35 _ (by rfl) (w.heap.size + 1) 0 (by rfl) 35 _ XB3.out 34 _ Tryd.underlying35 (by rfl) (by kernel_rfl) (b.cells sv2 ov2 iv2) (by simp [List.take_of_length_le (Nat.le_of_eq (b.len sv2 ov2 iv2))]) (b.len sv2 ov2 iv2)) ?_)
        refine C4.out.mono ?_
        rintro e w4 ⟨rfl, l4⟩
        have M4 := hide (M3.out.trans l4)
        have L4 := hide (HL0.out.trans M4.out)
        clear l4 C4
        cases gb with
        | false =>
          have E := hide (lives_any (HT.out _ L4.out))
          go_wp2_with (fail)
          refine E.out.mono ?_
          rintro e wc ⟨rfl, lc⟩
          have Lc := hide (L4.out.trans lc)
          clear lc E
          go_wp2
          go_ret
          exact ⟨rfl, Lc.out⟩
        | true =>
          obtain ⟨SA, hSA⟩ : ∃ s, str (bytesM a) = s := ⟨_, rfl⟩
          obtain ⟨SB, hSB⟩ : ∃ s, str (bytesM b) = s := ⟨_, rfl⟩
          obtain ⟨TA, hTA⟩ : ∃ s, str (opB a.op) = s := ⟨_, rfl⟩
          obtain ⟨TB, hTB⟩ : ∃ s, str (opB b.op) = s := ⟨_, rfl⟩
          obtain ⟨q, hq⟩ : ∃ q, decide (a = b) = q := ⟨_, rfl⟩
          obtain ⟨r, hr⟩ : ∃ r, decide (a.op = b.op) = r := ⟨_, rfl⟩
          have hsa := light_sm (HT1.out (by trivial)).1.1 (wf_op HWA.out)
          have hsb := light_sm (HT2.out (by trivial)).1.1 (wf_op HWB.out)
          have HSMA := hide hsa
          have HSMB := hide hsb
          have HQ1 : Hid ((SA.toList == SB.toList) = q) := by
            show _ = _
            rw [← hSA, ← hSB, ← hq]
            exact bytes_alike (of_decide_eq_true HGA.out) (of_decide_eq_true HGB.out) HNA.out HNB.out
          have HQ2 : Hid ((TA.toList == TB.toList) = r) := by
            show _ = _
            rw [← hTA, ← hTB, ← hr]
            exact ops_alike hsa hsb
          have HSA := hide hSA
          have HSB := hide hSB
          have HTA := hide hTA
          have HTB := hide hTB
          have HQ := hide hq
          have HR := hide hr
          have eqq : (q == q) = true := by simp
          have err : (r == r) = true := by simp
          have D0 : Hid (Later ((w.alloc (.cells (a.cells sv ov iv).toArray 35 (0, 0))).alloc (.cells (b.cells sv2 ov2 iv2).toArray 35 (0, 0))) w4.drew) := M4.out.trans (Later.drew w4)
          have DL0 : Hid (Later w w4.drew) := HL0.out.trans D0.out
          clear hSA hSB hTA hTB hq hr hsa hsb
          go_wp2
          refine wp_region_L (by kernel_rfl) ?_
          refine wpAnyL_take (i := 0) (d := some 24) (v := .agg (a.cells sv ov iv).toArray) rfl rfl (by kernel_rfl) (by kernel_rfl) (by kernel_rfl) (fun _ _ _ h => h) (by rfl) ?yar0 ?_
          case yar0 => (intro w' hw'; exact exec_load_box 35 _ (by rfl) w.heap.size 0 (by rfl) 35 _ (HXA.out w' (D0.out.trans hw')) 34 _ Tryd.underlying35 (by rfl) (by kernel_rfl) (a.cells sv ov iv) (by simp [List.take_of_length_le (Nat.le_of_eq (a.len sv ov iv))]) (a.len sv ov iv))
          simp only [Act.put]; try simp only [List.setIfInBounds_toArray]; try simp only [List.set_cons_zero, List.set_cons_succ]
          refine wpAnyL_take (i := 3) (d := some 27) (v := .agg (b.cells sv2 ov2 iv2).toArray) rfl rfl (by kernel_rfl) (by kernel_rfl) (by kernel_rfl) (fun _ _ _ h => h) (by rfl) ?yar3 ?_
          case yar3 => (intro w' hw'; exact exec_load_box 35 _ (by rfl) (w.heap.size + 1) 0 (by rfl) 35 _ (HXB.out w' (D0.out.trans hw')) 34 _ Tryd.underlying35 (by rfl) (by kernel_rfl) (b.cells sv2 ov2 iv2) (by simp [List.take_of_length_le (Nat.le_of_eq (b.len sv2 ov2 iv2))]) (b.len sv2 ov2 iv2))
          simp only [Act.put]; try simp only [List.setIfInBounds_toArray]; try simp only [List.set_cons_zero, List.set_cons_succ]
          refine wpAnyL_take (i := 7) (d := some 31) (v := .agg (a.cells sv ov iv).toArray) rfl rfl (by kernel_rfl) (by kernel_rfl) (by kernel_rfl) (fun _ _ _ h => h) (by rfl) ?yar7 ?_
          case yar7 => (intro w' hw'; exact exec_load_box 35 _ (by rfl) w.heap.size 0 (by rfl) 35 _ (HXA.out w' (D0.out.trans hw')) 34 _ Tryd.underlying35 (by rfl) (by kernel_rfl) (a.cells sv ov iv) (by simp [List.take_of_length_le (Nat.le_of_eq (a.len sv ov iv))]) (a.len sv ov iv))
          simp only [Act.put]; try simp only [List.setIfInBounds_toArray]; try simp only [List.set_cons_zero, List.set_cons_succ]
          refine wpAnyL_take (i := 8) (d := some 32) (v := .agg (b.cells sv2 ov2 iv2).toArray) rfl rfl (by kernel_rfl) (by kernel_rfl) (by kernel_rfl) (fun _ _ _ h => h) (by rfl) ?yar8 ?_
          case yar8 => (intro w' hw'; exact exec_load_box 35 _ (by rfl) (w.heap.size + 1) 0 (by rfl) 35 _ (HXB.out w' (D0.out.trans hw')) 34 _ Tryd.underlying35 (by rfl) (by kernel_rfl) (b.cells sv2 ov2 iv2) (by simp [List.take_of_length_le (Nat.le_of_eq (b.len sv2 ov2 iv2))]) (b.len sv2 ov2 iv2))
          simp only [Act.put]; try simp only [List.setIfInBounds_toArray]; try simp only [List.set_cons_zero, List.set_cons_succ]
          refine wpAnyL_only (i := 1) rfl (by kernel_rfl) (by rfl) fun K hK => ?_
          go_simp
          refine (bytes_any HNA.out (HA.out _ (HL0.out.trans D0.out)) (HT.out _ (HL0.out.trans D0.out))).mono ?_
          rintro e v1 ⟨B0, n0, c0, rfl, _, hh, _, lb⟩
          have D1 := hide (D0.out.trans (show Later w4.drew v1 from lb))
          have HH0 : Hid (∀ w', Later v1 w' → Holds w' w'.heap.size B0 n0 (bytesM a)) := fun w' h => hh.later h
          refine hK.out _ _ (show Later w4.drew v1 from lb) ?_
          clear hh lb
          clear hK K
          try (simp only [Act.put]; try simp only [List.setIfInBounds_toArray]; try simp only [List.set_cons_zero, List.set_cons_succ])
          refine wpAnyL_take (i := 2) (d := some 26) (v := .string SA) rfl rfl (by kernel_rfl) (by kernel_rfl) (by kernel_rfl) (fun _ _ _ h => h) (by rfl) ?yar2 ?_
          case yar2 => (intro w' hw'; have d1 := run_str w' w'.heap.size B0 n0 c0 (bytesM a) (HH0.out w' hw'); rw [HSA.out] at d1; go_simp; try (with_reducible rfl))
          simp only [Act.put]; try simp only [List.setIfInBounds_toArray]; try simp only [List.set_cons_zero, List.set_cons_succ]
          refine wpAnyL_only (i := 4) rfl (by kernel_rfl) (by rfl) fun K hK => ?_
          go_simp
          refine (bytes_any HNB.out (HB.out _ (HL0.out.trans D1.out)) (HT.out _ (HL0.out.trans D1.out))).mono ?_
          rintro e v2 ⟨B1, n1, c1, rfl, _, hh, _, lb⟩
          have D2 := hide (D1.out.trans (show Later v1 v2 from lb))
          have HH1 : Hid (∀ w', Later v2 w' → Holds w' w'.heap.size B1 n1 (bytesM b)) := fun w' h => hh.later h
          refine hK.out _ _ (show Later v1 v2 from lb) ?_
          clear hh lb
          clear hK K
          try (simp only [Act.put]; try simp only [List.setIfInBounds_toArray]; try simp only [List.set_cons_zero, List.set_cons_succ])
          refine wpAnyL_take (i := 5) (d := some 29) (v := .string SB) rfl rfl (by kernel_rfl) (by kernel_rfl) (by kernel_rfl) (fun _ _ _ h => h) (by rfl) ?yar5 ?_
          case yar5 => (intro w' hw'; have d1 := run_str w' w'.heap.size B1 n1 c1 (bytesM b) (HH1.out w' hw'); rw [HSB.out] at d1; go_simp; try (with_reducible rfl))
          simp only [Act.put]; try simp only [List.setIfInBounds_toArray]; try simp only [List.set_cons_zero, List.set_cons_succ]
          refine wpAnyL_take (i := 6) (d := some 30) (v := .bool q) rfl rfl (by kernel_rfl) (by kernel_rfl) (by kernel_rfl) (fun _ _ _ h => h) (by rfl) ?yar6 ?_
          case yar6 => (intro w' hw'; have e1 := HQ1.out; go_simp; try (with_reducible rfl))
          simp only [Act.put]; try simp only [List.setIfInBounds_toArray]; try simp only [List.set_cons_zero, List.set_cons_succ]
          refine wpAnyL_only (i := 9) rfl (by kernel_rfl) (by rfl) fun K hK => ?_
          go_simp
          have S := refsame_any _ _ sv ov iv sv2 ov2 iv2 a b v2 (HA.out _ (HL0.out.trans D2.out)) (HB.out _ (HL0.out.trans D2.out))
          rw [HQ.out] at S
          refine (S).mono ?_
          rintro e v3 ⟨rfl, lb⟩
          have D3 := hide (D2.out.trans (show Later v2 v3 from lb))
          refine hK.out _ _ (show Later v2 v3 from lb) ?_
          clear lb
          clear hK K
          try (simp only [Act.put]; try simp only [List.setIfInBounds_toArray]; try simp only [List.set_cons_zero, List.set_cons_succ])
          refine wpAnyL_take (i := 10) (d := some 34) (v := .bool true) rfl rfl (by kernel_rfl) (by kernel_rfl) (by kernel_rfl) (fun _ _ _ h => h) (by rfl) ?yar10 ?_
          case yar10 => (intro w' hw'; go_simp; try (with_reducible rfl))
          simp only [Act.put]; try simp only [List.setIfInBounds_toArray]; try simp only [List.set_cons_zero, List.set_cons_succ]
          refine wpAnyL_take (i := 11) (d := some 35) (v := ?var11) rfl rfl (by kernel_rfl) (by kernel_rfl) (by kernel_rfl) (fun _ _ _ h => h) (by rfl) ?yar11 ?_
          case yar11 => (intro w' hw'; go_simp; try (with_reducible rfl))
          simp only [Act.put]; try simp only [List.setIfInBounds_toArray]; try simp only [List.set_cons_zero, List.set_cons_succ]
          refine wpAnyL_take (i := 12) (d := some 36) (v := ?var12) rfl rfl (by kernel_rfl) (by kernel_rfl) (by kernel_rfl) (fun _ _ _ h => h) (by rfl) ?yar12 ?_
          case yar12 => (intro w' hw'; go_simp; try (with_reducible rfl))
          simp only [Act.put]; try simp only [List.setIfInBounds_toArray]; try simp only [List.set_cons_zero, List.set_cons_succ]
          refine wpAnyL_take (i := 13) (d := some 37) (v := .agg (a.op.cells sv).toArray) rfl rfl (by kernel_rfl) (by kernel_rfl) (by kernel_rfl) (fun _ _ _ h => h) (by rfl) ?yar13 ?_
          case yar13 => (intro w' hw'; exact exec_load_box 26 _ (by rfl) w.heap.size 12 (by rfl) 35 _ (HXA.out w' (D3.out.trans hw')) 10 _ Tryd.underlying26 (by rfl) (by kernel_rfl) (a.op.cells sv) (by rfl) (by rfl))
          simp only [Act.put]; try simp only [List.setIfInBounds_toArray]; try simp only [List.set_cons_zero, List.set_cons_succ]
          refine wpAnyL_take (i := 16) (d := some 40) (v := ?var16) rfl rfl (by kernel_rfl) (by kernel_rfl) (by kernel_rfl) (fun _ _ _ h => h) (by rfl) ?yar16 ?_
          case yar16 => (intro w' hw'; go_simp; try (with_reducible rfl))
          simp only [Act.put]; try simp only [List.setIfInBounds_toArray]; try simp only [List.set_cons_zero, List.set_cons_succ]
          refine wpAnyL_take (i := 17) (d := some 41) (v := .agg (b.op.cells sv2).toArray) rfl rfl (by kernel_rfl) (by kernel_rfl) (by kernel_rfl) (fun _ _ _ h => h) (by rfl) ?yar17 ?_
          case yar17 => (intro w' hw'; exact exec_load_box 26 _ (by rfl) (w.heap.size + 1) 12 (by rfl) 35 _ (HXB.out w' (D3.out.trans hw')) 10 _ Tryd.underlying26 (by rfl) (by kernel_rfl) (b.op.cells sv2) (by rfl) (by rfl))
          simp only [Act.put]; try simp only [List.setIfInBounds_toArray]; try simp only [List.set_cons_zero, List.set_cons_succ]
          refine wpAnyL_take (i := 21) (d := some 45) (v := ?var21) rfl rfl (by kernel_rfl) (by kernel_rfl) (by kernel_rfl) (fun _ _ _ h => h) (by rfl) ?yar21 ?_
          case yar21 => (intro w' hw'; go_simp; try (with_reducible rfl))
          simp only [Act.put]; try simp only [List.setIfInBounds_toArray]; try simp only [List.set_cons_zero, List.set_cons_succ]
          refine wpAnyL_take (i := 22) (d := some 46) (v := .agg (a.op.cells sv).toArray) rfl rfl (by kernel_rfl) (by kernel_rfl) (by kernel_rfl) (fun _ _ _ h => h) (by rfl) ?yar22 ?_
          case yar22 => (intro w' hw'; exact exec_load_box 26 _ (by rfl) w.heap.size 12 (by rfl) 35 _ (HXA.out w' (D3.out.trans hw')) 10 _ Tryd.underlying26 (by rfl) (by kernel_rfl) (a.op.cells sv) (by rfl) (by rfl))
          simp only [Act.put]; try simp only [List.setIfInBounds_toArray]; try simp only [List.set_cons_zero, List.set_cons_succ]
          refine wpAnyL_take (i := 23) (d := some 47) (v := ?var23) rfl rfl (by kernel_rfl) (by kernel_rfl) (by kernel_rfl) (fun _ _ _ h => h) (by rfl) ?yar23 ?_
          case yar23 => (intro w' hw'; go_simp; try (with_reducible rfl))
          simp only [Act.put]; try simp only [List.setIfInBounds_toArray]; try simp only [List.set_cons_zero, List.set_cons_succ]
          refine wpAnyL_take (i := 24) (d := some 48) (v := .agg (b.op.cells sv2).toArray) rfl rfl (by kernel_rfl) (by kernel_rfl) (by kernel_rfl) (fun _ _ _ h => h) (by rfl) ?yar24 ?_
          case yar24 => (intro w' hw'; exact exec_load_box 26 _ (by rfl) (w.heap.size + 1) 12 (by rfl) 35 _ (HXB.out w' (D3.out.trans hw')) 10 _ Tryd.underlying26 (by rfl) (by kernel_rfl) (b.op.cells sv2) (by rfl) (by rfl))
          simp only [Act.put]; try simp only [List.setIfInBounds_toArray]; try simp only [List.set_cons_zero, List.set_cons_succ]
          refine wpAnyL_only (i := 14) rfl (by kernel_rfl) (by rfl) fun K hK => ?_
          go_simp
          refine ((show Calls Tryd.prog 12 #[.agg (a.op.cells sv).toArray] v3 (NewBytes v3 (opB a.op)) from by obtain ⟨sA, sc, hsA, _⟩ := FlatAt.shape (HA.out _ (HL0.out.trans D3.out)).1; have S := opbytes_any HSMA.out (by omega) (hsA ▸ (HA.out _ (HL0.out.trans D3.out)).1); rw [hsA]; exact S)).mono ?_
          rintro e v4 ⟨B2, n2, c2, rfl, _, hh, _, lb⟩
          have D4 := hide (D3.out.trans (show Later v3 v4 from lb))
          have HH2 : Hid (∀ w', Later v4 w' → Holds w' w'.heap.size B2 n2 (opB a.op)) := fun w' h => hh.later h
          refine hK.out _ _ (show Later v3 v4 from lb) ?_
          clear hh lb
          clear hK K
          try (simp only [Act.put]; try simp only [List.setIfInBounds_toArray]; try simp only [List.set_cons_zero, List.set_cons_succ])
          refine wpAnyL_take (i := 15) (d := some 39) (v := .string TA) rfl rfl (by kernel_rfl) (by kernel_rfl) (by kernel_rfl) (fun _ _ _ h => h) (by rfl) ?yar15 ?_
          case yar15 => (intro w' hw'; have d1 := run_str w' w'.heap.size B2 n2 c2 (opB a.op) (HH2.out w' hw'); rw [HTA.out] at d1; go_simp; try (with_reducible rfl))
          simp only [Act.put]; try simp only [List.setIfInBounds_toArray]; try simp only [List.set_cons_zero, List.set_cons_succ]
          refine wpAnyL_only (i := 18) rfl (by kernel_rfl) (by rfl) fun K hK => ?_
          go_simp
          refine ((show Calls Tryd.prog 12 #[.agg (b.op.cells sv2).toArray] v4 (NewBytes v4 (opB b.op)) from by obtain ⟨sA, sc, hsA, _⟩ := FlatAt.shape (HB.out _ (HL0.out.trans D4.out)).1; have S := opbytes_any HSMB.out (by omega) (hsA ▸ (HB.out _ (HL0.out.trans D4.out)).1); rw [hsA]; exact S)).mono ?_
          rintro e v5 ⟨B3, n3, c3, rfl, _, hh, _, lb⟩
          have D5 := hide (D4.out.trans (show Later v4 v5 from lb))
          have HH3 : Hid (∀ w', Later v5 w' → Holds w' w'.heap.size B3 n3 (opB b.op)) := fun w' h => hh.later h
          refine hK.out _ _ (show Later v4 v5 from lb) ?_
          clear hh lb
          clear hK K
          try (simp only [Act.put]; try simp only [List.setIfInBounds_toArray]; try simp only [List.set_cons_zero, List.set_cons_succ])
          refine wpAnyL_take (i := 19) (d := some 43) (v := .string TB) rfl rfl (by kernel_rfl) (by kernel_rfl) (by kernel_rfl) (fun _ _ _ h => h) (by rfl) ?yar19 ?_
          case yar19 => (intro w' hw'; have d1 := run_str w' w'.heap.size B3 n3 c3 (opB b.op) (HH3.out w' hw'); rw [HTB.out] at d1; go_simp; try (with_reducible rfl))
          simp only [Act.put]; try simp only [List.setIfInBounds_toArray]; try simp only [List.set_cons_zero, List.set_cons_succ]
          refine wpAnyL_take (i := 20) (d := some 44) (v := .bool r) rfl rfl (by kernel_rfl) (by kernel_rfl) (by kernel_rfl) (fun _ _ _ h => h) (by rfl) ?yar20 ?_
          case yar20 => (intro w' hw'; have e1 := HQ2.out; go_simp; try (with_reducible rfl))
          simp only [Act.put]; try simp only [List.setIfInBounds_toArray]; try simp only [List.set_cons_zero, List.set_cons_succ]
          refine wpAnyL_only (i := 25) rfl (by kernel_rfl) (by rfl) fun K hK => ?_
          go_simp
          have S := same_op _ _ sv sv2 a.op b.op v5 (HA.out _ (HL0.out.trans D5.out)).1 (HB.out _ (HL0.out.trans D5.out)).1
          rw [HR.out] at S
          refine (S).mono ?_
          rintro e v6 ⟨rfl, lb⟩
          have D6 := hide (D5.out.trans (show Later v5 v6 from lb))
          refine hK.out _ _ (show Later v5 v6 from lb) ?_
          clear lb
          clear hK K
          try (simp only [Act.put]; try simp only [List.setIfInBounds_toArray]; try simp only [List.set_cons_zero, List.set_cons_succ])
          refine wpAnyL_take (i := 26) (d := some 50) (v := .bool true) rfl rfl (by kernel_rfl) (by kernel_rfl) (by kernel_rfl) (fun _ _ _ h => h) (by rfl) ?yar26 ?_
          case yar26 => (intro w' hw'; go_simp; try (with_reducible rfl))
          simp only [Act.put]; try simp only [List.setIfInBounds_toArray]; try simp only [List.set_cons_zero, List.set_cons_succ]
          refine wpAnyL_take (i := 27) (d := some 51) (v := ?var27) rfl rfl (by kernel_rfl) (by kernel_rfl) (by kernel_rfl) (fun _ _ _ h => h) (by rfl) ?yar27 ?_
          case yar27 => (intro w' hw'; go_simp; try (with_reducible rfl))
          simp only [Act.put]; try simp only [List.setIfInBounds_toArray]; try simp only [List.set_cons_zero, List.set_cons_succ]
          refine wpAnyL_take (i := 28) (d := some 52) (v := ?var28) rfl rfl (by kernel_rfl) (by kernel_rfl) (by kernel_rfl) (fun _ _ _ h => h) (by rfl) ?yar28 ?_
          case yar28 => (intro w' hw'; go_simp; try (with_reducible rfl))
          simp only [Act.put]; try simp only [List.setIfInBounds_toArray]; try simp only [List.set_cons_zero, List.set_cons_succ]
          refine wpAnyL_only (i := 29) rfl (by kernel_rfl) (by rfl) fun K hK => ?_
          go_simp
          refine (lives_any (HT.out _ (HL0.out.trans D6.out))).mono ?_
          rintro e v7 ⟨rfl, lb⟩
          have LF := hide ((HL0.out.trans D6.out).trans lb)
          refine hK.out _ _ lb ?_
          clear lb
          clear hK K
          try (simp only [Act.put]; try simp only [List.setIfInBounds_toArray]; try simp only [List.set_cons_zero, List.set_cons_succ])
          refine wpAnyL_take (i := 30) (d := some 54) (v := ?var30) rfl rfl (by kernel_rfl) (by kernel_rfl) (by kernel_rfl) (fun _ _ _ h => h) (by rfl) ?yar30 ?_
          case yar30 => (intro w' hw'; go_simp; try (with_reducible rfl))
          simp only [Act.put]; try simp only [List.setIfInBounds_toArray]; try simp only [List.set_cons_zero, List.set_cons_succ]
          refine wpAnyL_take (i := 31) (d := some 4) (v := ?var31) rfl rfl (by kernel_rfl) (by kernel_rfl) (by kernel_rfl) (fun _ _ _ h => h) (by rfl) ?yar31 ?_
          case yar31 => (intro w' hw'; go_simp; try (with_reducible rfl))
          simp only [Act.put]; try simp only [List.setIfInBounds_toArray]; try simp only [List.set_cons_zero, List.set_cons_succ]
          refine wpAnyL_done (by kernel_rfl) ?_ _
          go_wp2
          go_ret
          exact ⟨rfl, LF.out⟩
end Go.Proofs.YtehiaeihkdfclaaDoor
/- From what a row says of steps, operations and messages that came in to what the walks are told of them. -/
namespace Go.Proofs.YtehiaeihkdfclaaDoor
open Go.RowKit

/-- No string and no slice in the datum is too long. -/
def Sm {H : Type} (t : TypeId) (d : DataW H) : Prop := ∀ n ∈ d.weights Tryd.prog t, n ≤ reachBytes
theorem weights_mem_all {H : Type} {P : Program} {e : TypeId} {d : DataW H} : ∀ {l : List (DataW H)}, d ∈ l → ∀ n ∈ d.weights P e, n ∈ DataW.weightsAll P e l
  | [], h, _, _ => by cases h
  | y :: r, h, n, hn => by
    simp only [DataW.weightsAll, List.mem_append]
    rcases List.mem_cons.1 h with rfl | h
    · exact .inl hn
    · exact .inr (weights_mem_all h n hn)

section
variable {H : Type} {enc : TypeId × Value → H} {W : World}
/-- The reading of an argument. -/
abbrev Rd (enc : TypeId × Value → H) (W : World) (n : Nat) (t : TypeId) (cs : List Value) (x : DataW H × List MemPlace) : Prop := DataW.trod enc Tryd.prog W 0 (fun _ => true) true n t cs = some x

/-- A struct's fields. -/
theorem open_fields {t : TypeId} {fs : Array Field} {n : Nat} {cs : List Value} {x : DataW H × List MemPlace} (ht : Tryd.prog.underlying t = some (.struct fs)) (h : Rd enc W n t cs x) (hs : Sm t x.1) :
    ∃ m, cs.length = Tryd.prog.cellsOf t ∧ ∀ (i : Nat) (f : Field), fs[i]? = some f → ∃ y, Rd enc W m f.type ((cs.drop f.offset).take (Tryd.prog.cellsOf f.type)) y ∧ Sm f.type y.1 := by
  obtain ⟨xs, m, _, hx, hl, hxl, hf⟩ := DataW.trod_struct ht h
  refine ⟨m, hl, fun i f hi => ?_⟩
  have hil : i < xs.length := by rw [hxl]; exact (Array.getElem?_eq_some_iff.1 hi).1
  refine ⟨xs[i], (hf i f hi).trans (List.getElem?_eq_getElem hil), fun k hk => hs k ?_⟩
  rw [hx]
  simp only [DataW.weights, ht]
  exact DataW.weights_mem_each (j := i) (t := f.type) (d := xs[i].1) (by simp [hi]) (by simp [hil]) k hk
theorem open_int1 {t : TypeId} {n : Nat} {c : Value} {x : DataW H × List MemPlace} (ht : Tryd.prog.underlying t = some (.int .i64)) (h : Rd enc W n t [c] x) : ∃ a : Int, c = .int .i64 a ∧ I64 a := by
  obtain ⟨a, h0, _, w0⟩ := DataW.trod_int ht h
  have b0 := bounds_i64 w0
  simp only [List.cons.injEq, and_true] at h0
  exact ⟨a, h0, by unfold I64; omega⟩
theorem open_bool1 {t : TypeId} {n : Nat} {c : Value} {x : DataW H × List MemPlace} (ht : Tryd.prog.underlying t = some .bool) (h : Rd enc W n t [c] x) : ∃ a : Bool, c = .bool a := by
  obtain ⟨a, h0, _⟩ := DataW.trod_bool ht h
  simp only [List.cons.injEq, and_true] at h0
  exact ⟨a, h0⟩
theorem open_str1 {t : TypeId} {n : Nat} {c : Value} {x : DataW H × List MemPlace} (ht : Tryd.prog.underlying t = some .string) (h : Rd enc W n t [c] x) (hs : Sm t x.1) : ∃ s : ByteArray, c = .string s ∧ s.size ≤ 140737488355328 := by
  obtain ⟨s, h0, h1, _⟩ := DataW.trod_string ht h
  simp only [List.cons.injEq, and_true] at h0
  refine ⟨s, h0, ?_⟩
  have := hs s.data.toList.length (by rw [h1]; simp [DataW.weights])
  unfold reachBytes at this
  rw [Array.length_toList] at this
  show s.data.size ≤ _
  omega

/-- The elements of a slice. -/
theorem open_elems {α : Type} [Inhabited α] (cells : α → List Value) (good : α → Prop) {t e : TypeId} (k : Nat) (hk : 0 < k) (hck : ∀ y, (cells y).length = k) (ht : Tryd.prog.underlying t = some (.slice e)) (hc : Tryd.prog.cellsOf e = k)
    (hel : ∀ (n : Nat) (cs : List Value) (x : DataW H × List MemPlace), Rd enc W n e cs x → Sm e x.1 → ∃ y : α, cs = cells y ∧ good y) (hone : ∀ y, good y → ∀ u ∈ cells y, u.oneCell' = true)
    {n : Nat} {v : Value} {x : DataW H × List MemPlace} (h : Rd enc W n t [v] x) (hs : Sm t x.1) :
    ∃ ys : List α, FlatAt (· < W.heap.size) W k v ys.length (ys.flatMap cells) ∧ ∀ y ∈ ys, good y := by
  rcases Go.Deep.open_slice ht h with ⟨hcs, _⟩ | ⟨a, l, c, m, n', D, Pl, hcs, _, hl, hm, hmm, hx, hi⟩
  · obtain rfl : v = .slice none 0 0 := by simpa using hcs
    exact ⟨[], FlatAt.nil_ _ _ _, by simp⟩
  · obtain rfl : v = .slice (some a) l c := by simpa using hcs
    simp only [if_true] at hmm
    rw [hc] at hi
    obtain ⟨F, hF⟩ := Go.Deep.choose_lt (p := fun i (y : α) => (∀ j u, (cells y)[j]? = some u → W.cell? (a.add (i * k + j)) = some u) ∧ good y) fun i (hil : i < l) => by
      obtain ⟨cs', h1, h2⟩ := hi i (by omega)
      have hsm : Sm e (D i) := fun q hq => hs q (by
        rw [hx]
        simp only [DataW.weights, ht]
        exact List.mem_cons_of_mem _ (List.mem_append_left _ (weights_mem_all (List.mem_map.2 ⟨i, List.mem_range.2 hil, rfl⟩) q hq)))
      obtain ⟨y, hy, hg⟩ := hel n' cs' (D i, Pl i) h2 hsm
      obtain ⟨_, hlen, hat⟩ := World.cells?_some h1
      refine ⟨y, fun j u hu => ?_, hg⟩
      have hj : j < k := by rw [← hck y]; exact (List.getElem?_eq_some_iff.1 hu).1
      rw [← Go.Deep.add_add, hat j hj, hy, hu]
    refine ⟨(List.range l).map F, ⟨?_, ?_, some a, c, by simp, by simpa using hl, hm, (fun e => by cases e), fun hn => ?_⟩, fun y hy => ?_⟩
    · exact flat_len cells k _ (fun y _ => hck y)
    · intro u hu
      obtain ⟨y, hy, hu⟩ := List.mem_flatMap.1 hu
      obtain ⟨i, hi, rfl⟩ := List.mem_map.1 hy
      exact hone _ (hF i (List.mem_range.1 hi)).2 u hu
    · have hn' : 0 < l := by simpa using hn
      obtain ⟨b, off, spot⟩ := a
      have hk0 : (cells (F 0))[0]? = some ((cells (F 0))[0]'(by rw [hck]; exact hk)) := List.getElem?_eq_getElem (by rw [hck]; exact hk)
      have h0 := (hF 0 hn').1 0 _ hk0
      have hspot : spot = none := by simpa [Addr.add] using World.cell?_spot h0
      subst hspot
      have hblt : b < W.heap.size := World.block_lt_of_cell? W _ (by simpa [Addr.add] using h0)
      refine ⟨b, off, rfl, hblt, hblt, fun j u hj => ?_⟩
      have hjl : j < l * k := by
        have := (List.getElem?_eq_some_iff.1 hj).1
        rw [flat_len cells k _ (fun y _ => hck y)] at this
        simpa using this
      have hq : j / k < l := Nat.div_lt_of_lt_mul (by rwa [Nat.mul_comm])
      have hr : j % k < k := Nat.mod_lt _ hk
      have hj2 : j = j / k * k + j % k := by rw [Nat.mul_comm]; exact (Nat.div_add_mod j k).symm
      have hge := flat_get cells k ((List.range l).map F) (j / k) (F (j / k)) (fun y _ => hck y) (by simp [hq])
      have hu : (cells (F (j / k)))[j % k]? = some u := by
        rw [← hge, List.getElem?_take_of_lt hr, List.getElem?_drop, ← hj2, hj]
      have := (hF (j / k) hq).1 (j % k) u hu
      rwa [Addr.add_lit, ← hj2] at this
    · obtain ⟨i, hi, rfl⟩ := List.mem_map.1 hy
      exact (hF i (List.mem_range.1 hi)).2
end

instance : Inhabited StepD := ⟨⟨⟨#[]⟩, 0, 0, 0, false, false⟩⟩
instance : Inhabited (OpD × Value) := ⟨⟨.zero, .slice none 0 0⟩⟩
section
variable {H : Type} {enc : TypeId × Value → H} {W : World}
set_option maxRecDepth 100000

theorem open_step {n : Nat} {cs : List Value} {x : DataW H × List MemPlace} (h : Rd enc W n 72 cs x) (hs : Sm 72 x.1) :
    ∃ s : StepD, cs = s.cells ∧ s.wf := by
  obtain ⟨m, hl, hf⟩ := open_fields Tryd.underlying72 h hs
  have hl : cs.length = 6 := hl
  match cs, hl with
  | [c0, c1, c2, c3, c4, c5], _ =>
    obtain ⟨y0, g0, s0⟩ := hf 0 _ rfl
    have g0 : Rd enc W m 9 [c0] y0 := (congrArg (fun q => DataW.trod enc Tryd.prog W 0 (fun _ => true) true m 9 q) (show ([c0, c1, c2, c3, c4, c5].drop 0).take (Tryd.prog.cellsOf 9) = [c0] from by rw [show Tryd.prog.cellsOf 9 = 1 from by kernel_rfl]; rfl)).symm.trans g0
    obtain ⟨a0, e0, w0⟩ := open_str1 Tryd.underlying9 g0 s0
    obtain ⟨y1, g1, s1⟩ := hf 1 _ rfl
    have g1 : Rd enc W m 3 [c1] y1 := (congrArg (fun q => DataW.trod enc Tryd.prog W 0 (fun _ => true) true m 3 q) (show ([c0, c1, c2, c3, c4, c5].drop 1).take (Tryd.prog.cellsOf 3) = [c1] from by rw [show Tryd.prog.cellsOf 3 = 1 from by kernel_rfl]; rfl)).symm.trans g1
    obtain ⟨a1, e1, w1⟩ := open_int1 Tryd.underlying3 g1
    obtain ⟨y2, g2, s2⟩ := hf 2 _ rfl
    have g2 : Rd enc W m 3 [c2] y2 := (congrArg (fun q => DataW.trod enc Tryd.prog W 0 (fun _ => true) true m 3 q) (show ([c0, c1, c2, c3, c4, c5].drop 2).take (Tryd.prog.cellsOf 3) = [c2] from by rw [show Tryd.prog.cellsOf 3 = 1 from by kernel_rfl]; rfl)).symm.trans g2
    obtain ⟨a2, e2, w2⟩ := open_int1 Tryd.underlying3 g2
    obtain ⟨y3, g3, s3⟩ := hf 3 _ rfl
    have g3 : Rd enc W m 3 [c3] y3 := (congrArg (fun q => DataW.trod enc Tryd.prog W 0 (fun _ => true) true m 3 q) (show ([c0, c1, c2, c3, c4, c5].drop 3).take (Tryd.prog.cellsOf 3) = [c3] from by rw [show Tryd.prog.cellsOf 3 = 1 from by kernel_rfl]; rfl)).symm.trans g3
    obtain ⟨a3, e3, w3⟩ := open_int1 Tryd.underlying3 g3
    obtain ⟨y4, g4, s4⟩ := hf 4 _ rfl
    have g4 : Rd enc W m 4 [c4] y4 := (congrArg (fun q => DataW.trod enc Tryd.prog W 0 (fun _ => true) true m 4 q) (show ([c0, c1, c2, c3, c4, c5].drop 4).take (Tryd.prog.cellsOf 4) = [c4] from by rw [show Tryd.prog.cellsOf 4 = 1 from by kernel_rfl]; rfl)).symm.trans g4
    obtain ⟨a4, e4⟩ := open_bool1 Tryd.underlying4 g4
    obtain ⟨y5, g5, s5⟩ := hf 5 _ rfl
    have g5 : Rd enc W m 4 [c5] y5 := (congrArg (fun q => DataW.trod enc Tryd.prog W 0 (fun _ => true) true m 4 q) (show ([c0, c1, c2, c3, c4, c5].drop 5).take (Tryd.prog.cellsOf 4) = [c5] from by rw [show Tryd.prog.cellsOf 4 = 1 from by kernel_rfl]; rfl)).symm.trans g5
    obtain ⟨a5, e5⟩ := open_bool1 Tryd.underlying4 g5
    subst e0 e1 e2 e3 e4 e5
    exact ⟨⟨a0, a1, a2, a3, a4, a5⟩, rfl, w0, w1, w2, w3⟩

theorem open_steps {n : Nat} {v : Value} {x : DataW H × List MemPlace} (h : Rd enc W n 22 [v] x) (hs : Sm 22 x.1) : ∃ l, StepsAt (· < W.heap.size) W v l ∧ ∀ s ∈ l, s.wf := by
  obtain ⟨ys, h1, h2⟩ := open_elems StepD.cells StepD.wf 6 (by decide) StepD.len Tryd.underlying22 (by kernel_rfl) (fun n cs x h hs => open_step h hs) (fun y _ => y.one) h hs
  exact ⟨ys, h1, h2⟩

theorem open_def {n : Nat} {cs : List Value} {x : DataW H × List MemPlace} (h : Rd enc W n 24 cs x) (hs : Sm 24 x.1) :
    ∃ (nm : ByteArray) (v : Value) (l : List StepD), cs = [.string nm, v] ∧ nm.size ≤ 140737488355328 ∧ StepsAt (· < W.heap.size) W v l ∧ ∀ s ∈ l, s.wf := by
  obtain ⟨m, hl, hf⟩ := open_fields Tryd.underlying24 h hs
  have hl : cs.length = 2 := hl
  match cs, hl with
  | [c0, c1], _ =>
    obtain ⟨y0, g0, s0⟩ := hf 0 _ rfl
    have g0 : Rd enc W m 9 [c0] y0 := (congrArg (fun q => DataW.trod enc Tryd.prog W 0 (fun _ => true) true m 9 q) (show ([c0, c1].drop 0).take (Tryd.prog.cellsOf 9) = [c0] from by rw [show Tryd.prog.cellsOf 9 = 1 from by kernel_rfl]; rfl)).symm.trans g0
    obtain ⟨a0, e0, w0⟩ := open_str1 Tryd.underlying9 g0 s0
    obtain ⟨y1, g1, s1⟩ := hf 1 _ rfl
    have g1 : Rd enc W m 22 [c1] y1 := (congrArg (fun q => DataW.trod enc Tryd.prog W 0 (fun _ => true) true m 22 q) (show ([c0, c1].drop 1).take (Tryd.prog.cellsOf 22) = [c1] from by rw [show Tryd.prog.cellsOf 22 = 1 from by kernel_rfl]; rfl)).symm.trans g1
    obtain ⟨l, hl1, hl2⟩ := open_steps g1 s1
    subst e0
    exact ⟨a0, _, l, rfl, w0, hl1, hl2⟩

theorem open_op {n : Nat} {cs : List Value} {x : DataW H × List MemPlace} (h : Rd enc W n 26 cs x) (hs : Sm 26 x.1) :
    ∃ p : OpD × Value, cs = p.1.cells p.2 ∧ StepsAt (· < W.heap.size) W p.2 p.1.steps ∧ p.1.wf := by
  obtain ⟨m, hl, hf⟩ := open_fields Tryd.underlying26 h hs
  have hl : cs.length = 10 := hl
  match cs, hl with
  | [c0, c1, c2, c3, c4, c5, c6, c7, c8, c9], _ =>
    obtain ⟨y0, g0, s0⟩ := hf 0 _ rfl
    have g0 : Rd enc W m 3 [c0] y0 := (congrArg (fun q => DataW.trod enc Tryd.prog W 0 (fun _ => true) true m 3 q) (show ([c0, c1, c2, c3, c4, c5, c6, c7, c8, c9].drop 0).take (Tryd.prog.cellsOf 3) = [c0] from by rw [show Tryd.prog.cellsOf 3 = 1 from by kernel_rfl]; rfl)).symm.trans g0
    obtain ⟨a0, e0, w0⟩ := open_int1 Tryd.underlying3 g0
    obtain ⟨y1, g1, s1⟩ := hf 1 _ rfl
    have g1 : Rd enc W m 3 [c1] y1 := (congrArg (fun q => DataW.trod enc Tryd.prog W 0 (fun _ => true) true m 3 q) (show ([c0, c1, c2, c3, c4, c5, c6, c7, c8, c9].drop 1).take (Tryd.prog.cellsOf 3) = [c1] from by rw [show Tryd.prog.cellsOf 3 = 1 from by kernel_rfl]; rfl)).symm.trans g1
    obtain ⟨a1, e1, w1⟩ := open_int1 Tryd.underlying3 g1
    obtain ⟨y2, g2, s2⟩ := hf 2 _ rfl
    have g2 : Rd enc W m 3 [c2] y2 := (congrArg (fun q => DataW.trod enc Tryd.prog W 0 (fun _ => true) true m 3 q) (show ([c0, c1, c2, c3, c4, c5, c6, c7, c8, c9].drop 2).take (Tryd.prog.cellsOf 3) = [c2] from by rw [show Tryd.prog.cellsOf 3 = 1 from by kernel_rfl]; rfl)).symm.trans g2
    obtain ⟨a2, e2, w2⟩ := open_int1 Tryd.underlying3 g2
    obtain ⟨y3, g3, s3⟩ := hf 3 _ rfl
    have g3 : Rd enc W m 24 [c3, c4] y3 := (congrArg (fun q => DataW.trod enc Tryd.prog W 0 (fun _ => true) true m 24 q) (show ([c0, c1, c2, c3, c4, c5, c6, c7, c8, c9].drop 3).take (Tryd.prog.cellsOf 24) = [c3, c4] from by rw [show Tryd.prog.cellsOf 24 = 2 from by kernel_rfl]; rfl)).symm.trans g3
    obtain ⟨nm, v, l, f3, w3, st, wst⟩ := open_def g3 s3
    obtain ⟨y4, g4, s4⟩ := hf 4 _ rfl
    have g4 : Rd enc W m 3 [c5] y4 := (congrArg (fun q => DataW.trod enc Tryd.prog W 0 (fun _ => true) true m 3 q) (show ([c0, c1, c2, c3, c4, c5, c6, c7, c8, c9].drop 5).take (Tryd.prog.cellsOf 3) = [c5] from by rw [show Tryd.prog.cellsOf 3 = 1 from by kernel_rfl]; rfl)).symm.trans g4
    obtain ⟨a4, e4, w4⟩ := open_int1 Tryd.underlying3 g4
    obtain ⟨y5, g5, s5⟩ := hf 5 _ rfl
    have g5 : Rd enc W m 3 [c6] y5 := (congrArg (fun q => DataW.trod enc Tryd.prog W 0 (fun _ => true) true m 3 q) (show ([c0, c1, c2, c3, c4, c5, c6, c7, c8, c9].drop 6).take (Tryd.prog.cellsOf 3) = [c6] from by rw [show Tryd.prog.cellsOf 3 = 1 from by kernel_rfl]; rfl)).symm.trans g5
    obtain ⟨a5, e5, w5⟩ := open_int1 Tryd.underlying3 g5
    obtain ⟨y6, g6, s6⟩ := hf 6 _ rfl
    have g6 : Rd enc W m 3 [c7] y6 := (congrArg (fun q => DataW.trod enc Tryd.prog W 0 (fun _ => true) true m 3 q) (show ([c0, c1, c2, c3, c4, c5, c6, c7, c8, c9].drop 7).take (Tryd.prog.cellsOf 3) = [c7] from by rw [show Tryd.prog.cellsOf 3 = 1 from by kernel_rfl]; rfl)).symm.trans g6
    obtain ⟨a6, e6, w6⟩ := open_int1 Tryd.underlying3 g6
    obtain ⟨y7, g7, s7⟩ := hf 7 _ rfl
    have g7 : Rd enc W m 4 [c8] y7 := (congrArg (fun q => DataW.trod enc Tryd.prog W 0 (fun _ => true) true m 4 q) (show ([c0, c1, c2, c3, c4, c5, c6, c7, c8, c9].drop 8).take (Tryd.prog.cellsOf 4) = [c8] from by rw [show Tryd.prog.cellsOf 4 = 1 from by kernel_rfl]; rfl)).symm.trans g7
    obtain ⟨a7, e7⟩ := open_bool1 Tryd.underlying4 g7
    obtain ⟨y8, g8, s8⟩ := hf 8 _ rfl
    have g8 : Rd enc W m 4 [c9] y8 := (congrArg (fun q => DataW.trod enc Tryd.prog W 0 (fun _ => true) true m 4 q) (show ([c0, c1, c2, c3, c4, c5, c6, c7, c8, c9].drop 9).take (Tryd.prog.cellsOf 4) = [c9] from by rw [show Tryd.prog.cellsOf 4 = 1 from by kernel_rfl]; rfl)).symm.trans g8
    obtain ⟨a8, e8⟩ := open_bool1 Tryd.underlying4 g8
    subst e0 e1 e2 e4 e5 e6 e7 e8
    simp only [List.cons.injEq, and_true] at f3
    obtain ⟨rfl, rfl⟩ := f3
    exact ⟨(⟨a0, a1, a2, nm, l, a4, a5, a6, a7, a8⟩, _), rfl, st, w0, w1, w2, w3, wst, w4, w5, w6⟩

theorem open_ops {n : Nat} {v : Value} {x : DataW H × List MemPlace} (h : Rd enc W n 32 [v] x) (hs : Sm 32 x.1) : ∃ l, OpsAt (· < W.heap.size) W v l ∧ ∀ o ∈ l, o.wf := by
  obtain ⟨ys, h1, h2⟩ := open_elems (fun p : OpD × Value => p.1.cells p.2) (fun p => StepsAt (· < W.heap.size) W p.2 p.1.steps ∧ p.1.wf) 10 (by decide) (fun p => p.1.len p.2) Tryd.underlying32 (by kernel_rfl) (fun n cs x h hs => open_op h hs) (fun y hy => y.1.one (FlatAt.oneCell hy.1)) h hs
  refine ⟨ys.map (·.1), ⟨ys, rfl, h1, fun p hp => (h2 p hp).1⟩, fun o ho => ?_⟩
  obtain ⟨p, hp, rfl⟩ := List.mem_map.1 ho
  exact (h2 p hp).2
theorem open_incs {n : Nat} {v : Value} {x : DataW H × List MemPlace} (h : Rd enc W n 33 [v] x) (hs : Sm 33 x.1) : ∃ l, IncsAt (· < W.heap.size) W v l ∧ ∀ a ∈ l, I64 a := by
  obtain ⟨ys, h1, h2⟩ := open_elems (fun a : Int => [.int .i64 a]) I64 1 (by decide) (fun _ => rfl) Tryd.underlying33 (by kernel_rfl) (fun n cs x h hs => by
    obtain ⟨a, h0, _, w0⟩ := DataW.trod_int Tryd.underlying3 h
    have b0 := bounds_i64 w0
    exact ⟨a, h0, by unfold I64; omega⟩) (fun y _ u hu => by obtain rfl : u = .int .i64 y := by simpa using hu
                                                             rfl) h hs
  refine ⟨ys, ?_, h2⟩
  unfold IncsAt
  rw [List.map_eq_flatMap]
  exact h1

theorem open_reply {n : Nat} {cs : List Value} {x : DataW H × List MemPlace} (h : Rd enc W n 29 cs x) (hs : Sm 29 x.1) :
    ∃ a b c d : Int, cs = [.int .i64 a, .int .i64 b, .int .i64 c, .int .i64 d] ∧ I64 a ∧ I64 b ∧ I64 c ∧ I64 d := by
  obtain ⟨m, hl, hf⟩ := open_fields Tryd.underlying29 h hs
  have hl : cs.length = 4 := hl
  match cs, hl with
  | [c0, c1, c2, c3], _ =>
    obtain ⟨y0, g0, s0⟩ := hf 0 _ rfl
    have g0 : Rd enc W m 27 [c0] y0 := (congrArg (fun q => DataW.trod enc Tryd.prog W 0 (fun _ => true) true m 27 q) (show ([c0, c1, c2, c3].drop 0).take (Tryd.prog.cellsOf 27) = [c0] from by rw [show Tryd.prog.cellsOf 27 = 1 from by kernel_rfl]; rfl)).symm.trans g0
    obtain ⟨a0, e0, w0⟩ := open_int1 Tryd.underlying27 g0
    obtain ⟨y1, g1, s1⟩ := hf 1 _ rfl
    have g1 : Rd enc W m 3 [c1] y1 := (congrArg (fun q => DataW.trod enc Tryd.prog W 0 (fun _ => true) true m 3 q) (show ([c0, c1, c2, c3].drop 1).take (Tryd.prog.cellsOf 3) = [c1] from by rw [show Tryd.prog.cellsOf 3 = 1 from by kernel_rfl]; rfl)).symm.trans g1
    obtain ⟨a1, e1, w1⟩ := open_int1 Tryd.underlying3 g1
    obtain ⟨y2, g2, s2⟩ := hf 2 _ rfl
    have g2 : Rd enc W m 3 [c2] y2 := (congrArg (fun q => DataW.trod enc Tryd.prog W 0 (fun _ => true) true m 3 q) (show ([c0, c1, c2, c3].drop 2).take (Tryd.prog.cellsOf 3) = [c2] from by rw [show Tryd.prog.cellsOf 3 = 1 from by kernel_rfl]; rfl)).symm.trans g2
    obtain ⟨a2, e2, w2⟩ := open_int1 Tryd.underlying3 g2
    obtain ⟨y3, g3, s3⟩ := hf 3 _ rfl
    have g3 : Rd enc W m 3 [c3] y3 := (congrArg (fun q => DataW.trod enc Tryd.prog W 0 (fun _ => true) true m 3 q) (show ([c0, c1, c2, c3].drop 3).take (Tryd.prog.cellsOf 3) = [c3] from by rw [show Tryd.prog.cellsOf 3 = 1 from by kernel_rfl]; rfl)).symm.trans g3
    obtain ⟨a3, e3, w3⟩ := open_int1 Tryd.underlying3 g3
    subst e0 e1 e2 e3
    exact ⟨a0, a1, a2, a3, rfl, w0, w1, w2, w3⟩

theorem open_command {n : Nat} {cs : List Value} {x : DataW H × List MemPlace} (h : Rd enc W n 31 cs x) (hs : Sm 31 x.1) :
    ∃ (a b c d e : Int) (f : Bool), cs = [.int .i64 a, .int .i64 b, .int .i64 c, .int .i64 d, .int .i64 e, .bool f] ∧ I64 a ∧ I64 b ∧ I64 c ∧ I64 d ∧ I64 e := by
  obtain ⟨m, hl, hf⟩ := open_fields Tryd.underlying31 h hs
  have hl : cs.length = 6 := hl
  match cs, hl with
  | [c0, c1, c2, c3, c4, c5], _ =>
    obtain ⟨y0, g0, s0⟩ := hf 0 _ rfl
    have g0 : Rd enc W m 3 [c0] y0 := (congrArg (fun q => DataW.trod enc Tryd.prog W 0 (fun _ => true) true m 3 q) (show ([c0, c1, c2, c3, c4, c5].drop 0).take (Tryd.prog.cellsOf 3) = [c0] from by rw [show Tryd.prog.cellsOf 3 = 1 from by kernel_rfl]; rfl)).symm.trans g0
    obtain ⟨a0, e0, w0⟩ := open_int1 Tryd.underlying3 g0
    obtain ⟨y1, g1, s1⟩ := hf 1 _ rfl
    have g1 : Rd enc W m 3 [c1] y1 := (congrArg (fun q => DataW.trod enc Tryd.prog W 0 (fun _ => true) true m 3 q) (show ([c0, c1, c2, c3, c4, c5].drop 1).take (Tryd.prog.cellsOf 3) = [c1] from by rw [show Tryd.prog.cellsOf 3 = 1 from by kernel_rfl]; rfl)).symm.trans g1
    obtain ⟨a1, e1, w1⟩ := open_int1 Tryd.underlying3 g1
    obtain ⟨y2, g2, s2⟩ := hf 2 _ rfl
    have g2 : Rd enc W m 3 [c2] y2 := (congrArg (fun q => DataW.trod enc Tryd.prog W 0 (fun _ => true) true m 3 q) (show ([c0, c1, c2, c3, c4, c5].drop 2).take (Tryd.prog.cellsOf 3) = [c2] from by rw [show Tryd.prog.cellsOf 3 = 1 from by kernel_rfl]; rfl)).symm.trans g2
    obtain ⟨a2, e2, w2⟩ := open_int1 Tryd.underlying3 g2
    obtain ⟨y3, g3, s3⟩ := hf 3 _ rfl
    have g3 : Rd enc W m 3 [c3] y3 := (congrArg (fun q => DataW.trod enc Tryd.prog W 0 (fun _ => true) true m 3 q) (show ([c0, c1, c2, c3, c4, c5].drop 3).take (Tryd.prog.cellsOf 3) = [c3] from by rw [show Tryd.prog.cellsOf 3 = 1 from by kernel_rfl]; rfl)).symm.trans g3
    obtain ⟨a3, e3, w3⟩ := open_int1 Tryd.underlying3 g3
    obtain ⟨y4, g4, s4⟩ := hf 4 _ rfl
    have g4 : Rd enc W m 3 [c4] y4 := (congrArg (fun q => DataW.trod enc Tryd.prog W 0 (fun _ => true) true m 3 q) (show ([c0, c1, c2, c3, c4, c5].drop 4).take (Tryd.prog.cellsOf 3) = [c4] from by rw [show Tryd.prog.cellsOf 3 = 1 from by kernel_rfl]; rfl)).symm.trans g4
    obtain ⟨a4, e4, w4⟩ := open_int1 Tryd.underlying3 g4
    obtain ⟨y5, g5, s5⟩ := hf 5 _ rfl
    have g5 : Rd enc W m 4 [c5] y5 := (congrArg (fun q => DataW.trod enc Tryd.prog W 0 (fun _ => true) true m 4 q) (show ([c0, c1, c2, c3, c4, c5].drop 5).take (Tryd.prog.cellsOf 4) = [c5] from by rw [show Tryd.prog.cellsOf 4 = 1 from by kernel_rfl]; rfl)).symm.trans g5
    obtain ⟨a5, e5⟩ := open_bool1 Tryd.underlying4 g5
    subst e0 e1 e2 e3 e4 e5
    exact ⟨a0, a1, a2, a3, a4, a5, rfl, w0, w1, w2, w3, w4⟩

theorem open_msg {n : Nat} {cs : List Value} {x : DataW H × List MemPlace} (h : Rd enc W n 35 cs x) (hs : Sm 35 x.1) :
    ∃ (m : MsgD) (s o i : Value), cs = m.cells s o i ∧ Lists (· < W.heap.size) W m s o i ∧ m.wf := by
  obtain ⟨m, hl, hf⟩ := open_fields Tryd.underlying35 h hs
  have hl : cs.length = 34 := hl
  rcases cs with _ | ⟨c0, cs⟩
  · simp at hl
  rcases cs with _ | ⟨c1, cs⟩
  · simp at hl
  rcases cs with _ | ⟨c2, cs⟩
  · simp at hl
  rcases cs with _ | ⟨c3, cs⟩
  · simp at hl
  rcases cs with _ | ⟨c4, cs⟩
  · simp at hl
  rcases cs with _ | ⟨c5, cs⟩
  · simp at hl
  rcases cs with _ | ⟨c6, cs⟩
  · simp at hl
  rcases cs with _ | ⟨c7, cs⟩
  · simp at hl
  rcases cs with _ | ⟨c8, cs⟩
  · simp at hl
  rcases cs with _ | ⟨c9, cs⟩
  · simp at hl
  rcases cs with _ | ⟨c10, cs⟩
  · simp at hl
  rcases cs with _ | ⟨c11, cs⟩
  · simp at hl
  rcases cs with _ | ⟨c12, cs⟩
  · simp at hl
  rcases cs with _ | ⟨c13, cs⟩
  · simp at hl
  rcases cs with _ | ⟨c14, cs⟩
  · simp at hl
  rcases cs with _ | ⟨c15, cs⟩
  · simp at hl
  rcases cs with _ | ⟨c16, cs⟩
  · simp at hl
  rcases cs with _ | ⟨c17, cs⟩
  · simp at hl
  rcases cs with _ | ⟨c18, cs⟩
  · simp at hl
  rcases cs with _ | ⟨c19, cs⟩
  · simp at hl
  rcases cs with _ | ⟨c20, cs⟩
  · simp at hl
  rcases cs with _ | ⟨c21, cs⟩
  · simp at hl
  rcases cs with _ | ⟨c22, cs⟩
  · simp at hl
  rcases cs with _ | ⟨c23, cs⟩
  · simp at hl
  rcases cs with _ | ⟨c24, cs⟩
  · simp at hl
  rcases cs with _ | ⟨c25, cs⟩
  · simp at hl
  rcases cs with _ | ⟨c26, cs⟩
  · simp at hl
  rcases cs with _ | ⟨c27, cs⟩
  · simp at hl
  rcases cs with _ | ⟨c28, cs⟩
  · simp at hl
  rcases cs with _ | ⟨c29, cs⟩
  · simp at hl
  rcases cs with _ | ⟨c30, cs⟩
  · simp at hl
  rcases cs with _ | ⟨c31, cs⟩
  · simp at hl
  rcases cs with _ | ⟨c32, cs⟩
  · simp at hl
  rcases cs with _ | ⟨c33, cs⟩
  · simp at hl
  obtain rfl : cs = [] := List.eq_nil_of_length_eq_zero (by simp only [List.length_cons] at hl; omega)
  · skip
    obtain ⟨y0, g0, s0⟩ := hf 0 _ rfl
    have g0 : Rd enc W m 3 [c0] y0 := (congrArg (fun q => DataW.trod enc Tryd.prog W 0 (fun _ => true) true m 3 q) (show ([c0, c1, c2, c3, c4, c5, c6, c7, c8, c9, c10, c11, c12, c13, c14, c15, c16, c17, c18, c19, c20, c21, c22, c23, c24, c25, c26, c27, c28, c29, c30, c31, c32, c33].drop 0).take (Tryd.prog.cellsOf 3) = [c0] from by rw [show Tryd.prog.cellsOf 3 = 1 from by kernel_rfl]; rfl)).symm.trans g0
    obtain ⟨a0, e0, w0⟩ := open_int1 Tryd.underlying3 g0
    obtain ⟨y1, g1, s1⟩ := hf 1 _ rfl
    have g1 : Rd enc W m 3 [c1] y1 := (congrArg (fun q => DataW.trod enc Tryd.prog W 0 (fun _ => true) true m 3 q) (show ([c0, c1, c2, c3, c4, c5, c6, c7, c8, c9, c10, c11, c12, c13, c14, c15, c16, c17, c18, c19, c20, c21, c22, c23, c24, c25, c26, c27, c28, c29, c30, c31, c32, c33].drop 1).take (Tryd.prog.cellsOf 3) = [c1] from by rw [show Tryd.prog.cellsOf 3 = 1 from by kernel_rfl]; rfl)).symm.trans g1
    obtain ⟨a1, e1, w1⟩ := open_int1 Tryd.underlying3 g1
    obtain ⟨y2, g2, s2⟩ := hf 2 _ rfl
    have g2 : Rd enc W m 3 [c2] y2 := (congrArg (fun q => DataW.trod enc Tryd.prog W 0 (fun _ => true) true m 3 q) (show ([c0, c1, c2, c3, c4, c5, c6, c7, c8, c9, c10, c11, c12, c13, c14, c15, c16, c17, c18, c19, c20, c21, c22, c23, c24, c25, c26, c27, c28, c29, c30, c31, c32, c33].drop 2).take (Tryd.prog.cellsOf 3) = [c2] from by rw [show Tryd.prog.cellsOf 3 = 1 from by kernel_rfl]; rfl)).symm.trans g2
    obtain ⟨a2, e2, w2⟩ := open_int1 Tryd.underlying3 g2
    obtain ⟨y3, g3, s3⟩ := hf 3 _ rfl
    have g3 : Rd enc W m 3 [c3] y3 := (congrArg (fun q => DataW.trod enc Tryd.prog W 0 (fun _ => true) true m 3 q) (show ([c0, c1, c2, c3, c4, c5, c6, c7, c8, c9, c10, c11, c12, c13, c14, c15, c16, c17, c18, c19, c20, c21, c22, c23, c24, c25, c26, c27, c28, c29, c30, c31, c32, c33].drop 3).take (Tryd.prog.cellsOf 3) = [c3] from by rw [show Tryd.prog.cellsOf 3 = 1 from by kernel_rfl]; rfl)).symm.trans g3
    obtain ⟨a3, e3, w3⟩ := open_int1 Tryd.underlying3 g3
    obtain ⟨y4, g4, s4⟩ := hf 4 _ rfl
    have g4 : Rd enc W m 3 [c4] y4 := (congrArg (fun q => DataW.trod enc Tryd.prog W 0 (fun _ => true) true m 3 q) (show ([c0, c1, c2, c3, c4, c5, c6, c7, c8, c9, c10, c11, c12, c13, c14, c15, c16, c17, c18, c19, c20, c21, c22, c23, c24, c25, c26, c27, c28, c29, c30, c31, c32, c33].drop 4).take (Tryd.prog.cellsOf 3) = [c4] from by rw [show Tryd.prog.cellsOf 3 = 1 from by kernel_rfl]; rfl)).symm.trans g4
    obtain ⟨a4, e4, w4⟩ := open_int1 Tryd.underlying3 g4
    obtain ⟨y5, g5, s5⟩ := hf 5 _ rfl
    have g5 : Rd enc W m 3 [c5] y5 := (congrArg (fun q => DataW.trod enc Tryd.prog W 0 (fun _ => true) true m 3 q) (show ([c0, c1, c2, c3, c4, c5, c6, c7, c8, c9, c10, c11, c12, c13, c14, c15, c16, c17, c18, c19, c20, c21, c22, c23, c24, c25, c26, c27, c28, c29, c30, c31, c32, c33].drop 5).take (Tryd.prog.cellsOf 3) = [c5] from by rw [show Tryd.prog.cellsOf 3 = 1 from by kernel_rfl]; rfl)).symm.trans g5
    obtain ⟨a5, e5, w5⟩ := open_int1 Tryd.underlying3 g5
    obtain ⟨y6, g6, s6⟩ := hf 6 _ rfl
    have g6 : Rd enc W m 3 [c6] y6 := (congrArg (fun q => DataW.trod enc Tryd.prog W 0 (fun _ => true) true m 3 q) (show ([c0, c1, c2, c3, c4, c5, c6, c7, c8, c9, c10, c11, c12, c13, c14, c15, c16, c17, c18, c19, c20, c21, c22, c23, c24, c25, c26, c27, c28, c29, c30, c31, c32, c33].drop 6).take (Tryd.prog.cellsOf 3) = [c6] from by rw [show Tryd.prog.cellsOf 3 = 1 from by kernel_rfl]; rfl)).symm.trans g6
    obtain ⟨a6, e6, w6⟩ := open_int1 Tryd.underlying3 g6
    obtain ⟨y7, g7, s7⟩ := hf 7 _ rfl
    have g7 : Rd enc W m 3 [c7] y7 := (congrArg (fun q => DataW.trod enc Tryd.prog W 0 (fun _ => true) true m 3 q) (show ([c0, c1, c2, c3, c4, c5, c6, c7, c8, c9, c10, c11, c12, c13, c14, c15, c16, c17, c18, c19, c20, c21, c22, c23, c24, c25, c26, c27, c28, c29, c30, c31, c32, c33].drop 7).take (Tryd.prog.cellsOf 3) = [c7] from by rw [show Tryd.prog.cellsOf 3 = 1 from by kernel_rfl]; rfl)).symm.trans g7
    obtain ⟨a7, e7, w7⟩ := open_int1 Tryd.underlying3 g7
    obtain ⟨y8, g8, s8⟩ := hf 8 _ rfl
    have g8 : Rd enc W m 3 [c8] y8 := (congrArg (fun q => DataW.trod enc Tryd.prog W 0 (fun _ => true) true m 3 q) (show ([c0, c1, c2, c3, c4, c5, c6, c7, c8, c9, c10, c11, c12, c13, c14, c15, c16, c17, c18, c19, c20, c21, c22, c23, c24, c25, c26, c27, c28, c29, c30, c31, c32, c33].drop 8).take (Tryd.prog.cellsOf 3) = [c8] from by rw [show Tryd.prog.cellsOf 3 = 1 from by kernel_rfl]; rfl)).symm.trans g8
    obtain ⟨a8, e8, w8⟩ := open_int1 Tryd.underlying3 g8
    obtain ⟨y9, g9, s9⟩ := hf 9 _ rfl
    have g9 : Rd enc W m 4 [c9] y9 := (congrArg (fun q => DataW.trod enc Tryd.prog W 0 (fun _ => true) true m 4 q) (show ([c0, c1, c2, c3, c4, c5, c6, c7, c8, c9, c10, c11, c12, c13, c14, c15, c16, c17, c18, c19, c20, c21, c22, c23, c24, c25, c26, c27, c28, c29, c30, c31, c32, c33].drop 9).take (Tryd.prog.cellsOf 4) = [c9] from by rw [show Tryd.prog.cellsOf 4 = 1 from by kernel_rfl]; rfl)).symm.trans g9
    obtain ⟨a9, e9⟩ := open_bool1 Tryd.underlying4 g9
    obtain ⟨y10, g10, s10⟩ := hf 10 _ rfl
    have g10 : Rd enc W m 4 [c10] y10 := (congrArg (fun q => DataW.trod enc Tryd.prog W 0 (fun _ => true) true m 4 q) (show ([c0, c1, c2, c3, c4, c5, c6, c7, c8, c9, c10, c11, c12, c13, c14, c15, c16, c17, c18, c19, c20, c21, c22, c23, c24, c25, c26, c27, c28, c29, c30, c31, c32, c33].drop 10).take (Tryd.prog.cellsOf 4) = [c10] from by rw [show Tryd.prog.cellsOf 4 = 1 from by kernel_rfl]; rfl)).symm.trans g10
    obtain ⟨a10, e10⟩ := open_bool1 Tryd.underlying4 g10
    obtain ⟨y11, g11, s11⟩ := hf 11 _ rfl
    have g11 : Rd enc W m 4 [c11] y11 := (congrArg (fun q => DataW.trod enc Tryd.prog W 0 (fun _ => true) true m 4 q) (show ([c0, c1, c2, c3, c4, c5, c6, c7, c8, c9, c10, c11, c12, c13, c14, c15, c16, c17, c18, c19, c20, c21, c22, c23, c24, c25, c26, c27, c28, c29, c30, c31, c32, c33].drop 11).take (Tryd.prog.cellsOf 4) = [c11] from by rw [show Tryd.prog.cellsOf 4 = 1 from by kernel_rfl]; rfl)).symm.trans g11
    obtain ⟨a11, e11⟩ := open_bool1 Tryd.underlying4 g11
    obtain ⟨y12, g12, s12⟩ := hf 12 _ rfl
    have g12 : Rd enc W m 26 [c12, c13, c14, c15, c16, c17, c18, c19, c20, c21] y12 := (congrArg (fun q => DataW.trod enc Tryd.prog W 0 (fun _ => true) true m 26 q) (show ([c0, c1, c2, c3, c4, c5, c6, c7, c8, c9, c10, c11, c12, c13, c14, c15, c16, c17, c18, c19, c20, c21, c22, c23, c24, c25, c26, c27, c28, c29, c30, c31, c32, c33].drop 12).take (Tryd.prog.cellsOf 26) = [c12, c13, c14, c15, c16, c17, c18, c19, c20, c21] from by rw [show Tryd.prog.cellsOf 26 = 10 from by kernel_rfl]; rfl)).symm.trans g12
    obtain ⟨⟨op, s⟩, f12, st, wop⟩ := open_op g12 s12
    obtain ⟨y13, g13, s13⟩ := hf 13 _ rfl
    have g13 : Rd enc W m 29 [c22, c23, c24, c25] y13 := (congrArg (fun q => DataW.trod enc Tryd.prog W 0 (fun _ => true) true m 29 q) (show ([c0, c1, c2, c3, c4, c5, c6, c7, c8, c9, c10, c11, c12, c13, c14, c15, c16, c17, c18, c19, c20, c21, c22, c23, c24, c25, c26, c27, c28, c29, c30, c31, c32, c33].drop 22).take (Tryd.prog.cellsOf 29) = [c22, c23, c24, c25] from by rw [show Tryd.prog.cellsOf 29 = 4 from by kernel_rfl]; rfl)).symm.trans g13
    obtain ⟨r0, r1, r2, r3, f13, v0, v1, v2, v3⟩ := open_reply g13 s13
    obtain ⟨y14, g14, s14⟩ := hf 14 _ rfl
    have g14 : Rd enc W m 31 [c26, c27, c28, c29, c30, c31] y14 := (congrArg (fun q => DataW.trod enc Tryd.prog W 0 (fun _ => true) true m 31 q) (show ([c0, c1, c2, c3, c4, c5, c6, c7, c8, c9, c10, c11, c12, c13, c14, c15, c16, c17, c18, c19, c20, c21, c22, c23, c24, c25, c26, c27, c28, c29, c30, c31, c32, c33].drop 26).take (Tryd.prog.cellsOf 31) = [c26, c27, c28, c29, c30, c31] from by rw [show Tryd.prog.cellsOf 31 = 6 from by kernel_rfl]; rfl)).symm.trans g14
    obtain ⟨k0, k1, k2, k3, k4, k5, f14, u0, u1, u2, u3, u4⟩ := open_command g14 s14
    obtain ⟨y15, g15, s15⟩ := hf 15 _ rfl
    have g15 : Rd enc W m 32 [c32] y15 := (congrArg (fun q => DataW.trod enc Tryd.prog W 0 (fun _ => true) true m 32 q) (show ([c0, c1, c2, c3, c4, c5, c6, c7, c8, c9, c10, c11, c12, c13, c14, c15, c16, c17, c18, c19, c20, c21, c22, c23, c24, c25, c26, c27, c28, c29, c30, c31, c32, c33].drop 32).take (Tryd.prog.cellsOf 32) = [c32] from by rw [show Tryd.prog.cellsOf 32 = 1 from by kernel_rfl]; rfl)).symm.trans g15
    obtain ⟨ops, hops, wops⟩ := open_ops g15 s15
    obtain ⟨y16, g16, s16⟩ := hf 16 _ rfl
    have g16 : Rd enc W m 33 [c33] y16 := (congrArg (fun q => DataW.trod enc Tryd.prog W 0 (fun _ => true) true m 33 q) (show ([c0, c1, c2, c3, c4, c5, c6, c7, c8, c9, c10, c11, c12, c13, c14, c15, c16, c17, c18, c19, c20, c21, c22, c23, c24, c25, c26, c27, c28, c29, c30, c31, c32, c33].drop 33).take (Tryd.prog.cellsOf 33) = [c33] from by rw [show Tryd.prog.cellsOf 33 = 1 from by kernel_rfl]; rfl)).symm.trans g16
    obtain ⟨incs, hincs, wincs⟩ := open_incs g16 s16
    subst e0 e1 e2 e3 e4 e5 e6 e7 e8 e9 e10 e11
    unfold OpD.cells at f12
    simp only [List.cons.injEq, and_true] at f12 f13 f14
    obtain ⟨rfl, rfl, rfl, rfl, rfl, rfl, rfl, rfl, rfl, rfl⟩ := f12
    obtain ⟨rfl, rfl, rfl, rfl⟩ := f13
    obtain ⟨rfl, rfl, rfl, rfl, rfl, rfl⟩ := f14
    exact ⟨⟨a0, a1, a2, a3, a4, a5, a6, a7, a8, a9, a10, a11, op, r0, r1, r2, r3, k0, k1, k2, k3, k4, k5, ops, incs⟩, _, c32, c33, rfl, ⟨st, hops, hincs⟩, w0, w1, w2, w3, w4, w5, w6, w7, w8, wop, v0, v1, v2, v3, u0, u1, u2, u3, u4, wops, wincs⟩

end
end Go.Proofs.YtehiaeihkdfclaaDoor
/- From what a row says of operations and messages that came in to what the walks are told of them. -/
namespace Go.Proofs.YtehiaeihkdfclaaDoor
open Go.RowKit
section
variable {H : Type} {enc : TypeId × Value → H} {W : World}
/-- Arguments: a struct by value, a slice. -/
theorem sm_of {ts : List TypeId} {ds : List (DataW H)} (hsz : (DataW.weightsEach Tryd.prog ts ds).all (· ≤ reachBytes) = true) {j : Nat} {t : TypeId} {d : DataW H} (ht : ts[j]? = some t) (hd : ds[j]? = some d) : Sm t d := fun n hn => by
  have := List.all_eq_true.1 hsz n (DataW.weights_mem_each ht hd n hn)
  simpa using this
theorem arg_msg {cs : Array Value} {d : DataW H} {p : List MemPlace} (h : DataW.Trod enc Tryd.prog W 0 (fun _ => true) true 35 (.agg cs) d p) (hs : Sm 35 d) : ∃ (m : MsgD) (s o i : Value), cs = (m.cells s o i).toArray ∧ Lists (· < W.heap.size) W m s o i ∧ m.wf := by
  obtain ⟨fuel, hf⟩ := h
  obtain ⟨m, s, o, i, e, hl, wf⟩ := open_msg (n := fuel) (x := (d, p)) hf hs
  refine ⟨m, s, o, i, ?_, hl, wf⟩
  have e2 : cs.toList = m.cells s o i := e
  rw [← e2]
theorem arg_op {cs : Array Value} {d : DataW H} {p : List MemPlace} (h : DataW.Trod enc Tryd.prog W 0 (fun _ => true) true 26 (.agg cs) d p) (hs : Sm 26 d) : ∃ (x : OpD) (s : Value), cs = (x.cells s).toArray ∧ StepsAt (· < W.heap.size) W s x.steps ∧ x.wf := by
  obtain ⟨fuel, hf⟩ := h
  obtain ⟨q, e, hl, wf⟩ := open_op (n := fuel) (x := (d, p)) hf hs
  refine ⟨q.1, q.2, ?_, hl, wf⟩
  have e2 : cs.toList = q.1.cells q.2 := e
  rw [← e2]
end
end Go.Proofs.YtehiaeihkdfclaaDoor
/- From what a row says of a slice of bytes that came in to what the walks are told of it. -/
namespace Go.Proofs.YtehiaeihkdfclaaDoor
open Go.RowKit

theorem holds_of_row {w : World} {x : Addr} {len cap : Nat} {zs : List Int} (hl : len ≤ cap) (hz : zs.length = cap)
    (hcell : ∀ i, i < zs.length → w.cell? (x.add i) = some (.int .u8 (zs.getD i 0))) (hwz : ∀ n ∈ zs, (Lit.int .u8 n).wf = true) :
    ∃ l, Holds w w.heap.size (some x) len l := by
  have hb : ∀ n ∈ zs, 0 ≤ n ∧ n < 256 := fun n hn => by
    have := bounds_u8 (hwz n hn)
    omega
  refine ⟨(zs.take len).map Int.toNat, by simp; omega, ?_, fun h0 => ?_⟩
  · intro y hy
    obtain ⟨z, hz', rfl⟩ := List.mem_map.1 hy
    have := hb z (List.mem_of_mem_take hz')
    omega
  · obtain ⟨b, off, spot⟩ := x
    have h1 := hcell 0 (by omega)
    have hspot : spot = none := by simpa [Addr.add] using World.cell?_spot h1
    subst hspot
    refine ⟨b, off, rfl, ?_, fun i hi => ?_⟩
    · exact World.block_lt_of_cell? w _ (by simpa [Addr.add] using h1)
    · have h2 := hcell i (by omega)
      rw [Addr.add_lit] at h2
      rw [h2]
      have hiz : i < zs.length := by omega
      have h3 := hb zs[i] (List.getElem_mem hiz)
      have h4 : (((zs.take len).map Int.toNat).getD i 0 : Nat) = zs[i].toNat := by
        simp [List.getD, hi, hiz]
      have h5 : zs.getD i 0 = zs[i] := by simp [List.getD, hiz]
      rw [h4, h5]
      congr 2
      omega

/-- An argument that is a slice of bytes. -/
theorem bytes_of_arg {H : Type} {enc : TypeId × Value → H} {W : World} {a : Option Addr} {len cap : Nat} {d : DataW H} {p : List MemPlace}
    (h : DataW.Trod enc Tryd.prog W 0 (fun _ => true) true 36 (.slice a len cap) d p) : ∃ l, Holds W W.heap.size a len l ∧ len ≤ maxLen := by
  obtain ⟨fuel, hf⟩ := h
  rcases ChangeShapes.open_ints Tryd.underlying36 Tryd.underlying5 (by kernel_rfl) hf with ⟨hcs, _⟩ | ⟨x, l, c, zs, hcs, _, hl, hm, hz, _, hcell, hwz⟩
  · simp [Value.cells] at hcs
    obtain ⟨rfl, rfl, rfl⟩ := hcs
    exact ⟨[], Holds.nil_ _ _, by simp [maxLen]⟩
  · simp [Value.cells] at hcs
    obtain ⟨rfl, rfl, rfl⟩ := hcs
    obtain ⟨l', h'⟩ := holds_of_row hl (by simpa using hz) hcell hwz
    exact ⟨l', h', by omega⟩

theorem cap_of_arg {H : Type} {enc : TypeId × Value → H} {W : World} {t e : TypeId} {a : Option Addr} {len cap : Nat} {d : DataW H} {p : List MemPlace} (ht : Tryd.prog.underlying t = some (.slice e))
    (h : DataW.Trod enc Tryd.prog W 0 (fun _ => true) true t (.slice a len cap) d p) : len ≤ cap ∧ cap ≤ maxLen := by
  obtain ⟨fuel, hf⟩ := h
  rcases Go.Deep.open_slice ht hf with ⟨hcs, _⟩ | ⟨_, l, c, _, _, _, _, hcs, _, hl, hm, _⟩
  · simp [Value.cells] at hcs
    obtain ⟨rfl, rfl, rfl⟩ := hcs
    simp [maxLen]
  · simp [Value.cells] at hcs
    obtain ⟨rfl, rfl, rfl⟩ := hcs
    exact ⟨hl, hm⟩

/-- The form's own reach: no slice that came in takes more than 2^47 bytes. -/
theorem reach_of_arg {H : Type} {enc : TypeId × Value → H} {W : World} {ts : List TypeId} {ds : List (DataW H)} {j : Nat} {t e : TypeId} {a : Option Addr} {len cap : Nat} {d : DataW H} {p : List MemPlace}
    (hsz : (DataW.weightsEach Tryd.prog ts ds).all (· ≤ reachBytes) = true) (ht : Tryd.prog.underlying t = some (.slice e)) (hb : 1 ≤ Tryd.prog.bytesOf e)
    (h : DataW.Trod enc Tryd.prog W 0 (fun _ => true) true t (.slice a len cap) d p) (hts : ts[j]? = some t) (hds : ds[j]? = some d) : len ≤ 140737488355328 := by
  obtain ⟨fuel, hf⟩ := h
  rcases Go.Deep.open_slice ht hf with ⟨hcs, _⟩ | ⟨_, l, c, m, _, D, Pl, hcs, _, hl, hm, hmm, hx, _⟩
  · simp [Value.cells] at hcs
    obtain ⟨rfl, rfl, rfl⟩ := hcs
    omega
  · simp [Value.cells] at hcs
    obtain ⟨rfl, rfl, rfl⟩ := hcs
    have hd := (Prod.mk.inj hx).1
    rw [hd] at hds
    have h1 := sized_slice hsz hts hds ht
    simp only [List.length_map, List.length_range] at h1
    have h2 : (len + (m - len)) * 1 ≤ (len + (m - len)) * Tryd.prog.bytesOf e := Nat.mul_le_mul_left _ hb
    have h3 := reachBytes_lt
    omega
end Go.Proofs.YtehiaeihkdfclaaDoor
/- From the row's condition to the table's sixteen cells; the start in which the table lies. -/
namespace Go.Proofs.YtehiaeihkdfclaaDoor
open Go.RowKit

def halvesLaid : List (String × DataW Unit) := [("drover/envelope.halves", Rows.laid_drover_envelope_halves)]
theorem tab_start (os : Os) (args : Array Value) : laidMetH Tryd.prog halvesLaid ((World.doorLaid Tryd.prog 400 os).forCall (fun _ _ => 0) ⟨#[], args, []⟩).memory :=
  laidMetH_of_parts3 (fuel := 8) (laidMet_of_run' 8 (by kernel_rfl) (by kernel_rfl)) (by kernel_rfl) (by kernel_rfl)
theorem tab_of_laid {W : World} (h : laidMetH Tryd.prog halvesLaid W) : Tab W := by
  rw [MakeChecks.laidMetH_plain _ _ _ (by kernel_rfl)] at h
  have hN : Tryd.prog.globalNamed "drover/envelope.halves" = some 0 := by kernel_rfl
  have hT : (Tryd.prog.globals[0]?).map (·.type) = some 131 := by kernel_rfl
  have hI : Lib.TabIs Tryd.prog W "drover/envelope.halves" .u32 (tab.map fun x : Nat => (x : Int)) :=
    Lib.tabIs_of_head (rest := []) hN hT Tryd.underlying131 Tryd.underlying77 (by kernel_rfl) (by kernel_rfl) h
  have hc : ∀ i, i < 16 → W.cell? ⟨0, i, none⟩ = some (.int .u32 ((tab.getD i 0 : Nat) : Int)) := fun i hi => by
    have := hI.cell hN i (by simpa [tab] using hi)
    rw [this]
    have hl : i < tab.length := by simpa [tab] using hi
    simp [List.getD, hl]
  refine ⟨?_, hc⟩
  rcases Nat.eq_zero_or_pos W.heap.size with h0 | h0
  · have h1 := hc 0 (by omega)
    have h2 : W.heap[0]? = none := Array.getElem?_eq_none (by omega)
    simp [World.cell?, h2] at h1
  · exact h0
end Go.Proofs.YtehiaeihkdfclaaDoor
