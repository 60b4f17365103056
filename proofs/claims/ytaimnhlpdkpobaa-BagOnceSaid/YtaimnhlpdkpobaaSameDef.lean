/- slices.Equal at steps, the document's SameDef. -/
import Derived.Test.YtaimnhlpdkpobaaEqS
import Derived.Test.YtaimnhlpdkpobaaOrder
import Derived.Test.YtaimnhlpdkpobaaOrderT
import Derived.Test.YtaimnhlpdkpobaaGrown
import Derived.Deep.QuietTactic
import Derived.BigQuiet
namespace Go.Proofs.Ytaimnhlpdkpobaa
open Go.RowKit

/-- The first k are alike. -/
def Alike {α : Type} (l m : List α) (k : Nat) : Prop := ∀ i, i < k → l[i]? = m[i]?
section
variable {α : Type} {l m : List α} {k : Nat}
theorem Alike.zero (l m : List α) : Alike l m 0 := fun i hi => by omega
theorem Alike.next (h : Alike l m k) (he : l[k]? = m[k]?) : Alike l m (k + 1) := fun i hi => by
  by_cases hk : i = k
  · rw [hk, he]
  · exact h i (by omega)
theorem Alike.all (h : Alike l m k) (h1 : l.length = k) (h2 : m.length = k) : l = m := by
  apply List.ext_getElem?
  intro i
  by_cases hi : i < k
  · exact h i hi
  · rw [List.getElem?_eq_none (by omega), List.getElem?_eq_none (by omega)]
theorem ne_at {x y : α} (hx : l[k]? = some x) (hy : m[k]? = some y) (hne : x ≠ y) : l ≠ m := by
  rintro rfl
  rw [hx] at hy
  exact hne (Option.some.inj hy)
end
theorem neq_step_same (s : StepD) (w : World) : (binOp .neq 93 (.agg (s.cells).toArray) (.agg (s.cells).toArray)).run Try.prog w = .ok (.bool false) w := by rw [neq_step]; simp
theorem neq_step_other {s t : StepD} (h : s ≠ t) (w : World) : (binOp .neq 93 (.agg (s.cells).toArray) (.agg (t.cells).toArray)).run Try.prog w = .ok (.bool true) w := by rw [neq_step]; simp [h]

set_option maxHeartbeats 1000000 in
theorem same_def (F G : Nat → Prop) (a1 a2 : ByteArray) (v v2 : Value) (l m : List StepD) (w : World) (hl : StepsAt F w v l) (hm : StepsAt G w v2 m) :
    Calls Try.prog 49 #[.agg #[.string a1, v], .agg #[.string a2, v2]] w fun e w' => e = .returned (.bool (decide (a1 = a2 ∧ l = m))) ∧ Below w.heap.size w w' := by
  obtain ⟨A, c, rfl, h1, h2, _⟩ := FlatAt.shape hl
  obtain ⟨A2, c2, rfl, h3, h4, _⟩ := FlatAt.shape hm
  unfold maxLen at h2 h4
  obtain ⟨n, hn⟩ : ∃ n, l.length = n := ⟨_, rfl⟩
  obtain ⟨n2, hn2⟩ : ∃ n2, m.length = n2 := ⟨_, rfl⟩
  rw [hn] at h1 hl ⊢
  rw [hn2] at h3 hm ⊢
  have hbw : Below w.heap.size w ((w.alloc (.cells #[.string a1, .slice A n c] 31 (0, 0))).alloc (.cells #[.string a2, .slice A2 n2 c2] 31 (0, 0))) := ((Below.refl _ _).alloc (Nat.le_refl _) _).alloc (by simp) _
  have H1 := hide (hl.kept (Kept.of_below hbw F))
  have H2 := hide (hm.kept (Kept.of_below hbw G))
  have HBW := hide hbw
  have HN := hide hn
  have HN2 := hide hn2
  clear hl hm hbw hn hn2
  by_cases ha : a1 = a2
  · subst ha
    have hs1 : (a1.toList == a1.toList) = true := by simp
    have hs2 : (a1.toList != a1.toList) = false := by simp
    by_cases hnm : n = n2
    · subst hnm
      have ht : ((n : Int) != (n : Int)) = false := by simp
      go_enter Try.func49, Try.ntmps49
      go_wp2
      have cA : ((w.alloc (.cells #[.string a1, .slice A n c] 31 (0, 0))).alloc (.cells #[.string a1, .slice A2 n c2] 31 (0, 0))).cell? ⟨w.heap.size, 1, none⟩ = some (.slice A n c) := cell_of_row _ _ 1 _ _ _ ((Below.block ((Below.refl _ _).alloc (Nat.le_refl _) _) w.heap.size (by simp)).trans (heap_alloc_new w _))
      have cB : ((w.alloc (.cells #[.string a1, .slice A n c] 31 (0, 0))).alloc (.cells #[.string a1, .slice A2 n c2] 31 (0, 0))).cell? ⟨w.heap.size + 1, 1, none⟩ = some (.slice A2 n c2) := cell_of_row _ _ 1 _ _ _ (heap_alloc2_new w _ _)
      generalize ((w.alloc (.cells #[.string a1, .slice A n c] 31 (0, 0))).alloc (.cells #[.string a1, .slice A2 n c2] 31 (0, 0))) = W at H1 H2 HBW cA cB ⊢
      go_loopw [23] (fun i wr => ∃ k : Nat, k ≤ n ∧ i = .int .i64 (k : Int) ∧ Alike l m k ∧ ∃ q, wr = W.drewN q) (fun i _ => n - (intOf i).toNat)
      case atStart => exact ⟨0, by omega, rfl, Alike.zero _ _, 0, rfl⟩
      case round =>
        obtain ⟨k, hk, rfl, hup, q, rfl⟩ := hrel
        have HU := hide hup
        clear hup
        by_cases hkn : k < n
        · obtain ⟨x, b, off, c', hx, hv, _, _, _, hr⟩ := StepsAt.at_ H1.out (i := k) (by rw [HN.out]; exact hkn)
          rw [HN.out] at hv
          obtain ⟨rfl, rfl⟩ : A = some ⟨b, off, none⟩ ∧ c = c' := by injection hv with e1 _ e3; exact ⟨e1, e3⟩
          obtain ⟨y, b2, off2, c2', hy, hv2, _, _, _, hr2⟩ := StepsAt.at_ H2.out (i := k) (by rw [HN2.out]; exact hkn)
          rw [HN2.out] at hv2
          obtain ⟨rfl, rfl⟩ : A2 = some ⟨b2, off2, none⟩ ∧ c2 = c2' := by injection hv2 with e1 _ e3; exact ⟨e1, e3⟩
          obtain ⟨r0, r1, r2, r3, r4, r5⟩ := range_step hr
          obtain ⟨s0, s1, s2, s3, s4, s5⟩ := range_step hr2
          have HX := hide hx
          have HY := hide hy
          clear hx hy hv hv2 hr hr2
          by_cases he : x = y
          · subst he
            have hq := fun w => neq_step_same x w
            simp only [StepD.cells] at hq
            go_wp2
            go_quiet (fail)
            go_wp2
            go_roundw
            case rel => exact ⟨k + 1, by omega, by go_num, HU.out.next (HX.out.trans HY.out.symm), _, rfl⟩
            case measure => simp [intOf]; omega
          · have hq := fun w => neq_step_other he w
            simp only [StepD.cells] at hq
            have HE := hide (ne_at HX.out HY.out he)
            clear he
            go_wp2
            go_quiet (fail)
            go_wp2
            go_ret
            exact ⟨ret_bool (by simp [HE.out]), HBW.out.trans ((below_drewN _ _ _).trans (below_drewN _ _ _))⟩
        · go_wp2
          go_ret
          exact ⟨ret_bool (by simp [HU.out.all (by have := HN.out; omega) (by have := HN2.out; omega)]), HBW.out.trans (below_drewN _ _ _)⟩
    · have ht : ((n : Int) != (n2 : Int)) = true := by simp; omega
      have HE : Hid (l ≠ m) := by
        rintro rfl
        exact hnm (HN.out.symm.trans HN2.out)
      go_enter Try.func49, Try.ntmps49
      go_wp2
      go_ret
      exact ⟨ret_bool (by simp [HE.out]), HBW.out⟩
  · have hs0 : (a1.toList == a2.toList) = false := by rw [str_eq]; simpa using ha
    have hs1 : (a1.toList != a2.toList) = true := by unfold bne; rw [hs0]; rfl
    have HE := hide ha
    clear ha
    go_enter Try.func49, Try.ntmps49
    go_wp2
    go_ret
    exact ⟨ret_bool (by simp [HE.out]), HBW.out⟩
end Go.Proofs.Ytaimnhlpdkpobaa
