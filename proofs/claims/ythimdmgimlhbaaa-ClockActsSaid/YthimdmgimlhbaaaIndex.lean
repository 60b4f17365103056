/- The closure of remove, and the library's IndexFunc by it: where a timer stands in a row. -/
import Derived.Test.YthimdmgimlhbaaaSink
import Derived.Laws.StructEq
namespace Go.Proofs.Ythimdmgimlhbaaa
open Go.RowKit

theorem eql_timer (s t : Int × Int) (w : World) : (binOp .eql 60 (tagg s) (tagg t)).run Try.prog w = .ok (.bool (decide (s = t))) w := by
  have u3 := Try.underlying3
  have hS : Try.prog.underlying 60 = some (.struct (Try.prog.fieldsOf 60)) := by kernel_rfl
  have hp : Try.prog.stoodInHeld 60 = false := by kernel_rfl
  obtain ⟨a, b⟩ := s
  obtain ⟨c, d⟩ := t
  unfold tagg
  rw [run_eql_struct, show (10000 : Nat) = 9999 + 1 from rfl, run_equalIn_struct w 9999 60 _ _ hS hp]
  simp only [Program.fieldsOf, Try.underlying60]
  go_simp
  by_cases h0 : a = c <;> by_cases h1 : b = d <;> simp [h0, h1]

theorem closure_any (x t : Int × Int) (g : Nat) (w : World) (hg : w.heap[g]? = some (.cells #[.int .i64 t.1, .int .i64 t.2] 60 (0, 0))) :
    Calls Try.prog 30 #[tagg x, .pointer (some ⟨g, 0, none⟩)] w fun e w' => e = .returned (.bool (decide (x = t))) ∧ Below w.heap.size w w' := by
  have he := fun w => eql_timer x t w
  obtain ⟨x1, x2⟩ := x
  obtain ⟨t1, t2⟩ := t
  simp only at hg
  have hlt := lt_of_block hg
  have c0 := cell_of_row w g 0 _ _ _ hg
  have c1 := cell_of_row w g 1 _ _ _ hg
  simp only [List.getElem?_toArray, List.getElem?_cons_zero, List.getElem?_cons_succ] at c0 c1
  have HBW : Hid (Below w.heap.size w (w.alloc (.cells #[.int .i64 x1, .int .i64 x2] 60 (0, 0)))) := (Below.refl _ _).alloc (Nat.le_refl _) _
  unfold tagg at he ⊢
  simp only at he ⊢
  clear hg
  go_enter Try.func30, Try.ntmps30
  go_wp2
  go_ret
  exact ⟨ret_bool (by simp), HBW.out⟩

/-- Where it stands. -/
def IndexOf (w : World) (n : Nat) (l : List (Int × Int)) (t : Int × Int) (e : Ending) (w' : World) : Prop := ∃ i : Nat, i < n ∧ l.getD i (0, 0) = t ∧ e = .returned (.int .i64 (i : Int)) ∧ Below w.heap.size w w'

set_option maxHeartbeats 2000000 in
theorem index_any (base g n c b : Nat) (l : List (Int × Int)) (t : Int × Int) (w : World) (h : TRow w base g n c l) (hn : n ≤ 1000000) (hg : w.heap[b]? = some (.cells #[.int .i64 t.1, .int .i64 t.2] 60 (0, 0))) (hm : t ∈ l) :
    Calls Try.prog 29 #[.slice (some ⟨g, 0, none⟩) n c, .func (.func 30) #[] #[.pointer (some ⟨b, 0, none⟩)]] w (IndexOf w n l t) := by
  obtain ⟨hnc, hcm⟩ := h.cap
  unfold maxLen at hcm
  have H := hide h
  have HM := hide hm
  have HG := hide hg
  clear h hm hg
  go_enter Try.func29, Try.ntmps29
  go_wp2
  go_loopw [8] (fun v wr => ∃ k : Nat, v = .int .i64 (k : Int) ∧ k ≤ n ∧ (∀ m, m < k → l.getD m (0, 0) ≠ t) ∧ Below w.heap.size w wr) (fun v _ => n - (intOf v).toNat)
  case atStart => exact ⟨0, rfl, by omega, fun m h => by omega, Below.refl _ _⟩
  case round =>
    obtain ⟨k, rfl, hk, hno, hb⟩ := hrel
    have hkn : k < n := by
      rcases Nat.lt_or_ge k n with h | h
      · exact h
      · obtain ⟨i, hi, e⟩ := List.getElem_of_mem HM.out
        have hl := H.out.len
        exact absurd (by rw [List.getD_eq_getElem?_getD, List.getElem?_eq_getElem hi]; exact e) (hno i (by omega))
    have HN := hide hno
    have HB := hide hb
    have HR : Hid (TRow wr base g n c l) := H.out.later hb
    have C := hide (closure_any (l.getD k (0, 0)) t b wr ((hb.block b (lt_of_block HG.out)).trans HG.out))
    clear hno hb
    by_cases he : l.getD k (0, 0) = t
    · have HE := hide he
      rw [decide_eq_true he] at C
      clear he
      go_wp2_with (refine wpList_load_mid (by rfl) 60 _ (by rfl) g (k * 2) (by rfl) _ _ (HR.out.range hkn) Try.underlying60 (by rfl) (by kernel_rfl) ?_)
      refine C.out.mono ?_
      rintro e w1 ⟨rfl, hb1⟩
      have HB1 := hide (HB.out.trans (hb1.mono HB.out.size))
      clear hb1 C
      go_wp2
      go_ret
      exact ⟨k, hkn, HE.out, rfl, HB1.out⟩
    · have HE : Hid (∀ m, m < k + 1 → l.getD m (0, 0) ≠ t) := fun m hm => by
        by_cases e : m = k
        · subst e; exact he
        · exact HN.out m (by omega)
      rw [decide_eq_false he] at C
      clear he
      go_wp2_with (refine wpList_load_mid (by rfl) 60 _ (by rfl) g (k * 2) (by rfl) _ _ (HR.out.range hkn) Try.underlying60 (by rfl) (by kernel_rfl) ?_)
      refine C.out.mono ?_
      rintro e w1 ⟨rfl, hb1⟩
      have HB1 := hide (HB.out.trans (hb1.mono HB.out.size))
      clear hb1 C
      go_wp2
      go_roundw
      case rel => exact ⟨k + 1, by go_num, by omega, HE.out, HB1.out⟩
      case measure => simp [intOf]; omega
end Go.Proofs.Ythimdmgimlhbaaa
