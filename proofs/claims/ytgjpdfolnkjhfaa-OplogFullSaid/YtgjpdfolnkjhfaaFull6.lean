/- The walk over droverlaw06.OplogFull: a log has just as many operations as may be. -/
import Derived.Test.YtgjpdfolnkjhfaaLives6
namespace Go.Proofs.Ytgjpdfolnkjhfaa
open Go.RowKit

theorem rep_get (z : List Value) (hz : z.length = 10) : ∀ (n j : Nat), j < n * 10 → ((List.replicate n z).flatten)[j]? = z[j % 10]?
  | 0, j, h => by omega
  | n + 1, j, h => by
    rw [List.replicate_succ, List.flatten_cons]
    by_cases hj : j < 10
    · rw [List.getElem?_append_left (by omega), Nat.mod_eq_of_lt hj]
    · rw [List.getElem?_append_right (by omega), hz, rep_get z hz n (j - 10) (by omega), ← Nat.mod_eq_sub_mod (by omega)]
/-- A list of operations that are none. -/
def blanks (k : Nat) : List OpD := List.replicate k OpD.zero
def blankCells (k : Nat) : Array Value := madeCells (Value.agg (OpD.zero.cells (.slice none 0 0)).toArray).cells (k * 10)
theorem blanks_mild (k : Nat) : Mild (blanks k) := by
  intro o ho
  rw [List.eq_of_mem_replicate ho]
  decide
theorem blanks_at (k : Nat) (hk : k ≤ maxLen) (w : World) : OpsAt (fun _ => True) (w.alloc (.cells (blankCells k) 35 (0, 0))) (.slice (some ⟨w.heap.size, 0, none⟩) k k) (blanks k) := by
  have hb : (w.alloc (.cells (blankCells k) 35 (0, 0))).heap[w.heap.size]? = some (.cells (blankCells k) 35 (0, 0)) := heap_alloc_new _ _
  have hfl : (List.replicate k (OpD.zero, Value.slice none 0 0)).flatMap (fun p => p.1.cells p.2) = (List.replicate k (OpD.zero.cells (.slice none 0 0))).flatten := by
    rw [List.flatMap_def, List.map_replicate]
  refine ⟨List.replicate k (OpD.zero, .slice none 0 0), by simp [blanks], ⟨?_, ?_, some ⟨w.heap.size, 0, none⟩, k, by simp, by simp, hk, (fun h => by cases h), fun _ => ⟨w.heap.size, 0, rfl, trivial, lt_of_block hb, fun j u hj => ?_⟩⟩, ?_⟩
  · rw [flat_len (fun p : OpD × Value => p.1.cells p.2) 10 _ fun _ _ => rfl]
  · intro u hu
    obtain ⟨p, hp, h1⟩ := List.mem_flatMap.1 hu
    rw [List.eq_of_mem_replicate hp] at h1
    exact OpD.zero.one rfl u h1
  · rw [hfl] at hj
    have hlt : j < k * 10 := by
      have := (List.getElem?_eq_some_iff.1 hj).1
      have h2 : ((List.replicate k (OpD.zero.cells (.slice none 0 0))).flatten).length = k * 10 := by rw [← hfl, flat_len (fun p : OpD × Value => p.1.cells p.2) 10 _ fun _ _ => rfl, List.length_replicate]
      omega
    rw [rep_get _ rfl k j hlt] at hj
    rw [Nat.zero_add, cell_of_row _ _ j _ _ _ hb]
    have hm : j % 10 < 10 := Nat.mod_lt _ (by decide)
    have he : (OpD.zero.cells (.slice none 0 0)).toArray[j % 10]! = u := by
      rw [getElem!_def]
      have : (OpD.zero.cells (.slice none 0 0)).toArray[j % 10]? = some u := by simpa using hj
      rw [this]
    unfold blankCells madeCells
    rw [Array.getElem?_map, Array.getElem?_range, if_pos hlt]
    exact congrArg some he
  · intro p hp
    rw [List.eq_of_mem_replicate hp]
    exact StepsAt.nil_ _ _
theorem make_ops (k : Nat) (hk : k ≤ 100000) (w : World) : (Instr.makeSlice 28 (.int .i64 (k : Int)) (.int .i64 (k : Int))).run Try.prog w = .ok (.slice (some ⟨w.heap.size, 0, none⟩) k k) (w.alloc (.cells (blankCells k) 35 (0, 0))) := by
  obtain ⟨i0, hi, hz0, hz1, hz2⟩ := info_parts Try.infoOp
  have := run_make (P := Try.prog) w 28 35 i0 _ Try.underlying28 hi hz0 .i64 .i64 (k : Int) (k : Int) (by omega) (Int.le_refl _) (by rw [hz2]; omega) (by omega)
  rw [this, hz1]
  rfl

/-- What the calls of the law leave. -/
theorem full_1 (k : Nat) (hk : k < 2001) : joinR [] 0 0 (blanks k) = (blanks k, 0) := by
  unfold joinR blanks
  rw [if_neg (by simp), if_neg (by simp; omega)]
  simp
theorem full_2 (k : Nat) (hk : k < 2001) : joinR (blanks k) 0 (k : Int) (blanks (2001 - k)) = (blanks k, 7) := by
  unfold joinR blanks
  rw [if_neg (by simp), if_pos (by simp; omega)]
theorem full_3 (k : Nat) (hk : k < 2001) : joinR (blanks k) 0 (k : Int) (blanks (2000 - k)) = (blanks 2000, 0) := by
  unfold joinR blanks
  rw [if_neg (by simp), if_neg (by simp; omega), Int.toNat_natCast, List.take_replicate, Nat.min_self, List.replicate_append_replicate]
  congr 2
  omega
theorem full_4 : addR (blanks 2000) OpD.zero = (blanks 2000, 0, 7) := by
  unfold addR blanks
  rw [if_neg (by rw [List.length_replicate]; decide)]
theorem full_5 : replR (blanks 2000) 0 (blanks 2001) 0 = (blanks 2000, 0, 7) := by
  unfold replR blanks
  rw [if_pos (by rw [List.length_replicate]; decide)]
theorem full_6 : cutR (blanks 2000) 0 1999 = (blanks 1999, 0) := by
  unfold cutR blanks
  rw [if_neg (by decide), List.take_replicate]
  rfl

set_option maxHeartbeats 4000000 in
set_option maxRecDepth 100000 in
theorem law_full (n : Nat) (w : World) (hn : n < 18446744073709551616) : Calls Try.prog 7 #[.int .u64 (n : Int)] w fun e w' => e = .returned (.bool true) ∧ Below w.heap.size w w' := by
  obtain ⟨k, hk⟩ : ∃ k, k = n % 2001 := ⟨_, rfl⟩
  have hk1 : k < 2001 := by omega
  have hk2 : (n : Int) % 2001 = (k : Int) := by omega
  have m1 := make_ops k (by omega)
  have m2 := make_ops (2001 - k) (by omega)
  have m3 := make_ops (2000 - k) (by omega)
  have m4 := make_ops 2001 (by omega)
  rw [show ((2001 - k : Nat) : Int) = 2001 - (k : Int) from by omega] at m2
  rw [show ((2000 - k : Nat) : Int) = 2000 - (k : Int) from by omega] at m3
  rw [show ((2001 : Nat) : Int) = 2001 from rfl] at m4
  clear hk
  go_enter Try.func7, Try.ntmps7
  go_wp2_with (fail)
  refine (lb_new w).mono ?_
  rintro e w1 ⟨l, rfl, hl⟩
  have H2 := hide (lb_join 0 _ (blanks k) (hl.below ((Below.refl _ _).alloc (Nat.le_refl _) _)) (blanks_at k (by unfold maxLen; omega) w1) (blanks_mild k))
  rw [full_1 k hk1] at H2
  clear hl
  go_wp2_with (fail)
  refine H2.out.mono ?_
  rintro e w2 ⟨rfl, hl⟩
  have H3 := hide (lb_join (k : Int) _ (blanks (2001 - k)) (hl.below ((Below.refl _ _).alloc (Nat.le_refl _) _)) (blanks_at (2001 - k) (by unfold maxLen; omega) w2) (blanks_mild _))
  rw [full_2 k hk1] at H3
  clear hl H2
  go_wp2_with (fail)
  refine H3.out.mono ?_
  rintro e w3 ⟨rfl, hl⟩
  have H4 := hide (lb_join (k : Int) _ (blanks (2000 - k)) (hl.below ((Below.refl _ _).alloc (Nat.le_refl _) _)) (blanks_at (2000 - k) (by unfold maxLen; omega) w3) (blanks_mild _))
  rw [full_3 k hk1] at H4
  clear hl H3
  go_wp2_with (fail)
  refine H4.out.mono ?_
  rintro e w4 ⟨rfl, hl⟩
  have H5 := hide (lb_add (F := fun _ => True) OpD.zero (.slice none 0 0) hl (StepsAt.nil_ _ _) (by decide))
  rw [full_4] at H5
  clear hl H4
  go_wp2_with (fail)
  refine H5.out.mono ?_
  rintro e w5 ⟨rfl, hl⟩
  have H6 := hide (lb_last hl)
  rw [show (blanks 2000).length = 2000 from List.length_replicate] at H6
  have HL := hide hl
  clear hl H5
  go_wp2_with (fail)
  refine H6.out.mono ?_
  rintro e w6 ⟨rfl, rfl⟩
  have H7 := hide (lb_replace 0 _ (blanks 2001) (HL.out.below ((Below.refl _ _).alloc (Nat.le_refl _) _)) (blanks_at 2001 (by unfold maxLen; omega) w5) (blanks_mild _))
  rw [full_5] at H7
  clear HL H6
  go_wp2_with (fail)
  refine H7.out.mono ?_
  rintro e w7 ⟨rfl, hl⟩
  have H8 := hide (lb_cut 1999 hl)
  rw [full_6] at H8
  clear hl H7
  go_wp2_with (fail)
  refine H8.out.mono ?_
  rintro e w8 ⟨rfl, hl⟩
  have HB := hide hl.2
  clear hl H8
  go_wp2_with (fail)
  refine (lives_any w8).mono ?_
  rintro e w9 ⟨rfl, hb⟩
  have HB9 := hide (HB.out.trans (hb.mono HB.out.size))
  clear hb
  go_wp2
  go_ret
  exact ⟨rfl, HB9.out⟩
end Go.Proofs.Ytgjpdfolnkjhfaa
