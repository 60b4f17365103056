/- The document's votes in memory: a count of nodes and a rising list; NewVotes, Has, Enough, Add. -/
import Derived.Test.YtnmkndnaomgmhaaVotM
import Derived.RegionTactic
import Derived.BigRegion
namespace Go.Proofs.Ytnmkndnaomgmhaa
open Go.RowKit

/-- The block r holds the document's votes of n nodes, those in L. -/
def RefAt (w : World) (r : Nat) (n : Int) (L : List Int) : Prop := ∃ A c, w.heap[r]? = some (.cells #[.int .i64 n, .slice A L.length c] 33 (0, 0)) ∧ w.ownsRow (r + 1) 3 1 (.slice A L.length c) L.length (ivs L) ∧ Fit L
theorem RefAt.lt {w : World} {r : Nat} {n : Int} {L : List Int} (h : RefAt w r n L) : r < w.heap.size := h.elim fun _ h => h.elim fun _ h => lt_of_block h.1
theorem RefAt.other {w w' : World} {r g : Nat} {n : Int} {L : List Int} (h : RefAt w r n L) (hg : w.grownBy w' (some g)) (hgr : g < r) : RefAt w' r n L := by
  obtain ⟨A, c, h1, h2, h3⟩ := h
  refine ⟨A, c, (hg.block r (lt_of_block h1) (fun e => by have := Option.some.inj e; omega)).trans h1, ?_, h3⟩
  refine h2.kept hg (.inr fun e => ?_)
  have := (h2.lt g e).1
  omega
theorem RefAt.drewN {w : World} {r : Nat} {n : Int} {L : List Int} (h : RefAt w r n L) (q : Nat) : RefAt (w.drewN q) r n L := by
  obtain ⟨A, c, h1, h2, h3⟩ := h
  exact ⟨A, c, h1, own_same h2 (fun _ _ => rfl), h3⟩
theorem RefAt.later {w w' : World} {r : Nat} {n : Int} {L : List Int} (h : RefAt w r n L) (hb : Below w.heap.size w w') : RefAt w' r n L := by
  obtain ⟨A, c, h1, h2, h3⟩ := h
  refine ⟨A, c, (hb.block r (lt_of_block h1)).trans h1, h2.kept (grown_later hb (some r)) (.inr fun e => by have := (h2.lt r e).1; omega), h3⟩

theorem refnew_no (w : World) {n : Int} (hn : okN n = false) : Calls Try.prog 19 #[.int .i64 n] w fun e w' => e = .returned (.pointer none) ∧ w' = w := by
  have C := hide (is_any n)
  rw [hn] at C
  clear hn
  go_enter Try.func19, Try.ntmps19
  go_wp2_with (go_at_call 34; refine (C.out _).mono ?_; rintro e w1 ⟨rfl, rfl⟩)
  go_ret
  exact ⟨rfl, rfl⟩
theorem refnew_yes (w : World) {n : Int} (hn : okN n = true) : Calls Try.prog 19 #[.int .i64 n] w fun e w' => e = .returned (.pointer (some ⟨w.heap.size, 0, none⟩)) ∧ w' = w.alloc (.cells #[.int .i64 n, .slice none 0 0] 33 (0, 0)) := by
  have C := hide (is_any n)
  rw [hn] at C
  clear hn
  go_enter Try.func19, Try.ntmps19
  go_wp2_with (go_at_call 34; refine (C.out _).mono ?_; rintro e w1 ⟨rfl, rfl⟩)
  go_ret
  exact ⟨rfl, rfl⟩
theorem refat_new (w : World) (n : Int) : RefAt (w.alloc (.cells #[.int .i64 n, .slice none 0 0] 33 (0, 0))) w.heap.size n [] := ⟨none, 0, heap_alloc_new _ _, own_none, by simp [Fit]⟩

theorem take_snoc {L : List Int} {k : Nat} (hk : k < L.length) : L.take (k + 1) = L.take k ++ [L.getD k 0] := by
  rw [List.take_succ_eq_append_getElem hk]
  simp [List.getD, hk]
set_option maxHeartbeats 1000000 in
theorem refhas_any {w : World} {r : Nat} {n : Int} {L : List Int} (h : RefAt w r n L) (x : Int) (hL : L.length ≤ 1000) : Calls Try.prog 24 #[.pointer (some ⟨r, 0, none⟩), .int .i64 x] w fun e w' => e = .returned (.bool (decide (x ∈ L))) ∧ w = w' := by
  obtain ⟨A, c, hb, ho, hf⟩ := h
  have c1 := cell_of_row w r 1 _ _ _ hb
  obtain ⟨A', c', hv, hnc, _, hi⟩ := IHolds.of_own ho hf
  obtain ⟨rfl, rfl⟩ : A = A' ∧ c = c' := by injection hv with e1 _ e3; exact ⟨e1, e3⟩
  obtain ⟨m, hm⟩ : ∃ m, L.length = m := ⟨_, rfl⟩
  have HI := hide hi
  have HM := hide hm
  rw [hm] at c1 hnc HI hL
  clear hb ho hf hv hi hm
  go_enter Try.func24, Try.ntmps24
  go_wp2
  go_loopw [12] (fun j wr => ∃ k : Nat, k ≤ m ∧ j = .int .i64 (k : Int) ∧ x ∉ L.take k ∧ w = wr) (fun j _ => m - (Go.RowKit.intOf j).toNat)
  case atStart => exact ⟨0, by omega, rfl, by simp, by first | rfl | trivial⟩
  case round =>
    obtain ⟨k, hk, rfl, hno, rfl⟩ := hrel
    have HNO := hide hno
    clear hno
    by_cases hkm : k < m
    · obtain ⟨b, off, rfl, _, hc⟩ := HI.out.at_ hkm
      have HT := hide (take_snoc (L := L) (k := k) (by have := HM.out; omega))
      obtain ⟨y, hy⟩ : ∃ y, y = L.getD k 0 := ⟨_, rfl⟩
      rw [← hy] at hc HT
      have HY := hide hy
      clear hy
      by_cases he : y = x
      · have H : Hid (decide (x ∈ L) = true) := by
          show _ = _
          rw [decide_eq_true_eq]
          have h1 : x ∈ L.take (k + 1) := by rw [HT.out, he]; simp
          exact List.mem_of_mem_take h1
        have ht : (y == x) = true := by simpa using he
        clear he
        go_wp2
        go_ret
        exact ⟨ret_bool H.out.symm, rfl⟩
      · have H : Hid (x ∉ L.take (k + 1)) := by
          show ¬ _
          rw [HT.out, List.mem_append]
          intro h
          rcases h with h | h
          · exact HNO.out h
          · exact he (List.mem_singleton.1 h).symm
        have ht : (y == x) = false := by simpa using he
        clear he
        go_wp2
        go_roundw
        case rel => exact ⟨k + 1, by omega, by go_num, H.out, by first | rfl | trivial⟩
        case measure => simp [Go.RowKit.intOf]; omega
    · obtain rfl : k = m := by omega
      have H : Hid (decide (x ∈ L) = false) := by
        show _ = _
        rw [decide_eq_false_iff_not]
        have h1 := HNO.out
        rw [List.take_of_length_le (by have := HM.out; omega)] at h1
        exact h1
      have hlt : decide (k < k) = false := by simp
      go_wp2
      go_ret
      exact ⟨ret_bool H.out.symm, rfl⟩
theorem refenough_any {w : World} {r : Nat} {n : Int} {L : List Int} (h : RefAt w r n L) : Draws w 27 #[.pointer (some ⟨r, 0, none⟩)] (.bool (decide (quorI n ≤ (L.length : Int)))) := by
  unfold Draws
  obtain ⟨A, c, hb, ho, hf⟩ := h
  have c0 := cell_of_row w r 0 _ _ _ hb
  have c1 := cell_of_row w r 1 _ _ _ hb
  have CQ := hide (fun w => (refquorum_any n).draws w)
  obtain ⟨m, hm⟩ : ∃ m, L.length = m := ⟨_, rfl⟩
  obtain ⟨y, hy⟩ : ∃ y, y = quorI n := ⟨_, rfl⟩
  rw [hm] at c1 ⊢
  rw [← hy] at CQ ⊢
  clear hb ho hf hm hy
  go_enter Try.func27, Try.ntmps27
  go_wp2
  go_quiet ((go_at_call 12; exact Calls.quiet_of_same (CQ.out _)))
  go_wp2
  go_ret
  exact ⟨rfl, _, rfl⟩

section
variable {P : Program} {w : World}
theorem run_buildSlice_none (t e : TypeId) (i : TypeInfo) (ht : P.underlying t = some (.slice e)) (hi : P.info? e = some i) :
    (Instr.buildSlice t 0 #[]).run P w = .ok (.slice (some ⟨w.heap.size, 0, none⟩) 0 0) (w.alloc (.cells #[] e (0, 0))) := by
  simp [Instr.buildSlice, run_underlying ht, sizeOf, typeInfo, hi, Instr.fill, newRow]
  congr 2
  exact Array.ext (by simp) (fun i h1 _ => by simp at h1)
end
theorem owns_empty_ints (w : World) (B : Nat) (hB : B ≤ w.heap.size) : (w.alloc (.cells #[] 3 (0, 0))).ownsRow B 3 1 (.slice (some ⟨w.heap.size, 0, none⟩) 0 0) 0 (ivs []) :=
  ⟨by simp [ivs], .inr ⟨w.heap.size, 0, #[], rfl, hB, heap_alloc_new w _, Nat.le_refl _, by unfold maxLen; omega, by simp, by simp [ivs]⟩⟩
theorem wpList_empty_ints {ops : Array Oper} {rest : List Oper} {op : Oper} {a : Act} {w : World} {Q : Exit → Act → World → Prop} (hgd : op.guard = none) (ho : op.op = .buildSlice 27 0 #[])
    (h : ∀ w', w'.ownsRow w.heap.size 3 1 (.slice (some ⟨w.heap.size, 0, none⟩) 0 0) 0 (ivs []) → Below w.heap.size w w' → wpList Try.prog ops Q rest (a.put op.dst (.slice (some ⟨w.heap.size, 0, none⟩) 0 0)) w') : wpList Try.prog ops Q (op :: rest) a w := by
  obtain ⟨i0, hi, _⟩ := info_parts Try.infoI64
  refine wpList_plain hgd fun K hK => ?_
  have hr := run_buildSlice_none (P := Try.prog) (w := w) 27 3 i0 Try.underlying27 hi
  unfold Oper.wp
  simp only [execOp, ho, List.map_toArray, List.map_nil, Sem.run_bind, Sem.run_pure, hr, Result.andThen_ok]
  exact hK _ _ (h _ (owns_empty_ints w _ (Nat.le_refl _)) ((Below.refl _ _).alloc (Nat.le_refl _) _))

/-- x put into the list ahead of its i-th one. -/
def putI (L : List Int) (i : Nat) (x : Int) : List Int := L.take i ++ x :: L.drop i
theorem putI_len (L : List Int) (i : Nat) (x : Int) : (putI L i x).length = L.length + 1 := by
  simp only [putI, List.length_append, List.length_take, List.length_cons, List.length_drop]
  omega
theorem putI_end (L : List Int) (x : Int) : putI L L.length x = L ++ [x] := by simp [putI]
theorem putI_at {L : List Int} {i : Nat} (x : Int) (h : i ≤ L.length) : (putI L i x).getD i 0 = x := by
  have e : (L.take i).length = i := by rw [List.length_take]; omega
  simp [putI, List.getD, e]
theorem putI_before {L : List Int} {i : Nat} (x : Int) (h : i < L.length) : (putI L (i + 1) x).getD i 0 = L.getD i 0 := by
  have e : (L.take (i + 1)).length = i + 1 := by rw [List.length_take]; omega
  simp [putI, List.getD, List.getElem?_append_left, e, h]
theorem putI_swap {L : List Int} {i : Nat} (x : Int) (h : i < L.length) : ((putI L (i + 1) x).set i x).set (i + 1) (L.getD i 0) = putI L i x := by
  apply List.ext_getElem
  · simp only [List.length_set, putI_len]
  · intro j h1 h2
    have e1 : (L.take (i + 1)).length = i + 1 := by rw [List.length_take]; omega
    have e2 : (L.take i).length = i := by rw [List.length_take]; omega
    have hx : L.getD i 0 = L[i] := by simp [List.getD, h]
    simp only [hx, List.getElem_set, putI]
    by_cases hj : j < i
    · rw [if_neg (by omega), if_neg (by omega), List.getElem_append_left (by omega), List.getElem_append_left (by omega)]
      simp
    · by_cases hj1 : j = i
      · subst hj1
        rw [if_neg (by omega), if_pos rfl, List.getElem_append_right (by omega)]
        simp [e2]
      · by_cases hj2 : j = i + 1
        · subst hj2
          rw [if_pos rfl, List.getElem_append_right (by omega)]
          simp [e2]
        · rw [if_neg (by omega), if_neg (by omega), List.getElem_append_right (by omega), List.getElem_append_right (by omega)]
          simp only [e1, e2, List.getElem_cons, List.getElem_drop]
          rw [dif_neg (by omega), dif_neg (by omega)]
          congr 1
          omega
/-- Where the loop of Add stands: x lies ahead of the i-th one, and all from there on are greater. -/
structure Putting (w wr : World) (b c : Nat) (L : List Int) (x : Int) (i : Nat) : Prop where
  le : i ≤ L.length
  own : wr.ownsRow w.heap.size 3 1 (.slice (some ⟨b, 0, none⟩) (L.length + 1) c) (L.length + 1) (ivs (putI L i x))
  more : ∀ j, i ≤ j → j < L.length → x < L.getD j 0
  bel : Below w.heap.size w wr
/-- The list with x in its place. -/
def Placed (L : List Int) (x : Int) (L' : List Int) : Prop := ∃ i, i ≤ L.length ∧ L' = putI L i x ∧ (0 < i → L.getD (i - 1) 0 ≤ x) ∧ ∀ j, i ≤ j → j < L.length → x < L.getD j 0
theorem putI_fit {L : List Int} {i : Nat} {x : Int} (h : Fit L) (hx : -9223372036854775808 ≤ x ∧ x < 9223372036854775808) : Fit (putI L i x) := by
  intro y hy
  rcases List.mem_append.1 hy with hy | hy
  · exact h y (List.mem_of_mem_take hy)
  · rcases List.mem_cons.1 hy with rfl | hy
    · exact hx
    · exact h y (List.mem_of_mem_drop hy)
end Go.Proofs.Ytnmkndnaomgmhaa
