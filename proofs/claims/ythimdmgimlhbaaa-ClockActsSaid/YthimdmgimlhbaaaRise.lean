/- rise of package clock. -/
import Derived.Test.YthimdmgimlhbaaaTimer
import Derived.Test.YthimdmgimlhbaaaOrderS
namespace Go.Proofs.Ythimdmgimlhbaaa
open Go.RowKit

theorem grown_of_drew {a b : World} {r : Option Nat} (h : a.drew.grownBy b r) : a.grownBy b r := ⟨h.os, h.tape, h.output, h.size, h.block⟩
/-- What a walk through the heap leaves: the same timers, in a row in place of the other; all else is as it was. -/
structure HeapTo (w w' : World) (base g n c : Nat) (l l' : List (Int × Int)) : Prop where
  perm : l'.Perm l
  row : TRow w' base g n c l'
  grown : w.grownBy w' (some g)
section
variable {w w1 w2 : World} {base g n c : Nat} {l l' l2 : List (Int × Int)}
theorem HeapTo.refl (h : TRow w base g n c l) : HeapTo w w base g n c l l := ⟨List.Perm.refl _, h, World.grownBy.refl _ _⟩
theorem HeapTo.later (h : HeapTo w w1 base g n c l l') (hb : Below w1.heap.size w1 w2) : HeapTo w w2 base g n c l l' := ⟨h.perm, h.row.later hb, grown_trans h.grown (grown_later hb _)⟩
theorem HeapTo.swapped (h : HeapTo w w1 base g n c l l') {i j : Nat} (hi : i < n) (hj : j < n) (hne : i ≠ j) (hr : TRow w2 base g n c (lswp l' i j)) (hg : w1.grownBy w2 (some g)) : HeapTo w w2 base g n c l (lswp l' i j) :=
  ⟨(lswp_perm (by have := h.row.len; omega) (by have := h.row.len; omega) hne).trans h.perm, hr, grown_trans h.grown hg⟩
theorem HeapTo.t64 (h : HeapTo w w1 base g n c l l') (ht : ∀ x ∈ l, T64 x) (i : Nat) : T64 (l'.getD i (0, 0)) := by
  by_cases hi : i < l'.length
  · rw [List.getD_eq_getElem?_getD, List.getElem?_eq_getElem hi]
    exact ht _ (h.perm.mem_iff.1 (List.getElem_mem hi))
  · rw [List.getD_eq_getElem?_getD, List.getElem?_eq_none (by omega)]
    unfold T64
    simp
end
/-- What rise leaves: order, but for what stands below the one at i. -/
def Risen (w : World) (base g n c : Nat) (l : List (Int × Int)) (i : Nat) (w' : World) : Prop := ∃ l', HeapTo w w' base g n c l l' ∧ Down (kf l') n i

set_option maxHeartbeats 2000000 in
set_option maxRecDepth 100000 in
theorem rise_any (base g n c i : Nat) (l : List (Int × Int)) (w : World) (h : TRow w base g n c l) (hi : i < n) (hn : n ≤ 1000000) (ht : ∀ x ∈ l, T64 x) (hup : Up (kf l) n i i) :
    Calls Try.prog 28 #[.slice (some ⟨g, 0, none⟩) n c, .int .i64 (i : Int)] w fun e w' => e = .returned (.tuple #[]) ∧ Risen w base g n c l i w' := by
  obtain ⟨hnc, hcm⟩ := h.cap
  unfold maxLen at hcm
  have H := hide h
  have HT := hide ht
  have HU := hide hup
  clear h ht hup
  go_enter Try.func28, Try.ntmps28
  go_wp2
  go_loopw [1] (fun v wr => ∃ (j : Nat) (l' : List (Int × Int)), v = .int .i64 (j : Int) ∧ j < n ∧ HeapTo w wr base g n c l l' ∧ Up (kf l') n i j) (fun v _ => (intOf v).toNat)
  case atStart => exact ⟨i, l, rfl, hi, HeapTo.refl H.out, HU.out⟩
  case round =>
    obtain ⟨j, l', rfl, hjn, hj, hu⟩ := hrel
    have HJ := hide hj
    have HUP := hide hu
    clear hj hu
    by_cases hj0 : 0 < j
    · have CA := hide (fun w => above_any j w hj0 (by omega))
      have hp : par j < j := par_lt hj0
      obtain ⟨p, hpe⟩ : ∃ p, p = par j := ⟨_, rfl⟩
      rw [← hpe] at CA hp
      have HP := hide hpe
      clear hpe
      have hpn : p < n := by omega
      by_cases hlt : tkey (l'.getD j (0, 0)) < tkey (l'.getD p (0, 0))
      · have CB : Hid (∀ w, Calls Try.prog 35 #[tagg (l'.getD j (0, 0)), tagg (l'.getD p (0, 0))] w fun e w' => e = .returned (.bool true) ∧ Below w.heap.size w w') := fun w => by
          have := before_any (l'.getD j (0, 0)) (l'.getD p (0, 0)) w (HJ.out.t64 HT.out j) (HJ.out.t64 HT.out p)
          rwa [decide_eq_true hlt] at this
        have HLT := hide hlt
        clear hlt
        go_wp2
        refine wp_region_L (by kernel_rfl) ?_
        refine wpAnyL_take (i := 0) (d := some 4) (v := ?vat0) rfl rfl (by kernel_rfl) (by kernel_rfl) (by kernel_rfl) (fun _ _ _ h => h) (by rfl) ?yat0 ?_
        case yat0 => (intro w' hw'; go_simp; try (with_reducible rfl))
        simp only [Act.put, List.setIfInBounds_toArray]; try simp only [List.set_cons_zero, List.set_cons_succ]
        refine wpAnyL_take (i := 1) (d := some 5) (v := ?vat1) rfl rfl (by kernel_rfl) (by kernel_rfl) (by kernel_rfl) (fun _ _ _ h => h) (by rfl) ?yat1 ?_
        case yat1 => (intro w' hw'; go_simp; try (with_reducible rfl))
        simp only [Act.put, List.setIfInBounds_toArray]; try simp only [List.set_cons_zero, List.set_cons_succ]
        refine wpAnyL_take (i := 2) (d := some 6) (v := ?vat2) rfl rfl (by kernel_rfl) (by kernel_rfl) (by kernel_rfl) (fun _ _ _ h => h) (by rfl) ?yat2 ?_
        case yat2 => (intro w' hw'; go_simp; try (with_reducible rfl))
        simp only [Act.put, List.setIfInBounds_toArray]; try simp only [List.set_cons_zero, List.set_cons_succ]
        refine wpAnyL_take (i := 3) (d := some 7) (v := ?vat3) rfl rfl (by kernel_rfl) (by kernel_rfl) (by kernel_rfl) (fun _ _ _ h => h) (by rfl) ?yat3 ?_
        case yat3 => (intro w' hw'; go_simp; try (with_reducible rfl))
        simp only [Act.put, List.setIfInBounds_toArray]; try simp only [List.set_cons_zero, List.set_cons_succ]
        refine wpAnyL_take (i := 4) (d := some 8) (v := ?vat4) rfl rfl (by kernel_rfl) (by kernel_rfl) (by kernel_rfl) (fun _ _ _ h => h) (by rfl) ?yat4 ?_
        case yat4 => (intro w' hw'; go_simp; try (with_reducible rfl))
        simp only [Act.put, List.setIfInBounds_toArray]; try simp only [List.set_cons_zero, List.set_cons_succ]
        refine wpAnyL_take (i := 5) (d := some 9) (v := .pointer (some ⟨g, j * 2, none⟩)) rfl rfl (by kernel_rfl) (by kernel_rfl) (by kernel_rfl) (fun _ _ _ h => h) (by rfl) ?yat5 ?_
        case yat5 => (intro w' hw'; go_simp; try (with_reducible rfl))
        simp only [Act.put, List.setIfInBounds_toArray]; try simp only [List.set_cons_zero, List.set_cons_succ]
        refine wpAnyL_take (i := 6) (d := some 10) (v := tagg (l'.getD j (0, 0))) rfl rfl (by kernel_rfl) (by kernel_rfl) (by kernel_rfl) (fun _ _ _ h => h) (by rfl) ?yat6 ?_
        case yat6 => (intro w' hw'; have hb : Below wr.heap.size wr.drew w' := hw'; exact exec_load_timer _ (by rfl) (HJ.out.row.laterD hb) hjn (by rfl))
        simp only [Act.put, List.setIfInBounds_toArray]; try simp only [List.set_cons_zero, List.set_cons_succ]
        refine wpAnyL_take (i := 7) (d := some 11) (v := ?vat7) rfl rfl (by kernel_rfl) (by kernel_rfl) (by kernel_rfl) (fun _ _ _ h => h) (by rfl) ?yat7 ?_
        case yat7 => (intro w' hw'; go_simp; try (with_reducible rfl))
        simp only [Act.put, List.setIfInBounds_toArray]; try simp only [List.set_cons_zero, List.set_cons_succ]
        refine wpAnyL_take (i := 8) (d := some 12) (v := ?vat8) rfl rfl (by kernel_rfl) (by kernel_rfl) (by kernel_rfl) (fun _ _ _ h => h) (by rfl) ?yat8 ?_
        case yat8 => (intro w' hw'; go_simp; try (with_reducible rfl))
        simp only [Act.put, List.setIfInBounds_toArray]; try simp only [List.set_cons_zero, List.set_cons_succ]
        refine wpAnyL_only (i := 9) rfl (by kernel_rfl) (by rfl) fun K hK => ?_
        go_simp
        refine (CA.out _).mono ?_
        rintro e w0 ⟨rfl, rfl⟩
        refine hK.out _ _ (Later.refl _) ?_
        clear hK K
        try (simp only [Act.put, List.setIfInBounds_toArray]; try simp only [List.set_cons_zero, List.set_cons_succ])
        refine wpAnyL_take (i := 10) (d := some 14) (v := .pointer (some ⟨g, p * 2, none⟩)) rfl rfl (by kernel_rfl) (by kernel_rfl) (by kernel_rfl) (fun _ _ _ h => h) (by rfl) ?yat10 ?_
        case yat10 => (intro w' hw'; go_simp; try (with_reducible rfl))
        simp only [Act.put, List.setIfInBounds_toArray]; try simp only [List.set_cons_zero, List.set_cons_succ]
        refine wpAnyL_take (i := 11) (d := some 15) (v := tagg (l'.getD p (0, 0))) rfl rfl (by kernel_rfl) (by kernel_rfl) (by kernel_rfl) (fun _ _ _ h => h) (by rfl) ?yat11 ?_
        case yat11 => (intro w' hw'; have hb : Below wr.heap.size wr.drew w' := hw'; exact exec_load_timer _ (by rfl) (HJ.out.row.laterD hb) (by omega) (by rfl))
        simp only [Act.put, List.setIfInBounds_toArray]; try simp only [List.set_cons_zero, List.set_cons_succ]
        refine wpAnyL_only (i := 12) rfl (by kernel_rfl) (by rfl) fun K hK => ?_
        go_simp
        refine (CB.out _).mono ?_
        rintro e w1 ⟨rfl, hb1⟩
        have HB1 : Hid (Below wr.heap.size wr w1) := (Below.refl wr.heap.size wr).drew.trans hb1
        refine hK.out _ _ hb1 ?_
        clear hb1
        clear hK K
        try (simp only [Act.put, List.setIfInBounds_toArray]; try simp only [List.set_cons_zero, List.set_cons_succ])
        refine wpAnyL_take (i := 13) (d := some 17) (v := ?vat13) rfl rfl (by kernel_rfl) (by kernel_rfl) (by kernel_rfl) (fun _ _ _ h => h) (by rfl) ?yat13 ?_
        case yat13 => (intro w' hw'; go_simp; try (with_reducible rfl))
        simp only [Act.put, List.setIfInBounds_toArray]; try simp only [List.set_cons_zero, List.set_cons_succ]
        refine wpAnyL_done (by kernel_rfl) ?_ _
        have HD : Hid (HeapTo w w1 base g n c l l') := HJ.out.later HB1.out
        clear HJ HB1
        go_wp2
        refine wp_region_S (fun k => k == 15 || k == 17) (by kernel_rfl) ?_
        refine wpAnyS_take (i := 0) (d := some 18) (v := ?vas0) rfl rfl (by kernel_rfl) (by kernel_rfl) (by kernel_rfl) (by kernel_rfl) (by kernel_rfl) (fun _ _ _ h => h) (by rfl) ?yas0 ?_
        case yas0 => (intro w' hw'; go_simp; try (with_reducible rfl))
        simp only [Act.put, List.setIfInBounds_toArray]; try simp only [List.set_cons_zero, List.set_cons_succ]
        refine wpAnyS_take (i := 1) (d := some 19) (v := ?vas1) rfl rfl (by kernel_rfl) (by kernel_rfl) (by kernel_rfl) (by kernel_rfl) (by kernel_rfl) (fun _ _ _ h => h) (by rfl) ?yas1 ?_
        case yas1 => (intro w' hw'; go_simp; try (with_reducible rfl))
        simp only [Act.put, List.setIfInBounds_toArray]; try simp only [List.set_cons_zero, List.set_cons_succ]
        refine wpAnyS_pure (i := 2) (d := some 20) (v := ?vas2) rfl rfl (by kernel_rfl) (by kernel_rfl) (by kernel_rfl) (by kernel_rfl) (fun _ _ _ h => h) (by rfl) ?yas2 ?_
        case yas2 => (intro w'; go_simp; try (with_reducible rfl))
        simp only [Act.put, List.setIfInBounds_toArray]; try simp only [List.set_cons_zero, List.set_cons_succ]
        refine wpAnyS_take (i := 3) (d := some 21) (v := ?vas3) rfl rfl (by kernel_rfl) (by kernel_rfl) (by kernel_rfl) (by kernel_rfl) (by kernel_rfl) (fun _ _ _ h => h) (by rfl) ?yas3 ?_
        case yas3 => (intro w' hw'; go_simp; try (with_reducible rfl))
        simp only [Act.put, List.setIfInBounds_toArray]; try simp only [List.set_cons_zero, List.set_cons_succ]
        refine wpAnyS_take (i := 5) (d := some 23) (v := ?vas5) rfl rfl (by kernel_rfl) (by kernel_rfl) (by kernel_rfl) (by kernel_rfl) (by kernel_rfl) (fun _ _ _ h => h) (by rfl) ?yas5 ?_
        case yas5 => (intro w' hw'; go_simp; try (with_reducible rfl))
        simp only [Act.put, List.setIfInBounds_toArray]; try simp only [List.set_cons_zero, List.set_cons_succ]
        refine wpAnyS_take (i := 6) (d := some 24) (v := ?vas6) rfl rfl (by kernel_rfl) (by kernel_rfl) (by kernel_rfl) (by kernel_rfl) (by kernel_rfl) (fun _ _ _ h => h) (by rfl) ?yas6 ?_
        case yas6 => (intro w' hw'; go_simp; try (with_reducible rfl))
        simp only [Act.put, List.setIfInBounds_toArray]; try simp only [List.set_cons_zero, List.set_cons_succ]
        refine wpAnyS_take (i := 10) (d := some 28) (v := ?vas10) rfl rfl (by kernel_rfl) (by kernel_rfl) (by kernel_rfl) (by kernel_rfl) (by kernel_rfl) (fun _ _ _ h => h) (by rfl) ?yas10 ?_
        case yas10 => (intro w' hw'; go_simp; try (with_reducible rfl))
        simp only [Act.put, List.setIfInBounds_toArray]; try simp only [List.set_cons_zero, List.set_cons_succ]
        refine wpAnyS_take (i := 11) (d := some 29) (v := ?vas11) rfl rfl (by kernel_rfl) (by kernel_rfl) (by kernel_rfl) (by kernel_rfl) (by kernel_rfl) (fun _ _ _ h => h) (by rfl) ?yas11 ?_
        case yas11 => (intro w' hw'; go_simp; try (with_reducible rfl))
        simp only [Act.put, List.setIfInBounds_toArray]; try simp only [List.set_cons_zero, List.set_cons_succ]
        refine wpAnyS_take (i := 12) (d := some 30) (v := .pointer (some ⟨g, j * 2, none⟩)) rfl rfl (by kernel_rfl) (by kernel_rfl) (by kernel_rfl) (by kernel_rfl) (by kernel_rfl) (fun _ _ _ h => h) (by rfl) ?yas12 ?_
        case yas12 => (intro w' hw'; go_simp; try (with_reducible rfl))
        simp only [Act.put, List.setIfInBounds_toArray]; try simp only [List.set_cons_zero, List.set_cons_succ]
        refine wpAnyS_take (i := 13) (d := some 31) (v := tagg (l'.getD j (0, 0))) rfl rfl (by kernel_rfl) (by kernel_rfl) (by kernel_rfl) (by kernel_rfl) (by kernel_rfl) (fun _ _ _ h => h) (by rfl) ?yas13 ?_
        case yas13 => (intro w' hw'; have hb : Below w1.heap.size w1.drew w' := hw'; exact exec_load_timer _ (by rfl) (HD.out.row.laterD hb) hjn (by rfl))
        simp only [Act.put, List.setIfInBounds_toArray]; try simp only [List.set_cons_zero, List.set_cons_succ]
        refine wpAnyS_only (i := 4) rfl (by kernel_rfl) (by rfl) fun K hK => ?_
        go_simp
        refine (CA.out _).mono ?_
        rintro e w0 ⟨rfl, rfl⟩
        refine hK.out _ _ (Later.refl _) ?_
        clear hK K
        try (simp only [Act.put, List.setIfInBounds_toArray]; try simp only [List.set_cons_zero, List.set_cons_succ])
        refine wpAnyS_only (i := 7) rfl (by kernel_rfl) (by rfl) fun K hK => ?_
        go_simp
        refine (CA.out _).mono ?_
        rintro e w0 ⟨rfl, rfl⟩
        refine hK.out _ _ (Later.refl _) ?_
        clear hK K
        try (simp only [Act.put, List.setIfInBounds_toArray]; try simp only [List.set_cons_zero, List.set_cons_succ])
        refine wpAnyS_take (i := 8) (d := some 26) (v := .pointer (some ⟨g, p * 2, none⟩)) rfl rfl (by kernel_rfl) (by kernel_rfl) (by kernel_rfl) (by kernel_rfl) (by kernel_rfl) (fun _ _ _ h => h) (by rfl) ?yas8 ?_
        case yas8 => (intro w' hw'; go_simp; try (with_reducible rfl))
        simp only [Act.put, List.setIfInBounds_toArray]; try simp only [List.set_cons_zero, List.set_cons_succ]
        refine wpAnyS_take (i := 9) (d := some 27) (v := tagg (l'.getD p (0, 0))) rfl rfl (by kernel_rfl) (by kernel_rfl) (by kernel_rfl) (by kernel_rfl) (by kernel_rfl) (fun _ _ _ h => h) (by rfl) ?yas9 ?_
        case yas9 => (intro w' hw'; have hb : Below w1.heap.size w1.drew w' := hw'; exact exec_load_timer _ (by rfl) (HD.out.row.laterD hb) (by omega) (by rfl))
        simp only [Act.put, List.setIfInBounds_toArray]; try simp only [List.set_cons_zero, List.set_cons_succ]
        refine wpAnyS_take (i := 14) (d := some 32) (v := .pointer (some ⟨g, j * 2, none⟩)) rfl rfl (by kernel_rfl) (by kernel_rfl) (by kernel_rfl) (by kernel_rfl) (by kernel_rfl) (fun _ _ _ h => h) (by rfl) ?yas14 ?_
        case yas14 => (intro w' hw'; go_simp; try (with_reducible rfl))
        simp only [Act.put, List.setIfInBounds_toArray]; try simp only [List.set_cons_zero, List.set_cons_succ]
        refine wpAnyS_write (i := 15) rfl rfl (by kernel_rfl) (by rfl) fun K hK => ?_
        refine wp_store_timer _ _ (by rfl) HD.out.row.drew (i := j) hjn (l'.getD p (0, 0)) (by rfl) (by rfl) ?_
        intro w2 h2 hg2
        refine hK.out _ _ ?_
        clear hK K
        try simp only [Act.put]
        refine wpAnyS_pure (i := 16) (d := some 33) (v := .pointer (some ⟨g, p * 2, none⟩)) rfl rfl (by kernel_rfl) (by kernel_rfl) (by kernel_rfl) (by kernel_rfl) (fun _ _ _ h => h) (by rfl) ?yas16 ?_
        case yas16 => (intro w'; go_simp; try (with_reducible rfl))
        simp only [Act.put, List.setIfInBounds_toArray]; try simp only [List.set_cons_zero, List.set_cons_succ]
        refine wpAnyS_write (i := 17) rfl rfl (by kernel_rfl) (by rfl) fun K hK => ?_
        refine wp_store_timer _ _ (by rfl) h2 (i := p) (by omega) (l'.getD j (0, 0)) (by rfl) (by rfl) ?_
        intro w3 h3 hg3
        refine hK.out _ _ ?_
        clear hK K
        try simp only [Act.put]
        refine wpAnyS_done (by kernel_rfl) ?_ _
        have HE : Hid (HeapTo w w3 base g n c l (lswp l' j p)) := HD.out.swapped hjn (by omega) (by omega) h3 (grown_trans (grown_of_drew hg2) hg3)
        have HV : Hid (Up (kf (lswp l' j p)) n i p) := by
          have hu := HUP.out.step hj0 hjn (by have := HLT.out; rw [HP.out] at this; exact this)
          rw [← HP.out, ← kf_lswp (by have := HD.out.row.len; omega) (by have := HD.out.row.len; omega) (by omega)] at hu
          exact hu
        clear h3 hg2 hg3
        go_wp2_with (fail)
        refine (CA.out _).mono ?_
        rintro e w4 ⟨rfl, rfl⟩
        go_wp2
        go_roundw
        case rel => exact ⟨p, _, rfl, by omega, HE.out, HV.out⟩
        case measure => simp [intOf]; omega
      · have CB : Hid (∀ w, Calls Try.prog 35 #[tagg (l'.getD j (0, 0)), tagg (l'.getD p (0, 0))] w fun e w' => e = .returned (.bool false) ∧ Below w.heap.size w w') := fun w => by
          have := before_any (l'.getD j (0, 0)) (l'.getD p (0, 0)) w (HJ.out.t64 HT.out j) (HJ.out.t64 HT.out p)
          rwa [decide_eq_false hlt] at this
        have HLT := hide hlt
        clear hlt
        go_wp2
        refine wp_region_L (by kernel_rfl) ?_
        refine wpAnyL_take (i := 0) (d := some 4) (v := ?vau0) rfl rfl (by kernel_rfl) (by kernel_rfl) (by kernel_rfl) (fun _ _ _ h => h) (by rfl) ?yau0 ?_
        case yau0 => (intro w' hw'; go_simp; try (with_reducible rfl))
        simp only [Act.put, List.setIfInBounds_toArray]; try simp only [List.set_cons_zero, List.set_cons_succ]
        refine wpAnyL_take (i := 1) (d := some 5) (v := ?vau1) rfl rfl (by kernel_rfl) (by kernel_rfl) (by kernel_rfl) (fun _ _ _ h => h) (by rfl) ?yau1 ?_
        case yau1 => (intro w' hw'; go_simp; try (with_reducible rfl))
        simp only [Act.put, List.setIfInBounds_toArray]; try simp only [List.set_cons_zero, List.set_cons_succ]
        refine wpAnyL_take (i := 2) (d := some 6) (v := ?vau2) rfl rfl (by kernel_rfl) (by kernel_rfl) (by kernel_rfl) (fun _ _ _ h => h) (by rfl) ?yau2 ?_
        case yau2 => (intro w' hw'; go_simp; try (with_reducible rfl))
        simp only [Act.put, List.setIfInBounds_toArray]; try simp only [List.set_cons_zero, List.set_cons_succ]
        refine wpAnyL_take (i := 3) (d := some 7) (v := ?vau3) rfl rfl (by kernel_rfl) (by kernel_rfl) (by kernel_rfl) (fun _ _ _ h => h) (by rfl) ?yau3 ?_
        case yau3 => (intro w' hw'; go_simp; try (with_reducible rfl))
        simp only [Act.put, List.setIfInBounds_toArray]; try simp only [List.set_cons_zero, List.set_cons_succ]
        refine wpAnyL_take (i := 4) (d := some 8) (v := ?vau4) rfl rfl (by kernel_rfl) (by kernel_rfl) (by kernel_rfl) (fun _ _ _ h => h) (by rfl) ?yau4 ?_
        case yau4 => (intro w' hw'; go_simp; try (with_reducible rfl))
        simp only [Act.put, List.setIfInBounds_toArray]; try simp only [List.set_cons_zero, List.set_cons_succ]
        refine wpAnyL_take (i := 5) (d := some 9) (v := .pointer (some ⟨g, j * 2, none⟩)) rfl rfl (by kernel_rfl) (by kernel_rfl) (by kernel_rfl) (fun _ _ _ h => h) (by rfl) ?yau5 ?_
        case yau5 => (intro w' hw'; go_simp; try (with_reducible rfl))
        simp only [Act.put, List.setIfInBounds_toArray]; try simp only [List.set_cons_zero, List.set_cons_succ]
        refine wpAnyL_take (i := 6) (d := some 10) (v := tagg (l'.getD j (0, 0))) rfl rfl (by kernel_rfl) (by kernel_rfl) (by kernel_rfl) (fun _ _ _ h => h) (by rfl) ?yau6 ?_
        case yau6 => (intro w' hw'; have hb : Below wr.heap.size wr.drew w' := hw'; exact exec_load_timer _ (by rfl) (HJ.out.row.laterD hb) hjn (by rfl))
        simp only [Act.put, List.setIfInBounds_toArray]; try simp only [List.set_cons_zero, List.set_cons_succ]
        refine wpAnyL_take (i := 7) (d := some 11) (v := ?vau7) rfl rfl (by kernel_rfl) (by kernel_rfl) (by kernel_rfl) (fun _ _ _ h => h) (by rfl) ?yau7 ?_
        case yau7 => (intro w' hw'; go_simp; try (with_reducible rfl))
        simp only [Act.put, List.setIfInBounds_toArray]; try simp only [List.set_cons_zero, List.set_cons_succ]
        refine wpAnyL_take (i := 8) (d := some 12) (v := ?vau8) rfl rfl (by kernel_rfl) (by kernel_rfl) (by kernel_rfl) (fun _ _ _ h => h) (by rfl) ?yau8 ?_
        case yau8 => (intro w' hw'; go_simp; try (with_reducible rfl))
        simp only [Act.put, List.setIfInBounds_toArray]; try simp only [List.set_cons_zero, List.set_cons_succ]
        refine wpAnyL_only (i := 9) rfl (by kernel_rfl) (by rfl) fun K hK => ?_
        go_simp
        refine (CA.out _).mono ?_
        rintro e w0 ⟨rfl, rfl⟩
        refine hK.out _ _ (Later.refl _) ?_
        clear hK K
        try (simp only [Act.put, List.setIfInBounds_toArray]; try simp only [List.set_cons_zero, List.set_cons_succ])
        refine wpAnyL_take (i := 10) (d := some 14) (v := .pointer (some ⟨g, p * 2, none⟩)) rfl rfl (by kernel_rfl) (by kernel_rfl) (by kernel_rfl) (fun _ _ _ h => h) (by rfl) ?yau10 ?_
        case yau10 => (intro w' hw'; go_simp; try (with_reducible rfl))
        simp only [Act.put, List.setIfInBounds_toArray]; try simp only [List.set_cons_zero, List.set_cons_succ]
        refine wpAnyL_take (i := 11) (d := some 15) (v := tagg (l'.getD p (0, 0))) rfl rfl (by kernel_rfl) (by kernel_rfl) (by kernel_rfl) (fun _ _ _ h => h) (by rfl) ?yau11 ?_
        case yau11 => (intro w' hw'; have hb : Below wr.heap.size wr.drew w' := hw'; exact exec_load_timer _ (by rfl) (HJ.out.row.laterD hb) (by omega) (by rfl))
        simp only [Act.put, List.setIfInBounds_toArray]; try simp only [List.set_cons_zero, List.set_cons_succ]
        refine wpAnyL_only (i := 12) rfl (by kernel_rfl) (by rfl) fun K hK => ?_
        go_simp
        refine (CB.out _).mono ?_
        rintro e w1 ⟨rfl, hb1⟩
        have HB1 : Hid (Below wr.heap.size wr w1) := (Below.refl wr.heap.size wr).drew.trans hb1
        refine hK.out _ _ hb1 ?_
        clear hb1
        clear hK K
        try (simp only [Act.put, List.setIfInBounds_toArray]; try simp only [List.set_cons_zero, List.set_cons_succ])
        refine wpAnyL_take (i := 13) (d := some 17) (v := ?vau13) rfl rfl (by kernel_rfl) (by kernel_rfl) (by kernel_rfl) (fun _ _ _ h => h) (by rfl) ?yau13 ?_
        case yau13 => (intro w' hw'; go_simp; try (with_reducible rfl))
        simp only [Act.put, List.setIfInBounds_toArray]; try simp only [List.set_cons_zero, List.set_cons_succ]
        refine wpAnyL_done (by kernel_rfl) ?_ _
        have HD : Hid (HeapTo w w1 base g n c l l') := HJ.out.later HB1.out
        clear HJ HB1
        go_wp2
        go_end0
        exact ⟨rfl, l', HD.out, HUP.out.over fun _ => by
          have := HLT.out
          rw [HP.out] at this
          exact this⟩
    · obtain rfl : j = 0 := by omega
      clear hj0
      go_wp2
      refine wp_region_L (by kernel_rfl) ?_
      refine wpAnyL_take (i := 0) (d := some 4) (v := ?vaz0) rfl rfl (by kernel_rfl) (by kernel_rfl) (by kernel_rfl) (fun _ _ _ h => h) (by rfl) ?yaz0 ?_
      case yaz0 => (intro w' hw'; go_simp; try (with_reducible rfl))
      simp only [Act.put, List.setIfInBounds_toArray]; try simp only [List.set_cons_zero, List.set_cons_succ]
      refine wpAnyL_take (i := 1) (d := some 5) (v := ?vaz1) rfl rfl (by kernel_rfl) (by kernel_rfl) (by kernel_rfl) (fun _ _ _ h => h) (by rfl) ?yaz1 ?_
      case yaz1 => (intro w' hw'; go_simp; try (with_reducible rfl))
      simp only [Act.put, List.setIfInBounds_toArray]; try simp only [List.set_cons_zero, List.set_cons_succ]
      refine wpAnyL_take (i := 2) (d := some 6) (v := ?vaz2) rfl rfl (by kernel_rfl) (by kernel_rfl) (by kernel_rfl) (fun _ _ _ h => h) (by rfl) ?yaz2 ?_
      case yaz2 => (intro w' hw'; go_simp; try (with_reducible rfl))
      simp only [Act.put, List.setIfInBounds_toArray]; try simp only [List.set_cons_zero, List.set_cons_succ]
      refine wpAnyL_pass (i := 3) (d := some 7) rfl rfl (by kernel_rfl) (by kernel_rfl) (by kernel_rfl) (fun _ _ _ h => h) (by rfl) ?_
      try (simp only [Act.put, List.setIfInBounds_toArray]; try simp only [List.set_cons_zero, List.set_cons_succ])
      refine wpAnyL_pass (i := 4) (d := some 8) rfl rfl (by kernel_rfl) (by kernel_rfl) (by kernel_rfl) (fun _ _ _ h => h) (by rfl) ?_
      try (simp only [Act.put, List.setIfInBounds_toArray]; try simp only [List.set_cons_zero, List.set_cons_succ])
      refine wpAnyL_pass (i := 5) (d := some 9) rfl rfl (by kernel_rfl) (by kernel_rfl) (by kernel_rfl) (fun _ _ _ h => h) (by rfl) ?_
      try (simp only [Act.put, List.setIfInBounds_toArray]; try simp only [List.set_cons_zero, List.set_cons_succ])
      refine wpAnyL_pass (i := 6) (d := some 10) rfl rfl (by kernel_rfl) (by kernel_rfl) (by kernel_rfl) (fun _ _ _ h => h) (by rfl) ?_
      try (simp only [Act.put, List.setIfInBounds_toArray]; try simp only [List.set_cons_zero, List.set_cons_succ])
      refine wpAnyL_pass (i := 7) (d := some 11) rfl rfl (by kernel_rfl) (by kernel_rfl) (by kernel_rfl) (fun _ _ _ h => h) (by rfl) ?_
      try (simp only [Act.put, List.setIfInBounds_toArray]; try simp only [List.set_cons_zero, List.set_cons_succ])
      refine wpAnyL_pass (i := 8) (d := some 12) rfl rfl (by kernel_rfl) (by kernel_rfl) (by kernel_rfl) (fun _ _ _ h => h) (by rfl) ?_
      try (simp only [Act.put, List.setIfInBounds_toArray]; try simp only [List.set_cons_zero, List.set_cons_succ])
      refine wpAnyL_pass (i := 9) (d := some 13) rfl rfl (by kernel_rfl) (by kernel_rfl) (by kernel_rfl) (fun _ _ _ h => h) (by rfl) ?_
      try (simp only [Act.put, List.setIfInBounds_toArray]; try simp only [List.set_cons_zero, List.set_cons_succ])
      refine wpAnyL_pass (i := 10) (d := some 14) rfl rfl (by kernel_rfl) (by kernel_rfl) (by kernel_rfl) (fun _ _ _ h => h) (by rfl) ?_
      try (simp only [Act.put, List.setIfInBounds_toArray]; try simp only [List.set_cons_zero, List.set_cons_succ])
      refine wpAnyL_pass (i := 11) (d := some 15) rfl rfl (by kernel_rfl) (by kernel_rfl) (by kernel_rfl) (fun _ _ _ h => h) (by rfl) ?_
      try (simp only [Act.put, List.setIfInBounds_toArray]; try simp only [List.set_cons_zero, List.set_cons_succ])
      refine wpAnyL_pass (i := 12) (d := some 16) rfl rfl (by kernel_rfl) (by kernel_rfl) (by kernel_rfl) (fun _ _ _ h => h) (by rfl) ?_
      try (simp only [Act.put, List.setIfInBounds_toArray]; try simp only [List.set_cons_zero, List.set_cons_succ])
      refine wpAnyL_take (i := 13) (d := some 17) (v := ?vaz13) rfl rfl (by kernel_rfl) (by kernel_rfl) (by kernel_rfl) (fun _ _ _ h => h) (by rfl) ?yaz13 ?_
      case yaz13 => (intro w' hw'; go_simp; try (with_reducible rfl))
      simp only [Act.put, List.setIfInBounds_toArray]; try simp only [List.set_cons_zero, List.set_cons_succ]
      refine wpAnyL_done (by kernel_rfl) ?_ _
      go_wp2
      go_end0
      exact ⟨rfl, l', HJ.out.later (Below.refl _ _).drew, HUP.out.over fun h => by omega⟩
end Go.Proofs.Ythimdmgimlhbaaa
