/- first and sink of package clock. -/
import Derived.Test.YthimdmgimlhbaaaRise
namespace Go.Proofs.Ythimdmgimlhbaaa
open Go.RowKit

/-- m is the least of i and of those below it that are ahead of b. -/
structure Firsts (l : List (Int × Int)) (n i m b : Nat) : Prop where
  lo : 2 * i + 1 ≤ b
  hi : b ≤ 2 * i + 3
  inn : m < n
  one : m = i ∨ (2 * i + 1 ≤ m ∧ m < b ∧ kf l m < kf l i)
  le : kf l m ≤ kf l i
  all : ∀ d, 2 * i + 1 ≤ d → d < b → d < n → kf l m ≤ kf l d
section
variable {l : List (Int × Int)} {n i m b : Nat}
theorem Firsts.start (hi : i < n) : Firsts l n i i (2 * i + 1) := ⟨by omega, by omega, hi, .inl rfl, Int.le_refl _, fun d h1 h2 _ => by omega⟩
theorem Firsts.take (h : Firsts l n i m b) (hb : b ≤ 2 * i + 2) (hn : b < n) (hlt : kf l b < kf l m) : Firsts l n i b (b + 1) := by
  obtain ⟨h1, h2, h3, h4, h5, h6⟩ := h
  refine ⟨by omega, by omega, hn, .inr ⟨h1, by omega, by omega⟩, by omega, fun d k1 k2 k3 => ?_⟩
  by_cases e : d = b
  · subst e; exact Int.le_refl _
  · have := h6 d k1 (by omega) k3
    omega
theorem Firsts.keep (h : Firsts l n i m b) (hb : b ≤ 2 * i + 2) (hlt : kf l m ≤ kf l b) : Firsts l n i m (b + 1) := by
  obtain ⟨h1, h2, h3, h4, h5, h6⟩ := h
  refine ⟨by omega, by omega, h3, h4.imp id fun ⟨a, b, c⟩ => ⟨a, by omega, c⟩, h5, fun d k1 k2 k3 => ?_⟩
  by_cases e : d = b
  · subst e; exact hlt
  · exact h6 d k1 (by omega) k3
/-- m is the least of i and of those below it. -/
def Least (l : List (Int × Int)) (n i m : Nat) : Prop := m < n ∧ (m = i ∨ (0 < m ∧ par m = i ∧ kf l m < kf l i)) ∧ ∀ d, d < n → 0 < d → par d = i → kf l m ≤ kf l d
theorem Firsts.over (h : Firsts l n i m b) (ho : 2 * i + 2 < b ∨ n ≤ b) : Least l n i m := by
  obtain ⟨h1, h2, h3, h4, h5, h6⟩ := h
  refine ⟨h3, h4.imp id fun ⟨a, b, c⟩ => ⟨by omega, by unfold par; omega, c⟩, fun d k1 k2 k3 => ?_⟩
  unfold par at k3
  exact h6 d (by omega) (by omega) k1
end
def FirstOf (w : World) (n : Nat) (l : List (Int × Int)) (i : Nat) (e : Ending) (w' : World) : Prop := ∃ m : Nat, e = .returned (.int .i64 (m : Int)) ∧ Least l n i m ∧ Below w.heap.size w w'

theorem t64_get {l : List (Int × Int)} (ht : ∀ x ∈ l, T64 x) (i : Nat) : T64 (l.getD i (0, 0)) := by
  by_cases hi : i < l.length
  · rw [List.getD_eq_getElem?_getD, List.getElem?_eq_getElem hi]
    exact ht _ (List.getElem_mem hi)
  · rw [List.getD_eq_getElem?_getD, List.getElem?_eq_none (by omega)]
    unfold T64
    simp

set_option maxHeartbeats 2000000 in
set_option maxRecDepth 100000 in
theorem first_any (base g n c i : Nat) (l : List (Int × Int)) (w : World) (h : TRow w base g n c l) (hi : i < n) (hn : n ≤ 1000000) (ht : ∀ x ∈ l, T64 x) :
    Calls Try.prog 37 #[.slice (some ⟨g, 0, none⟩) n c, .int .i64 (i : Int)] w (FirstOf w n l i) := by
  obtain ⟨hnc, hcm⟩ := h.cap
  unfold maxLen at hcm
  have H := hide h
  have HT := hide ht
  clear h ht
  go_enter Try.func37, Try.ntmps37
  go_wp2
  go_loopw [5, 6] (fun f v wr => ∃ m b : Nat, f = .int .i64 (m : Int) ∧ v = .int .i64 (b : Int) ∧ Firsts l n i m b ∧ Below w.heap.size w wr) (fun _ v _ => 2 * i + 3 - (intOf v).toNat)
  case atStart => exact ⟨i, 2 * i + 1, rfl, by go_num, Firsts.start hi, Below.refl _ _⟩
  case round =>
    obtain ⟨m, b, rfl, rfl, hf, hb⟩ := hrel
    have hlo := hf.lo
    have hhi := hf.hi
    have hmn := hf.inn
    have HF := hide hf
    have HB := hide hb
    have HR : Hid (TRow wr base g n c l) := H.out.later hb
    clear hf hb
    by_cases hb2 : b ≤ 2 * i + 2
    · by_cases hbn : b < n
      · have hnb : (b : Int) < (n : Int) := by omega
        have hq : (b : Int) ≤ 2 * (i : Int) + 2 := by omega
        by_cases hlt : tkey (l.getD b (0, 0)) < tkey (l.getD m (0, 0))
        · have CB : Hid (∀ w, Calls Try.prog 35 #[tagg (l.getD b (0, 0)), tagg (l.getD m (0, 0))] w fun e w' => e = .returned (.bool true) ∧ Below w.heap.size w w') := fun w => by
            have := before_any (l.getD b (0, 0)) (l.getD m (0, 0)) w (t64_get HT.out b) (t64_get HT.out m)
            rwa [decide_eq_true hlt] at this
          have HV : Hid (Firsts l n i b (b + 1)) := HF.out.take hb2 hbn hlt
          clear hlt
          go_wp2
          refine wp_region_L (by kernel_rfl) ?_
          refine wpAnyL_take (i := 0) (d := some 24) (v := ?vat0) rfl rfl (by kernel_rfl) (by kernel_rfl) (by kernel_rfl) (fun _ _ _ h => h) (by rfl) ?yat0 ?_
          case yat0 => (intro w' hw'; go_simp; try (with_reducible rfl))
          simp only [Act.put, List.setIfInBounds_toArray]; try simp only [List.set_cons_zero, List.set_cons_succ]
          refine wpAnyL_take (i := 1) (d := some 25) (v := ?vat1) rfl rfl (by kernel_rfl) (by kernel_rfl) (by kernel_rfl) (fun _ _ _ h => h) (by rfl) ?yat1 ?_
          case yat1 => (intro w' hw'; go_simp; try (with_reducible rfl))
          simp only [Act.put, List.setIfInBounds_toArray]; try simp only [List.set_cons_zero, List.set_cons_succ]
          refine wpAnyL_take (i := 2) (d := some 26) (v := .pointer (some ⟨g, b * 2, none⟩)) rfl rfl (by kernel_rfl) (by kernel_rfl) (by kernel_rfl) (fun _ _ _ h => h) (by rfl) ?yat2 ?_
          case yat2 => (intro w' hw'; go_simp; try (with_reducible rfl))
          simp only [Act.put, List.setIfInBounds_toArray]; try simp only [List.set_cons_zero, List.set_cons_succ]
          refine wpAnyL_take (i := 3) (d := some 27) (v := tagg (l.getD b (0, 0))) rfl rfl (by kernel_rfl) (by kernel_rfl) (by kernel_rfl) (fun _ _ _ h => h) (by rfl) ?yat3 ?_
          case yat3 => (intro w' hw'; have hb : Below wr.heap.size wr.drew w' := hw'; exact exec_load_timer _ (by rfl) (HR.out.laterD hb) hbn (by rfl))
          simp only [Act.put, List.setIfInBounds_toArray]; try simp only [List.set_cons_zero, List.set_cons_succ]
          refine wpAnyL_take (i := 4) (d := some 28) (v := ?vat4) rfl rfl (by kernel_rfl) (by kernel_rfl) (by kernel_rfl) (fun _ _ _ h => h) (by rfl) ?yat4 ?_
          case yat4 => (intro w' hw'; go_simp; try (with_reducible rfl))
          simp only [Act.put, List.setIfInBounds_toArray]; try simp only [List.set_cons_zero, List.set_cons_succ]
          refine wpAnyL_take (i := 5) (d := some 29) (v := ?vat5) rfl rfl (by kernel_rfl) (by kernel_rfl) (by kernel_rfl) (fun _ _ _ h => h) (by rfl) ?yat5 ?_
          case yat5 => (intro w' hw'; go_simp; try (with_reducible rfl))
          simp only [Act.put, List.setIfInBounds_toArray]; try simp only [List.set_cons_zero, List.set_cons_succ]
          refine wpAnyL_take (i := 6) (d := some 30) (v := .pointer (some ⟨g, m * 2, none⟩)) rfl rfl (by kernel_rfl) (by kernel_rfl) (by kernel_rfl) (fun _ _ _ h => h) (by rfl) ?yat6 ?_
          case yat6 => (intro w' hw'; go_simp; try (with_reducible rfl))
          simp only [Act.put, List.setIfInBounds_toArray]; try simp only [List.set_cons_zero, List.set_cons_succ]
          refine wpAnyL_take (i := 7) (d := some 31) (v := tagg (l.getD m (0, 0))) rfl rfl (by kernel_rfl) (by kernel_rfl) (by kernel_rfl) (fun _ _ _ h => h) (by rfl) ?yat7 ?_
          case yat7 => (intro w' hw'; have hb : Below wr.heap.size wr.drew w' := hw'; exact exec_load_timer _ (by rfl) (HR.out.laterD hb) hmn (by rfl))
          simp only [Act.put, List.setIfInBounds_toArray]; try simp only [List.set_cons_zero, List.set_cons_succ]
          refine wpAnyL_only (i := 8) rfl (by kernel_rfl) (by rfl) fun K hK => ?_
          go_simp
          refine (CB.out _).mono ?_
          rintro e w1 ⟨rfl, hb1⟩
          have HB1 : Hid (Below wr.heap.size wr w1) := (Below.refl wr.heap.size wr).drew.trans hb1
          refine hK.out _ _ hb1 ?_
          clear hb1
          clear hK K
          try (simp only [Act.put, List.setIfInBounds_toArray]; try simp only [List.set_cons_zero, List.set_cons_succ])
          refine wpAnyL_done (by kernel_rfl) ?_ _
          go_wp2
          go_roundw
          case rel => exact ⟨b, b + 1, rfl, by go_num, HV.out, HB.out.trans (HB1.out.mono HB.out.size)⟩
          case measure => simp [intOf]; omega
        · have CB : Hid (∀ w, Calls Try.prog 35 #[tagg (l.getD b (0, 0)), tagg (l.getD m (0, 0))] w fun e w' => e = .returned (.bool false) ∧ Below w.heap.size w w') := fun w => by
            have := before_any (l.getD b (0, 0)) (l.getD m (0, 0)) w (t64_get HT.out b) (t64_get HT.out m)
            rwa [decide_eq_false hlt] at this
          have HV : Hid (Firsts l n i m (b + 1)) := HF.out.keep hb2 (Int.not_lt.1 hlt)
          clear hlt
          go_wp2
          refine wp_region_L (by kernel_rfl) ?_
          refine wpAnyL_take (i := 0) (d := some 24) (v := ?vau0) rfl rfl (by kernel_rfl) (by kernel_rfl) (by kernel_rfl) (fun _ _ _ h => h) (by rfl) ?yau0 ?_
          case yau0 => (intro w' hw'; go_simp; try (with_reducible rfl))
          simp only [Act.put, List.setIfInBounds_toArray]; try simp only [List.set_cons_zero, List.set_cons_succ]
          refine wpAnyL_take (i := 1) (d := some 25) (v := ?vau1) rfl rfl (by kernel_rfl) (by kernel_rfl) (by kernel_rfl) (fun _ _ _ h => h) (by rfl) ?yau1 ?_
          case yau1 => (intro w' hw'; go_simp; try (with_reducible rfl))
          simp only [Act.put, List.setIfInBounds_toArray]; try simp only [List.set_cons_zero, List.set_cons_succ]
          refine wpAnyL_take (i := 2) (d := some 26) (v := .pointer (some ⟨g, b * 2, none⟩)) rfl rfl (by kernel_rfl) (by kernel_rfl) (by kernel_rfl) (fun _ _ _ h => h) (by rfl) ?yau2 ?_
          case yau2 => (intro w' hw'; go_simp; try (with_reducible rfl))
          simp only [Act.put, List.setIfInBounds_toArray]; try simp only [List.set_cons_zero, List.set_cons_succ]
          refine wpAnyL_take (i := 3) (d := some 27) (v := tagg (l.getD b (0, 0))) rfl rfl (by kernel_rfl) (by kernel_rfl) (by kernel_rfl) (fun _ _ _ h => h) (by rfl) ?yau3 ?_
          case yau3 => (intro w' hw'; have hb : Below wr.heap.size wr.drew w' := hw'; exact exec_load_timer _ (by rfl) (HR.out.laterD hb) hbn (by rfl))
          simp only [Act.put, List.setIfInBounds_toArray]; try simp only [List.set_cons_zero, List.set_cons_succ]
          refine wpAnyL_take (i := 4) (d := some 28) (v := ?vau4) rfl rfl (by kernel_rfl) (by kernel_rfl) (by kernel_rfl) (fun _ _ _ h => h) (by rfl) ?yau4 ?_
          case yau4 => (intro w' hw'; go_simp; try (with_reducible rfl))
          simp only [Act.put, List.setIfInBounds_toArray]; try simp only [List.set_cons_zero, List.set_cons_succ]
          refine wpAnyL_take (i := 5) (d := some 29) (v := ?vau5) rfl rfl (by kernel_rfl) (by kernel_rfl) (by kernel_rfl) (fun _ _ _ h => h) (by rfl) ?yau5 ?_
          case yau5 => (intro w' hw'; go_simp; try (with_reducible rfl))
          simp only [Act.put, List.setIfInBounds_toArray]; try simp only [List.set_cons_zero, List.set_cons_succ]
          refine wpAnyL_take (i := 6) (d := some 30) (v := .pointer (some ⟨g, m * 2, none⟩)) rfl rfl (by kernel_rfl) (by kernel_rfl) (by kernel_rfl) (fun _ _ _ h => h) (by rfl) ?yau6 ?_
          case yau6 => (intro w' hw'; go_simp; try (with_reducible rfl))
          simp only [Act.put, List.setIfInBounds_toArray]; try simp only [List.set_cons_zero, List.set_cons_succ]
          refine wpAnyL_take (i := 7) (d := some 31) (v := tagg (l.getD m (0, 0))) rfl rfl (by kernel_rfl) (by kernel_rfl) (by kernel_rfl) (fun _ _ _ h => h) (by rfl) ?yau7 ?_
          case yau7 => (intro w' hw'; have hb : Below wr.heap.size wr.drew w' := hw'; exact exec_load_timer _ (by rfl) (HR.out.laterD hb) hmn (by rfl))
          simp only [Act.put, List.setIfInBounds_toArray]; try simp only [List.set_cons_zero, List.set_cons_succ]
          refine wpAnyL_only (i := 8) rfl (by kernel_rfl) (by rfl) fun K hK => ?_
          go_simp
          refine (CB.out _).mono ?_
          rintro e w1 ⟨rfl, hb1⟩
          have HB1 : Hid (Below wr.heap.size wr w1) := (Below.refl wr.heap.size wr).drew.trans hb1
          refine hK.out _ _ hb1 ?_
          clear hb1
          clear hK K
          try (simp only [Act.put, List.setIfInBounds_toArray]; try simp only [List.set_cons_zero, List.set_cons_succ])
          refine wpAnyL_done (by kernel_rfl) ?_ _
          go_wp2
          go_roundw
          case rel => exact ⟨m, b + 1, rfl, by go_num, HV.out, HB.out.trans (HB1.out.mono HB.out.size)⟩
          case measure => simp [intOf]; omega
      · have hnb : (n : Int) ≤ (b : Int) := by omega
        have hq : (b : Int) ≤ 2 * (i : Int) + 2 := by omega
        have HV : Hid (Least l n i m) := HF.out.over (.inr (by omega))
        go_wp2
        go_ret
        exact ⟨m, rfl, HV.out, HB.out⟩
    · have hq : 2 * (i : Int) + 2 < (b : Int) := by omega
      have HV : Hid (Least l n i m) := HF.out.over (.inl (by omega))
      go_wp2
      go_ret
      exact ⟨m, rfl, HV.out, HB.out⟩

/-- What sink leaves: a heap. -/
def Sunk (w : World) (base g n c : Nat) (l : List (Int × Int)) (w' : World) : Prop := ∃ l', HeapTo w w' base g n c l l' ∧ Heap (kf l') n

set_option maxHeartbeats 2000000 in
set_option maxRecDepth 100000 in
theorem sink_any (base g n c i : Nat) (l : List (Int × Int)) (w : World) (h : TRow w base g n c l) (hi : i < n) (hn : n ≤ 1000000) (ht : ∀ x ∈ l, T64 x) (hd : Down (kf l) n i) :
    Calls Try.prog 31 #[.slice (some ⟨g, 0, none⟩) n c, .int .i64 (i : Int)] w fun e w' => e = .returned (.tuple #[]) ∧ Sunk w base g n c l w' := by
  obtain ⟨hnc, hcm⟩ := h.cap
  unfold maxLen at hcm
  have H := hide h
  have HT := hide ht
  have HU := hide hd
  clear h ht hd
  go_enter Try.func31, Try.ntmps31
  go_wp2
  go_loopw [1] (fun v wr => ∃ (j : Nat) (l' : List (Int × Int)), v = .int .i64 (j : Int) ∧ j < n ∧ HeapTo w wr base g n c l l' ∧ Down (kf l') n j) (fun v _ => n - (intOf v).toNat)
  case atStart => exact ⟨i, l, rfl, hi, HeapTo.refl H.out, HU.out⟩
  case round =>
    obtain ⟨j, l', rfl, hjn, hj, hu⟩ := hrel
    have HJ := hide hj
    have HUP := hide hu
    clear hj hu
    go_wp2_with (fail)
    refine (first_any base g n c j l' wr HJ.out.row hjn hn (fun x hx => HT.out x (HJ.out.perm.mem_iff.1 hx))).mono ?_
    rintro e w1 ⟨m, rfl, hm, hb⟩
    have HD : Hid (HeapTo w w1 base g n c l l') := HJ.out.later hb
    have HM := hide hm
    clear hm hb HJ
    by_cases hmj : m = j
    · subst hmj
      have ht1 : ((m : Int) == (m : Int)) = true := by simp
      go_wp2
      refine bodyPost_ret (results_none rfl _ _ _) rfl ?_
      exact ⟨rfl, l', HD.out, HUP.out.over fun d h1 h2 h3 => HM.out.2.2 d h1 h2 h3⟩
    · have ht1 : ((m : Int) == (j : Int)) = false := by
        rw [beq_eq_false_iff_ne]
        omega
      have hmn : m < n := HM.out.1
      have HL : Hid (0 < m ∧ par m = j ∧ kf l' m < kf l' j) := HM.out.2.1.resolve_left hmj
      have hjm : j < m := by
        have h1 := par_lt HL.out.1
        rw [HL.out.2.1] at h1
        exact h1
      clear hmj
      go_wp2
      refine wp_region_S (fun k => k == 13 || k == 15) (by kernel_rfl) ?_
      refine wpAnyS_take (i := 0) (d := some 11) (v := ?vas0) rfl rfl (by kernel_rfl) (by kernel_rfl) (by kernel_rfl) (by kernel_rfl) (by kernel_rfl) (fun _ _ _ h => h) (by rfl) ?yas0 ?_
      case yas0 => (intro w' hw'; go_simp; try (with_reducible rfl))
      simp only [Act.put, List.setIfInBounds_toArray]; try simp only [List.set_cons_zero, List.set_cons_succ]
      refine wpAnyS_take (i := 1) (d := some 12) (v := ?vas1) rfl rfl (by kernel_rfl) (by kernel_rfl) (by kernel_rfl) (by kernel_rfl) (by kernel_rfl) (fun _ _ _ h => h) (by rfl) ?yas1 ?_
      case yas1 => (intro w' hw'; go_simp; try (with_reducible rfl))
      simp only [Act.put, List.setIfInBounds_toArray]; try simp only [List.set_cons_zero, List.set_cons_succ]
      refine wpAnyS_pure (i := 2) (d := some 13) (v := ?vas2) rfl rfl (by kernel_rfl) (by kernel_rfl) (by kernel_rfl) (by kernel_rfl) (fun _ _ _ h => h) (by rfl) ?yas2 ?_
      case yas2 => (intro w'; go_simp; try (with_reducible rfl))
      simp only [Act.put, List.setIfInBounds_toArray]; try simp only [List.set_cons_zero, List.set_cons_succ]
      refine wpAnyS_pure (i := 3) (d := some 14) (v := ?vas3) rfl rfl (by kernel_rfl) (by kernel_rfl) (by kernel_rfl) (by kernel_rfl) (fun _ _ _ h => h) (by rfl) ?yas3 ?_
      case yas3 => (intro w'; go_simp; try (with_reducible rfl))
      simp only [Act.put, List.setIfInBounds_toArray]; try simp only [List.set_cons_zero, List.set_cons_succ]
      refine wpAnyS_take (i := 4) (d := some 15) (v := ?vas4) rfl rfl (by kernel_rfl) (by kernel_rfl) (by kernel_rfl) (by kernel_rfl) (by kernel_rfl) (fun _ _ _ h => h) (by rfl) ?yas4 ?_
      case yas4 => (intro w' hw'; go_simp; try (with_reducible rfl))
      simp only [Act.put, List.setIfInBounds_toArray]; try simp only [List.set_cons_zero, List.set_cons_succ]
      refine wpAnyS_take (i := 5) (d := some 16) (v := ?vas5) rfl rfl (by kernel_rfl) (by kernel_rfl) (by kernel_rfl) (by kernel_rfl) (by kernel_rfl) (fun _ _ _ h => h) (by rfl) ?yas5 ?_
      case yas5 => (intro w' hw'; go_simp; try (with_reducible rfl))
      simp only [Act.put, List.setIfInBounds_toArray]; try simp only [List.set_cons_zero, List.set_cons_succ]
      refine wpAnyS_take (i := 6) (d := some 17) (v := .pointer (some ⟨g, m * 2, none⟩)) rfl rfl (by kernel_rfl) (by kernel_rfl) (by kernel_rfl) (by kernel_rfl) (by kernel_rfl) (fun _ _ _ h => h) (by rfl) ?yas6 ?_
      case yas6 => (intro w' hw'; go_simp; try (with_reducible rfl))
      simp only [Act.put, List.setIfInBounds_toArray]; try simp only [List.set_cons_zero, List.set_cons_succ]
      refine wpAnyS_take (i := 7) (d := some 18) (v := tagg (l'.getD m (0, 0))) rfl rfl (by kernel_rfl) (by kernel_rfl) (by kernel_rfl) (by kernel_rfl) (by kernel_rfl) (fun _ _ _ h => h) (by rfl) ?yas7 ?_
      case yas7 => (intro w' hw'; have hb : Below w1.heap.size w1.drew w' := hw'; exact exec_load_timer _ (by rfl) (HD.out.row.laterD hb) hmn (by rfl))
      simp only [Act.put, List.setIfInBounds_toArray]; try simp only [List.set_cons_zero, List.set_cons_succ]
      refine wpAnyS_take (i := 8) (d := some 19) (v := ?vas8) rfl rfl (by kernel_rfl) (by kernel_rfl) (by kernel_rfl) (by kernel_rfl) (by kernel_rfl) (fun _ _ _ h => h) (by rfl) ?yas8 ?_
      case yas8 => (intro w' hw'; go_simp; try (with_reducible rfl))
      simp only [Act.put, List.setIfInBounds_toArray]; try simp only [List.set_cons_zero, List.set_cons_succ]
      refine wpAnyS_take (i := 9) (d := some 20) (v := ?vas9) rfl rfl (by kernel_rfl) (by kernel_rfl) (by kernel_rfl) (by kernel_rfl) (by kernel_rfl) (fun _ _ _ h => h) (by rfl) ?yas9 ?_
      case yas9 => (intro w' hw'; go_simp; try (with_reducible rfl))
      simp only [Act.put, List.setIfInBounds_toArray]; try simp only [List.set_cons_zero, List.set_cons_succ]
      refine wpAnyS_take (i := 10) (d := some 21) (v := .pointer (some ⟨g, j * 2, none⟩)) rfl rfl (by kernel_rfl) (by kernel_rfl) (by kernel_rfl) (by kernel_rfl) (by kernel_rfl) (fun _ _ _ h => h) (by rfl) ?yas10 ?_
      case yas10 => (intro w' hw'; go_simp; try (with_reducible rfl))
      simp only [Act.put, List.setIfInBounds_toArray]; try simp only [List.set_cons_zero, List.set_cons_succ]
      refine wpAnyS_take (i := 11) (d := some 22) (v := tagg (l'.getD j (0, 0))) rfl rfl (by kernel_rfl) (by kernel_rfl) (by kernel_rfl) (by kernel_rfl) (by kernel_rfl) (fun _ _ _ h => h) (by rfl) ?yas11 ?_
      case yas11 => (intro w' hw'; have hb : Below w1.heap.size w1.drew w' := hw'; exact exec_load_timer _ (by rfl) (HD.out.row.laterD hb) hjn (by rfl))
      simp only [Act.put, List.setIfInBounds_toArray]; try simp only [List.set_cons_zero, List.set_cons_succ]
      refine wpAnyS_take (i := 12) (d := some 23) (v := .pointer (some ⟨g, j * 2, none⟩)) rfl rfl (by kernel_rfl) (by kernel_rfl) (by kernel_rfl) (by kernel_rfl) (by kernel_rfl) (fun _ _ _ h => h) (by rfl) ?yas12 ?_
      case yas12 => (intro w' hw'; go_simp; try (with_reducible rfl))
      simp only [Act.put, List.setIfInBounds_toArray]; try simp only [List.set_cons_zero, List.set_cons_succ]
      refine wpAnyS_write (i := 13) rfl rfl (by kernel_rfl) (by rfl) fun K hK => ?_
      refine wp_store_timer _ _ (by rfl) HD.out.row.drew (i := j) hjn (l'.getD m (0, 0)) (by rfl) (by rfl) ?_
      intro w2 h2 hg2
      refine hK.out _ _ ?_
      clear hK K
      try simp only [Act.put]
      refine wpAnyS_pure (i := 14) (d := some 24) (v := .pointer (some ⟨g, m * 2, none⟩)) rfl rfl (by kernel_rfl) (by kernel_rfl) (by kernel_rfl) (by kernel_rfl) (fun _ _ _ h => h) (by rfl) ?yas14 ?_
      case yas14 => (intro w'; go_simp; try (with_reducible rfl))
      simp only [Act.put, List.setIfInBounds_toArray]; try simp only [List.set_cons_zero, List.set_cons_succ]
      refine wpAnyS_write (i := 15) rfl rfl (by kernel_rfl) (by rfl) fun K hK => ?_
      refine wp_store_timer _ _ (by rfl) h2 (i := m) hmn (l'.getD j (0, 0)) (by rfl) (by rfl) ?_
      intro w3 h3 hg3
      refine hK.out _ _ ?_
      clear hK K
      try simp only [Act.put]
      refine wpAnyS_done (by kernel_rfl) ?_ _
      have HE : Hid (HeapTo w w3 base g n c l (lswp l' j m)) := HD.out.swapped hjn hmn (by omega) h3 (grown_trans (grown_of_drew hg2) hg3)
      have HV : Hid (Down (kf (lswp l' j m)) n m) := by
        have hlen := HD.out.row.len
        show Down _ _ _
        rw [kf_lswp (by omega) (by omega) (by omega)]
        exact HUP.out.step hmn HL.out.1 HL.out.2.1 HL.out.2.2 fun d h1 h2 h3 => HM.out.2.2 d h1 h2 h3
      clear h3 hg2 hg3
      go_wp2
      go_roundw
      case rel => exact ⟨m, _, rfl, hmn, HE.out, HV.out⟩
      case measure => simp [intOf]; omega
end Go.Proofs.Ythimdmgimlhbaaa
