/- remove of package clock. -/
import Derived.Test.YthimdmgimlhbaaaPush
namespace Go.Proofs.Ythimdmgimlhbaaa
open Go.RowKit

/-- What remove leaves. -/
def Removed (w : World) (base k : Nat) (now mp hv : Value) (hs : List (Int × Int)) (t : Int × Int) (w' : World) : Prop :=
  ∃ hv' hs', HeapAt w' base k now mp hv' hs' ∧ (t :: hs').Perm hs ∧ Turned (Foot k hv) w w' ∧ hv'.ownBlock = hv.ownBlock

set_option maxHeartbeats 4000000 in
set_option maxRecDepth 100000 in
theorem remove_any (base k : Nat) (now mp hv : Value) (hs : List (Int × Int)) (t : Int × Int) (w : World) (h : HeapAt w base k now mp hv hs) (hm : t ∈ hs) :
    Calls Try.prog 25 #[.pointer (some ⟨k, 2, none⟩), tagg t] w fun e w' => e = .returned (.tuple #[]) ∧ Removed w base k now mp hv hs t w' := by
  have hkw : k < w.heap.size := lt_of_block h.cell
  have hkb := h.kb
  have hbw := h.bw
  have hpos : 0 < hs.length := List.length_pos_of_mem hm
  have hlen := h.len
  obtain ⟨g, c, rfl, hb, hg, hnc, hcm⟩ := own_place h.own hpos
  unfold maxLen at hcm
  obtain ⟨n, hn⟩ : ∃ n, n = hs.length := ⟨_, rfl⟩
  obtain ⟨m, hmn⟩ : ∃ m, m = n - 1 := ⟨_, rfl⟩
  have hrow : TRow w base g n c hs := by
    rw [hn]
    exact h.own
  rw [← hn] at hpos hlen hnc ⊢
  have hcell := h.cell
  rw [← hn] at hcell
  have hn1 : (n : Int) - 1 = (m : Int) := by omega
  have hmn2 : m < n := by omega
  have hwr : IntKind.i64.wrap ((n : Int) - 1) = (m : Int) := by rw [hn1]; exact IntWalk.i64_in _ (by omega)
  obtain ⟨t1, t2⟩ := t
  have H := hide h
  have HM := hide hm
  have HN := hide hn
  have HMN := hide hmn
  have HROW := hide hrow
  have HCELL := hide hcell
  have HN1 := hide hn1
  have HWR := hide hwr
  clear h hm hn hmn hrow hcell hn1 hwr
  unfold tagg
  simp only
  go_enter Try.func25, Try.ntmps25
  have kc2 := cell_of_row w k 2 _ _ _ HCELL.out
  simp only [List.getElem?_toArray, List.getElem?_cons_zero, List.getElem?_cons_succ] at kc2
  go_wp2_with (fail)
  have L1 : Hid (Below w.heap.size w (w.alloc (.cells #[.int .i64 t1, .int .i64 t2] 60 (0, 0)))) := (Below.refl _ _).alloc (Nat.le_refl _) _
  refine (index_any base g n c w.heap.size hs (t1, t2) _ (HROW.out.later L1.out) (by omega) (heap_alloc_new _ _) HM.out).mono ?_
  rintro e w2 ⟨i, hi, hit, rfl, hb2⟩
  have HIT := hide hit
  have L2 : Hid (Below w.heap.size w w2) := L1.out.trans (hb2.mono L1.out.size)
  have K2 : Hid (w2.heap[k]? = some (.cells #[now, mp, .slice (some ⟨g, 0, none⟩) n c] 58 (0, 0))) := (L2.out.block k hkw).trans HCELL.out
  have R2 : Hid (TRow w2 base g n c hs) := HROW.out.later L2.out
  clear hit hb2 kc2
  have hk2 := cell_of_row w2 k 2 _ _ _ K2.out
  have hf2 := frozen_of_row w2 k 2 _ _ K2.out
  simp only [List.getElem?_toArray, List.getElem?_cons_zero, List.getElem?_cons_succ] at hk2
  have hn1 := HN1.out
  have hi0 : (0 : Int) ≤ (i : Int) := by omega
  go_wp2
  refine wp_region_S (fun j => j == 11) (by kernel_rfl) ?_
  refine wpAnyS_take (i := 0) (d := some 18) (v := ?vaa0) rfl rfl (by kernel_rfl) (by kernel_rfl) (by kernel_rfl) (by kernel_rfl) (by kernel_rfl) (fun _ _ _ h => h) (by rfl) ?yaa0 ?_
  case yaa0 => (intro w' hw'; go_simp; try (with_reducible rfl))
  simp only [Act.put]; try simp only [List.setIfInBounds_toArray]; try simp only [List.set_cons_zero, List.set_cons_succ]
  refine wpAnyS_take (i := 1) (d := some 19) (v := ?vaa1) rfl rfl (by kernel_rfl) (by kernel_rfl) (by kernel_rfl) (by kernel_rfl) (by kernel_rfl) (fun _ _ _ h => h) (by rfl) ?yaa1 ?_
  case yaa1 => (intro w' hw'; go_simp; try (with_reducible rfl))
  simp only [Act.put]; try simp only [List.setIfInBounds_toArray]; try simp only [List.set_cons_zero, List.set_cons_succ]
  refine wpAnyS_take (i := 2) (d := some 20) (v := ?vaa2) rfl rfl (by kernel_rfl) (by kernel_rfl) (by kernel_rfl) (by kernel_rfl) (by kernel_rfl) (fun _ _ _ h => h) (by rfl) ?yaa2 ?_
  case yaa2 => (intro w' hw'; have hc : w'.heap[k]? = _ := (Below.block hw' k (lt_of_block K2.out)).trans K2.out; have hc2 := cell_of_row w' k 2 _ _ _ hc; simp only [List.getElem?_toArray, List.getElem?_cons_zero, List.getElem?_cons_succ] at hc2; clear hc; go_simp; try (with_reducible rfl))
  simp only [Act.put]; try simp only [List.setIfInBounds_toArray]; try simp only [List.set_cons_zero, List.set_cons_succ]
  refine wpAnyS_take (i := 3) (d := some 21) (v := ?vaa3) rfl rfl (by kernel_rfl) (by kernel_rfl) (by kernel_rfl) (by kernel_rfl) (by kernel_rfl) (fun _ _ _ h => h) (by rfl) ?yaa3 ?_
  case yaa3 => (intro w' hw'; go_simp; try (with_reducible rfl))
  simp only [Act.put]; try simp only [List.setIfInBounds_toArray]; try simp only [List.set_cons_zero, List.set_cons_succ]
  refine wpAnyS_take (i := 4) (d := some 22) (v := ?vaa4) rfl rfl (by kernel_rfl) (by kernel_rfl) (by kernel_rfl) (by kernel_rfl) (by kernel_rfl) (fun _ _ _ h => h) (by rfl) ?yaa4 ?_
  case yaa4 => (intro w' hw'; go_simp; try (with_reducible rfl))
  simp only [Act.put]; try simp only [List.setIfInBounds_toArray]; try simp only [List.set_cons_zero, List.set_cons_succ]
  refine wpAnyS_take (i := 5) (d := some 23) (v := ?vaa5) rfl rfl (by kernel_rfl) (by kernel_rfl) (by kernel_rfl) (by kernel_rfl) (by kernel_rfl) (fun _ _ _ h => h) (by rfl) ?yaa5 ?_
  case yaa5 => (intro w' hw'; go_simp; try (with_reducible rfl))
  simp only [Act.put]; try simp only [List.setIfInBounds_toArray]; try simp only [List.set_cons_zero, List.set_cons_succ]
  refine wpAnyS_take (i := 6) (d := some 24) (v := ?vaa6) rfl rfl (by kernel_rfl) (by kernel_rfl) (by kernel_rfl) (by kernel_rfl) (by kernel_rfl) (fun _ _ _ h => h) (by rfl) ?yaa6 ?_
  case yaa6 => (intro w' hw'; have hc : w'.heap[k]? = _ := (Below.block hw' k (lt_of_block K2.out)).trans K2.out; have hc2 := cell_of_row w' k 2 _ _ _ hc; simp only [List.getElem?_toArray, List.getElem?_cons_zero, List.getElem?_cons_succ] at hc2; clear hc; go_simp; try (with_reducible rfl))
  simp only [Act.put]; try simp only [List.setIfInBounds_toArray]; try simp only [List.set_cons_zero, List.set_cons_succ]
  refine wpAnyS_take (i := 7) (d := some 25) (v := ?vaa7) rfl rfl (by kernel_rfl) (by kernel_rfl) (by kernel_rfl) (by kernel_rfl) (by kernel_rfl) (fun _ _ _ h => h) (by rfl) ?yaa7 ?_
  case yaa7 => (intro w' hw'; go_simp; try (with_reducible rfl))
  simp only [Act.put]; try simp only [List.setIfInBounds_toArray]; try simp only [List.set_cons_zero, List.set_cons_succ]
  refine wpAnyS_take (i := 8) (d := some 26) (v := .pointer (some ⟨g, m * 2, none⟩)) rfl rfl (by kernel_rfl) (by kernel_rfl) (by kernel_rfl) (by kernel_rfl) (by kernel_rfl) (fun _ _ _ h => h) (by rfl) ?yaa8 ?_
  case yaa8 => (intro w' hw'; go_simp; try (with_reducible rfl))
  simp only [Act.put]; try simp only [List.setIfInBounds_toArray]; try simp only [List.set_cons_zero, List.set_cons_succ]
  refine wpAnyS_take (i := 9) (d := some 27) (v := tagg (hs.getD m (0, 0))) rfl rfl (by kernel_rfl) (by kernel_rfl) (by kernel_rfl) (by kernel_rfl) (by kernel_rfl) (fun _ _ _ h => h) (by rfl) ?yaa9 ?_
  case yaa9 => (intro w' hw'; have hb : Below w2.heap.size w2.drew w' := hw'; exact exec_load_timer _ (by rfl) (R2.out.laterD hb) hmn2 (by rfl))
  simp only [Act.put]; try simp only [List.setIfInBounds_toArray]; try simp only [List.set_cons_zero, List.set_cons_succ]
  refine wpAnyS_take (i := 10) (d := some 28) (v := .pointer (some ⟨g, i * 2, none⟩)) rfl rfl (by kernel_rfl) (by kernel_rfl) (by kernel_rfl) (by kernel_rfl) (by kernel_rfl) (fun _ _ _ h => h) (by rfl) ?yaa10 ?_
  case yaa10 => (intro w' hw'; go_simp; try (with_reducible rfl))
  simp only [Act.put]; try simp only [List.setIfInBounds_toArray]; try simp only [List.set_cons_zero, List.set_cons_succ]
  refine wpAnyS_write (i := 11) rfl rfl (by kernel_rfl) (by rfl) fun K hK => ?_
  refine wp_store_timer _ _ (by rfl) R2.out.drew (i := i) hi (hs.getD m (0, 0)) (by rfl) (by rfl) ?_
  intro w3 h3 hg3
  refine hK.out _ _ ?_
  clear hK K
  try simp only [Act.put]
  refine wpAnyS_done (by kernel_rfl) ?_ _
  have T3 : Hid (Turned (Foot k (.slice (some ⟨g, 0, none⟩) n c)) w w3) := (Turned.of_below L2.out _).trans (Turned.of_grown (grown_of_drew hg3) fun q e => .inr e)
  have K3 : Hid (w3.heap[k]? = some (.cells #[now, mp, .slice (some ⟨g, 0, none⟩) n c] 58 (0, 0))) := (hg3.block k (lt_of_block K2.out) (by intro e; have := Option.some.inj e; have := R2.out.lt; omega)).trans K2.out
  have R3 := hide h3
  clear h3 hg3 hk2 hf2
  have hk3 := cell_of_row w3 k 2 _ _ _ K3.out
  have hf3 := frozen_of_row w3 k 2 _ _ K3.out
  simp only [List.getElem?_toArray, List.getElem?_cons_zero, List.getElem?_cons_succ] at hk3
  have hmc : m ≤ c := by omega
  by_cases him : i < m
  · have himi : (i : Int) < (m : Int) := by omega
    go_wp2_with (fail)
    obtain ⟨w4, hw4⟩ : ∃ w4, w4 = w3.setCell ⟨k, 2, none⟩ (.slice (some ⟨g, 0, none⟩) m c) := ⟨_, rfl⟩
    have T4 : Hid (Turned (Foot k (.slice (some ⟨g, 0, none⟩) n c)) w w4) := by
      rw [hw4]
      exact T3.out.trans (Turned.of_grown (grown_set w3 k 2 _) fun q e => .inl (Option.some.inj e).symm)
    have K4 : Hid (w4.heap[k]? = some (.cells #[now, mp, .slice (some ⟨g, 0, none⟩) m c] 58 (0, 0))) := by
      rw [hw4]
      exact heap_setCell_same w3 k 2 _ _ _ K3.out
    have R4 : Hid (TRow w4 base g m c (lcut hs i)) := by
      have h1 : TRow w4 base g n c (hs.set i (hs.getD m (0, 0))) := by
        rw [hw4]
        exact R3.out.kept (heap_setCell_other _ _ _ _ (by show g ≠ k; have := R3.out.lt; omega))
      have h2 := h1.cut (k := m) (by omega)
      unfold lcut
      rw [← HN.out, ← HMN.out]
      exact h2
    rw [← hw4]
    clear hw4 hk3 hf3
    have hlm : (lcut hs i).length = m := R4.out.len
    have hup : Up (kf (lcut hs i)) m i i := by
      have := Heap.cutAt (l := hs) (i := i) H.out.heap (by have := HN.out; have := HMN.out; omega)
      rw [← HN.out, ← HMN.out] at this
      exact this
    have ht4 : ∀ x ∈ lcut hs i, T64 x := fun x hx => H.out.t64 x ((lcut_perm (l := hs) (i := i) (by have := HN.out; omega)).mem_iff.1 (List.mem_cons_of_mem _ hx))
    have HT4 := hide ht4
    refine (rise_any base g m c i (lcut hs i) w4 R4.out him (by omega) ht4 hup).mono ?_
    clear ht4 hup
    rintro e w5 ⟨rfl, l5, h5, hd5⟩
    have K5 : Hid (w5.heap[k]? = some (.cells #[now, mp, .slice (some ⟨g, 0, none⟩) m c] 58 (0, 0))) := (h5.grown.block k (lt_of_block K4.out) (by intro e; have := Option.some.inj e; have := R4.out.lt; omega)).trans K4.out
    have H5 := hide h5
    have HD5 := hide hd5
    clear h5 hd5
    have hk5 := cell_of_row w5 k 2 _ _ _ K5.out
    simp only [List.getElem?_toArray, List.getElem?_cons_zero, List.getElem?_cons_succ] at hk5
    go_wp2_with (fail)
    refine (sink_any base g m c i l5 w5 H5.out.row him (by omega) (fun x hx => HT4.out x (H5.out.perm.mem_iff.1 hx)) HD5.out).mono ?_
    rintro e w6 ⟨rfl, l6, h6, hd6⟩
    have K6 : Hid (w6.heap[k]? = some (.cells #[now, mp, .slice (some ⟨g, 0, none⟩) m c] 58 (0, 0))) := (h6.grown.block k (lt_of_block K5.out) (by intro e; have := Option.some.inj e; have := R4.out.lt; omega)).trans K5.out
    have H6 := hide h6
    have HD6 := hide hd6
    clear h6 hd6 hk5
    go_wp2
    go_end0
    have hl6 : l6.length = m := H6.out.row.len
    have hp6 : l6.Perm (lcut hs i) := H6.out.perm.trans H5.out.perm
    have hgk : ∀ q, some g = some q → Foot k (.slice (some ⟨g, 0, none⟩) n c) q := fun q e => .inr e
    refine ⟨rfl, .slice (some ⟨g, 0, none⟩) m c, l6, ⟨K6.out, hkb, ?_, ?_, ?_, fun x hx => HT4.out x (hp6.mem_iff.1 hx), by omega⟩, ?_, ?_, rfl⟩
    · have a1 := T4.out.size
      have a2 := H5.out.grown.size
      have a3 := H6.out.grown.size
      omega
    · rw [hl6]
      exact H6.out.row
    · rw [hl6]
      exact HD6.out
    · have h1 := lcut_perm (l := hs) (i := i) (by have := HN.out; omega)
      rw [HIT.out] at h1
      exact (List.Perm.cons _ hp6).trans h1
    · exact (T4.out.trans (Turned.of_grown H5.out.grown hgk)).trans (Turned.of_grown H6.out.grown hgk)
  · have himi : (m : Int) ≤ (i : Int) := by omega
    have hie : i = m := by omega
    have HIE := hide hie
    clear hie
    go_wp2_with (fail)
    obtain ⟨w4, hw4⟩ : ∃ w4, w4 = w3.setCell ⟨k, 2, none⟩ (.slice (some ⟨g, 0, none⟩) m c) := ⟨_, rfl⟩
    have T4 : Hid (Turned (Foot k (.slice (some ⟨g, 0, none⟩) n c)) w w4) := by
      rw [hw4]
      exact T3.out.trans (Turned.of_grown (grown_set w3 k 2 _) fun q e => .inl (Option.some.inj e).symm)
    have K4 : Hid (w4.heap[k]? = some (.cells #[now, mp, .slice (some ⟨g, 0, none⟩) m c] 58 (0, 0))) := by
      rw [hw4]
      exact heap_setCell_same w3 k 2 _ _ _ K3.out
    have R4 : Hid (TRow w4 base g m c (lcut hs i)) := by
      have h1 : TRow w4 base g n c (hs.set i (hs.getD m (0, 0))) := by
        rw [hw4]
        exact R3.out.kept (heap_setCell_other _ _ _ _ (by show g ≠ k; have := R3.out.lt; omega))
      have h2 := h1.cut (k := m) (by omega)
      unfold lcut
      rw [← HN.out, ← HMN.out]
      exact h2
    rw [← hw4]
    clear hw4 hk3 hf3
    go_end0
    have hlm : (lcut hs i).length = m := R4.out.len
    refine ⟨rfl, .slice (some ⟨g, 0, none⟩) m c, lcut hs i, ⟨K4.out, hkb, by have := T4.out.size; omega, ?_, ?_, fun x hx => ?_, by omega⟩, ?_, T4.out, rfl⟩
    · rw [hlm]
      exact R4.out
    · have := Heap.cutLast (l := hs) (i := i) H.out.heap (by have := HN.out; have := HMN.out; have := HIE.out; omega) (by have := HN.out; omega)
      rw [hlm]
      rw [← HN.out, ← HMN.out] at this
      exact this
    · exact H.out.t64 x ((lcut_perm (l := hs) (i := i) (by have := HN.out; omega)).mem_iff.1 (List.mem_cons_of_mem _ hx))
    · have h1 := lcut_perm (l := hs) (i := i) (by have := HN.out; omega)
      rw [HIT.out] at h1
      exact h1
end Go.Proofs.Ythimdmgimlhbaaa
