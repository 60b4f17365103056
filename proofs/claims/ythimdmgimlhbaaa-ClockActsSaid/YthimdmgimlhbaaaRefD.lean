/- The document's clock: Stop, and the names of its timers. -/
import Derived.Test.YthimdmgimlhbaaaRefC
namespace Go.Proofs.Ythimdmgimlhbaaa
open Go.RowKit Go.Maps

section
variable {T : Nat → Prop} {r : Nat} {now : Int} {L : List (Int × Int)} {v : Value}
theorem del_shorter (h : L.Pairwise (fun p q => p.2 < q.2)) (name : Int) : decide ((delT L name).length < L.length) = (findT L name).isSome := by
  rcases hf : findT L name with _ | p
  · rw [delT_none hf]
    simp
  · obtain ⟨h1, h2⟩ := findT_mem hf
    have := (delT_perm h h1).length_eq
    rw [h2] at this
    simp at this
    simp
    omega

set_option maxHeartbeats 2000000 in
set_option maxRecDepth 100000 in
theorem refstop (name : Int) (w : World) (h : RefAt T w r now L v) (hl : L.length ≤ 100) (hrise : L.Pairwise (fun p q => p.2 < q.2)) :
    Calls Try.prog 17 #[.pointer (some ⟨r, 0, none⟩), .int .i64 name] w fun e w' => e = .returned (.bool (findT L name).isSome) ∧ RefNew w w' r now (delT L name) := by
  obtain ⟨i0, hi, hz0, hz1, hz2⟩ := info_parts Try.infoR
  have HI := hide hi
  have HZ0 := hide hz0
  have HZ1 := hide hz1
  have HZ2 := hide hz2
  obtain ⟨A, c, rfl, hcn, hcm, _⟩ := FlatAt.shape h.row
  unfold maxLen at hcm
  obtain ⟨n, hn⟩ : ∃ n, n = L.length := ⟨_, rfl⟩
  rw [← hn] at hcn hl h
  obtain ⟨c0, c1, _, _⟩ := h.cells
  have H := hide h
  have HN := hide hn
  have HSH := hide (del_shorter hrise name)
  have hrw := lt_of_block h.cell
  clear h hn hi hz0 hz1 hz2 hrise
  go_enter Try.func17, Try.ntmps17
  go_wp2
  go_loopw [5, 14] (fun x i wr => ∃ (k : Nat) (M : List (Int × Int)) (A' : Option Addr) (m c' : Nat), x = .slice A' m c' ∧ i = .int .i64 (k : Int) ∧ k ≤ n ∧ M = delT (L.take k) name ∧ m = M.length ∧ m ≤ k ∧ Building w wr (.slice A' m c') M) (fun _ i _ => n - (intOf i).toNat)
  case atStart => exact ⟨0, [], none, 0, 0, rfl, rfl, by omega, rfl, rfl, by omega, Building.start (Below.refl _ _)⟩
  case round =>
    obtain ⟨k, M, A', m, c', rfl, rfl, hk, hM, hm, hmk, hbu⟩ := hrel
    have HBU := hide hbu
    have HM := hide hM
    have HMM := hide hm
    have H2 := hide (H.out.later hbu.below)
    clear hbu hM hm
    by_cases hkn : k < n
    · obtain ⟨p, b, off, cc, hp, hv, hcc, hbl, hr⟩ := RefAt.at_ H2.out (i := k) (by rw [← HN.out]; exact hkn)
      rw [← HN.out] at hv
      obtain ⟨rfl, rfl⟩ : A = some ⟨b, off, none⟩ ∧ c = cc := by injection hv with e1 _ e3; exact ⟨e1, e3⟩
      have HP := hide hp
      obtain ⟨e1, nm⟩ := p
      have HR : Hid (wr.rangeAt b (off + k * 2) [.int .i64 nm, .int .i64 e1]) := hr
      clear hp hv hcc hr
      by_cases hnm : nm = name
      · have hnm2 : (nm != name) = false := by simp [hnm]
        have HNX : Hid (delT (L.take (k + 1)) name = M) := by
          show _ = _
          rw [take_next HP.out, delT_append, HM.out]
          simp [delT, hnm]
        clear hnm
        go_wp2_with (refine wpList_load_mid (by rfl) 62 _ (by rfl) b (off + k * 2) (by rfl) _ _ HR.out Try.underlying62 (by rfl) (by kernel_rfl) ?_)
        go_roundw
        case rel => exact ⟨k + 1, M, A', m, c', rfl, by go_num, by omega, HNX.out.symm, HMM.out, by omega, HBU.out.later ((Below.refl _ _).alloc (Nat.le_refl _) _)⟩
        case measure => simp [intOf]; omega
      · have hnm2 : (nm != name) = true := by simp [hnm]
        have HNX : Hid (delT (L.take (k + 1)) name = M ++ [(e1, nm)]) := by
          show _ = _
          rw [take_next HP.out, delT_append, HM.out]
          simp [delT, hnm]
        clear hnm
        have BU2 : Hid (Building w ((wr.alloc (.cells #[.int .i64 nm, .int .i64 e1] 62 (0, 0))).alloc (.cells #[.int .i64 nm, .int .i64 e1] 62 (0, 0))) (.slice A' m c') M) := HBU.out.later (((Below.refl _ _).alloc (Nat.le_refl _) _).alloc (by simp) _)
        have FL : Hid (FlatAt (fun _ => True) ((wr.alloc (.cells #[.int .i64 nm, .int .i64 e1] 62 (0, 0))).alloc (.cells #[.int .i64 nm, .int .i64 e1] 62 (0, 0))) 2 (.slice (some ⟨(wr.alloc (.cells #[.int .i64 nm, .int .i64 e1] 62 (0, 0))).heap.size, 0, none⟩) 1 1) 1 (rcell (e1, nm))) := ref_lit _ (e1, nm)
        have OW : Hid (((wr.alloc (.cells #[.int .i64 nm, .int .i64 e1] 62 (0, 0))).alloc (.cells #[.int .i64 nm, .int .i64 e1] 62 (0, 0))).ownsRow w.heap.size 62 2 (.slice A' m c') m (rcells M)) := by
          have h1 := BU2.out.own
          rw [← HMM.out] at h1
          exact h1
        go_wp2_with (first
          | (refine wpList_load_mid (by rfl) 62 _ (by rfl) b (off + k * 2) (by rfl) _ _ HR.out Try.underlying62 (by rfl) (by kernel_rfl) ?_)
          | (refine wpList_buildSlice_one (by rfl) 27 62 _ (by rfl) i0 _ 2 Try.underlying27 HI.out HZ0.out HZ1.out (by omega) (by omega) #[.int .i64 nm, .int .i64 e1] (by rfl) (by rfl) ?_)
          | (at_builtin; refine wpList_append_flat _ (by rfl) (.tmp 22) (.tmp 24) 27 (by rfl) w.heap.size 62 i0 _ 2 16 Try.underlying27 HI.out HZ0.out HZ1.out HZ2.out (by rfl) (by omega) (.slice A' m c') m (rcells M) (by rfl) OW.out (fun _ => True) _ 1 1 (rcell (e1, nm)) (by rfl) FL.out (by unfold maxLen; omega) (by omega) (by exact BU2.out.below.size) ?_; intro v5 w5 o5 g5))
        have HB5 : Hid (Building w w5 v5 (M ++ [(e1, nm)])) := BU2.out.next (e1, nm) (by rw [← HMM.out]; exact o5) g5
        obtain ⟨A5, c5, rfl, hc5⟩ := HB5.out.shape
        clear o5 g5
        go_wp2
        go_roundw
        case rel => exact ⟨k + 1, M ++ [(e1, nm)], A5, _, c5, rfl, by go_num, by omega, HNX.out.symm, rfl, by have := HMM.out; simp; omega, HB5.out⟩
        case measure => simp [intOf]; omega
    · obtain rfl : k = n := by omega
      have hMM : M = delT L name := by
        rw [HM.out, List.take_of_length_le (by have := HN.out; omega)]
      obtain ⟨d0, d1, _, df⟩ := H2.out.cells
      have HMD := hide hMM
      have hov : RefNew w (wr.setCell ⟨r, 1, none⟩ (.slice A' m c')) r now (delT L name) := by
        rw [← HMD.out]
        exact ref_over H2.out.cell (Turned.of_below HBU.out.below _) hrw HBU.out.own rfl
      have HOV := hide hov
      have HLN : Hid (decide (m < k) = (findT L name).isSome) := by
        show _ = _
        rw [← HSH.out, ← HMD.out, ← HMM.out, ← HN.out]
      clear hMM hov
      go_wp2
      go_ret
      exact ⟨ret_bool HLN.out, HOV.out⟩

set_option maxHeartbeats 1000000 in
set_option maxRecDepth 100000 in
/-- The names of its timers. -/
theorem refnames (w : World) (h : RefAt T w r now L v) (hl : L.length ≤ 100) (ht : ∀ p ∈ L, T64 p) :
    Calls Try.prog 22 #[.pointer (some ⟨r, 0, none⟩)] w (NewInts w (namesT L)) := by
  obtain ⟨i0, hi, hz0, hz1, hz2⟩ := info_parts Try.infoI64
  have HI := hide hi
  have HZ0 := hide hz0
  have HZ1 := hide hz1
  have HZ2 := hide hz2
  obtain ⟨A, c, rfl, hcn, hcm, _⟩ := FlatAt.shape h.row
  unfold maxLen at hcm
  obtain ⟨n, hn⟩ : ∃ n, n = L.length := ⟨_, rfl⟩
  rw [← hn] at hcn hl h
  obtain ⟨c0, c1, _, _⟩ := h.cells
  have H := hide h
  have HN := hide hn
  have HT := hide ht
  clear h hn hi hz0 hz1 hz2 ht
  go_enter Try.func22, Try.ntmps22
  go_wp2
  go_loopw [3, 11] (fun x i wr => ∃ (k : Nat) (A' : Option Addr) (m c' : Nat), x = .slice A' m c' ∧ i = .int .i64 (k : Int) ∧ k ≤ n ∧ m = k ∧ wr.ownsRow w.heap.size 3 1 (.slice A' m c') m (ivs (namesT (L.take k))) ∧ Below w.heap.size w wr) (fun _ i _ => n - (intOf i).toNat)
  case atStart => exact ⟨0, none, 0, 0, rfl, rfl, by omega, rfl, World.ownsRow_nil _ _ _ _, Below.refl _ _⟩
  case round =>
    obtain ⟨k, A', m, c', rfl, rfl, hk, hmk, ho, hb⟩ := hrel
    subst hmk
    have HO := hide ho
    have HB := hide hb
    have H2 := hide (H.out.later hb)
    clear ho hb
    by_cases hkn : m < n
    · obtain ⟨p, b, off, cc, hp, hv, hcc, hbl, hr⟩ := RefAt.at_ H2.out (i := m) (by rw [← HN.out]; exact hkn)
      rw [← HN.out] at hv
      obtain ⟨rfl, rfl⟩ : A = some ⟨b, off, none⟩ ∧ c = cc := by injection hv with e1 _ e3; exact ⟨e1, e3⟩
      have HP := hide hp
      have ht64 := HT.out p (List.mem_of_getElem? hp)
      obtain ⟨e1, nm⟩ := p
      obtain ⟨_, t3, t4⟩ := ht64
      simp only at t3 t4
      have HR : Hid (wr.rangeAt b (off + m * 2) [.int .i64 nm, .int .i64 e1]) := hr
      have HO2 : Hid (((wr.alloc (.cells #[.int .i64 nm, .int .i64 e1] 62 (0, 0))).alloc (.cells #[.int .i64 nm] 3 (0, 0))).ownsRow w.heap.size 3 1 (.slice A' m c') m (ivs (namesT (L.take m)))) := (HO.out.alloc _).alloc _
      have HB2 : Hid (Below w.heap.size w ((wr.alloc (.cells #[.int .i64 nm, .int .i64 e1] 62 (0, 0))).alloc (.cells #[.int .i64 nm] 3 (0, 0)))) := (HB.out.alloc HB.out.size _).alloc (Nat.le_trans HB.out.size (by simp)) _
      have IL : Hid (IHolds ((wr.alloc (.cells #[.int .i64 nm, .int .i64 e1] 62 (0, 0))).alloc (.cells #[.int .i64 nm] 3 (0, 0))) (wr.heap.size + 1 + 1) (some ⟨wr.heap.size + 1, 0, none⟩) 1 [nm]) := by
        have := ints_lit (wr.alloc (.cells #[.int .i64 nm, .int .i64 e1] 62 (0, 0))) 3 nm t3 t4
        rw [World.size_alloc] at this
        exact this
      clear hp hv hcc hr
      go_wp2_with (first
        | (refine wpList_load_mid (by rfl) 62 _ (by rfl) b (off + m * 2) (by rfl) _ _ HR.out Try.underlying62 (by rfl) (by kernel_rfl) ?_)
        | (at_builtin; refine wpList_append_ints _ rfl (.tmp 15) (.tmp 18) 33 rfl w.heap.size 3 i0 (.int .i64 0) Try.underlying33 HI.out HZ0.out HZ1.out HZ2.out rfl (.slice A' m c') m (ivs (namesT (L.take m))) rfl HO2.out _ (some ⟨_, 0, none⟩) 1 1 [nm] rfl IL.out (by omega) (by exact HB2.out.size) ?_; intro v5 w5 o5 g5))
      have HB5 := hide (HB2.out.trans (g5.below HO2.out HB2.out.size))
      have ho5 : w5.ownsRow w.heap.size 3 1 v5 (m + 1) (ivs (namesT (L.take (m + 1)))) := by
        rw [take_next HP.out]
        unfold namesT
        rw [List.map_append, ivs_append]
        exact o5
      have hfit : Fit (namesT (L.take (m + 1))) := names_fit fun p hp => HT.out p (List.mem_of_mem_take hp)
      obtain ⟨A5, c5, hv5, _, _, _⟩ := IHolds.of_own ho5 hfit
      subst hv5
      have HO5 := hide ho5
      clear o5 g5 ho5 hfit
      go_wp2
      go_roundw
      case rel => exact ⟨m + 1, A5, _, c5, rfl, by go_num, by omega, rfl, HO5.out, HB5.out⟩
      case measure => simp [intOf]; omega
    · obtain rfl : m = n := by omega
      have hfull : L.take m = L := List.take_of_length_le (by have := HN.out; omega)
      have ho := HO.out
      rw [hfull] at ho
      have HO3 := hide ho
      clear ho hfull
      go_wp2
      go_ret
      have hfit : Fit (namesT L) := names_fit HT.out
      obtain ⟨A5, c5, hv5, h1, _, h2⟩ := IHolds.of_own HO3.out hfit
      injection hv5 with e1 _ e3
      subst e1 e3
      exact ⟨_, _, _, rfl, HO3.out, h2, h1, HB.out⟩
end
end Go.Proofs.Ythimdmgimlhbaaa
