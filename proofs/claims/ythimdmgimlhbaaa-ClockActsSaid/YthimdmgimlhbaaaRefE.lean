/- The document's clock: Tick and Set. -/
import Derived.Test.YthimdmgimlhbaaaRefD
namespace Go.Proofs.Ythimdmgimlhbaaa
open Go.RowKit Go.Maps

theorem dueT_append (a b : List (Int × Int)) (t : Int) : dueT (a ++ b) t = dueT a t ++ dueT b t := by simp [dueT]
theorem restT_append (a b : List (Int × Int)) (t : Int) : restT (a ++ b) t = restT a t ++ restT b t := by simp [restT]
/-- What the document's Tick hands back. -/
def RefTick (w : World) (r : Nat) (now : Int) (L : List (Int × Int)) (e : Ending) (w' : World) : Prop :=
  ∃ A n cp, e = .returned (.slice A n cp) ∧ IHolds w' w'.heap.size A n (namesT (dueT L (now + 1))) ∧ RefNew w w' r (now + 1) (restT L (now + 1))
/-- Where its loop stands: the names that are told, and the timers that are left. -/
structure RTick (w1 wr : World) (vo vl : Value) (ns : List Int) (M : List (Int × Int)) : Prop where
  over : wr.ownsRow w1.heap.size 3 1 vo ns.length (ivs ns)
  left : Building w1 wr vl M
section
variable {w1 wr w2 w5 : World} {vo vl v5 : Value} {ns : List Int} {M : List (Int × Int)}
theorem RTick.later (h : RTick w1 wr vo vl ns M) (hb : Below wr.heap.size wr w2) : RTick w1 w2 vo vl ns M := ⟨own_later h.over hb, h.left.later hb⟩
theorem RTick.told (h : RTick w1 wr vo vl ns M) (x : Int) (ho : w5.ownsRow w1.heap.size 3 1 v5 (ns.length + 1) (ivs ns ++ ivs [x])) (hg : wr.grownBy w5 vo.ownBlock) : RTick w1 w5 v5 vl (ns ++ [x]) M := by
  refine ⟨?_, own_other h.left.own h.over (by decide) hg, h.left.below.trans ((Below.refl _ _).grown hg h.left.below.size fun k hk => (h.over.lt k hk).1)⟩
  rw [List.length_append, ivs_append]
  exact ho
theorem RTick.kept_ (h : RTick w1 wr vo vl ns M) (p : Int × Int) (ho : w5.ownsRow w1.heap.size 62 2 v5 (M.length + 1) (rcells M ++ rcell p)) (hg : wr.grownBy w5 vl.ownBlock) : RTick w1 w5 vo v5 ns (M ++ [p]) :=
  ⟨own_other h.over h.left.own (by decide) hg, h.left.next p ho hg⟩
end
theorem RefNew.from_ {w w1 w' : World} {r : Nat} {now : Int} {L : List (Int × Int)} (h : RefNew w1 w' r now L) (ht : Turned (fun i => i = r) w w1) : RefNew w w' r now L := by
  obtain ⟨T, v, h1, h2, h3⟩ := h
  exact ⟨T, v, h1, fun i hi => (h2 i hi).imp id fun h => Nat.le_trans ht.size h, ht.trans h3⟩

section
variable {T : Nat → Prop} {r : Nat} {now : Int} {L : List (Int × Int)} {v : Value}
theorem RefAt.ticked {w : World} (h : RefAt T w r now L v) : RefAt T (w.setCell ⟨r, 0, none⟩ (.int .i64 (now + 1))) r (now + 1) L v ∧ Turned (fun i => i = r) w (w.setCell ⟨r, 0, none⟩ (.int .i64 (now + 1))) := by
  have hT : Turned (fun i => i = r) w (w.setCell ⟨r, 0, none⟩ (.int .i64 (now + 1))) := Turned.of_grown (grown_set w r 0 _) fun g e => (Option.some.inj e).symm
  refine ⟨⟨heap_setCell_same w r 0 _ _ _ h.cell, ?_, h.inn, fun i hi => Nat.lt_of_lt_of_le (h.old i hi) hT.size⟩, hT⟩
  have hrow := h.row
  obtain ⟨h1, h2, A, c, hv, h3, h4, h5, h6⟩ := hrow
  refine ⟨h1, h2, A, c, hv, h3, h4, h5, fun hn => ?_⟩
  obtain ⟨b, off, hA, hf, hb, hr⟩ := h6 hn
  refine ⟨b, off, hA, hf, Nat.lt_of_lt_of_le hb hT.size, fun j u hj => ?_⟩
  exact (World.cell?_of_block (hT.block b hb hf.2)).trans (hr j u hj)

set_option maxHeartbeats 2000000 in
set_option maxRecDepth 100000 in
theorem reftick (w : World) (h : RefAt T w r now L v) (hl : L.length ≤ 100) (ht : ∀ p ∈ L, T64 p) (hnow : 0 ≤ now ∧ now < 1000000) :
    Calls Try.prog 13 #[.pointer (some ⟨r, 0, none⟩)] w (RefTick w r now L) := by
  obtain ⟨i0, hi, hz0, hz1, hz2⟩ := info_parts Try.infoR
  have HI := hide hi
  have HZ0 := hide hz0
  have HZ1 := hide hz1
  have HZ2 := hide hz2
  obtain ⟨j0, hj, hy0, hy1, hy2⟩ := info_parts Try.infoI64
  have HJ := hide hj
  have HY0 := hide hy0
  have HY1 := hide hy1
  have HY2 := hide hy2
  obtain ⟨A, c, rfl, hcn, hcm, _⟩ := FlatAt.shape h.row
  unfold maxLen at hcm
  obtain ⟨n, hn⟩ : ∃ n, n = L.length := ⟨_, rfl⟩
  obtain ⟨tk1, tk2⟩ := h.ticked
  rw [← hn] at hcn hl h tk1
  obtain ⟨c0, c1, f0, _⟩ := h.cells
  have hrw := lt_of_block h.cell
  have HN := hide hn
  have HT := hide ht
  have hwr : IntKind.i64.wrap (now + 1) = now + 1 := IntWalk.i64_in _ (by omega)
  have HTK1 := hide tk1
  have HTK2 := hide tk2
  clear h hn hi hz0 hz1 hz2 hj hy0 hy1 hy2 ht tk1 tk2
  go_enter Try.func13, Try.ntmps13
  go_wp2
  obtain ⟨w1, hw1⟩ : ∃ w1, w1 = w.setCell ⟨r, 0, none⟩ (.int .i64 (now + 1)) := ⟨_, rfl⟩
  rw [← hw1] at HTK1 HTK2 ⊢
  have hrw1 : r < w1.heap.size := lt_of_block HTK1.out.cell
  have hs1 : w1.heap.size = w.heap.size := by rw [hw1]; simp [World.setCell]
  have HS1 := hide hs1
  clear hw1 c0 c1 f0 hwr hs1
  go_loopw [3, 4, 19] (fun x y i wr => ∃ (k : Nat) (ns : List Int) (M : List (Int × Int)) (A1 : Option Addr) (n1 c1 : Nat) (A2 : Option Addr) (n2 c2 : Nat), x = .slice A1 n1 c1 ∧ y = .slice A2 n2 c2 ∧ i = .int .i64 (k : Int) ∧ k ≤ n ∧ n1 = ns.length ∧ n2 = M.length ∧ n1 + n2 = k ∧ ns = namesT (dueT (L.take k) (now + 1)) ∧ M = restT (L.take k) (now + 1) ∧ RTick w1 wr (.slice A1 n1 c1) (.slice A2 n2 c2) ns M) (fun _ _ i _ => n - (intOf i).toNat)
  case atStart => exact ⟨0, [], [], none, 0, 0, none, 0, 0, rfl, rfl, rfl, by omega, rfl, rfl, rfl, rfl, rfl, ⟨World.ownsRow_nil _ _ _ _, Building.start (Below.refl _ _)⟩⟩
  case round =>
    obtain ⟨k, ns, M, A1, n1, c1, A2, n2, c2, rfl, rfl, rfl, hk, hn1, hn2, hnk, hns, hM, htk⟩ := hrel
    have HK := hide htk
    have HNS := hide hns
    have HM := hide hM
    have HN1 := hide hn1
    have HN2 := hide hn2
    have H2 := hide (HTK1.out.later htk.left.below)
    clear htk hns hM hn1 hn2
    by_cases hkn : k < n
    · obtain ⟨p, b, off, cc, hp, hv, hcc, hbl, hr⟩ := RefAt.at_ H2.out (i := k) (by rw [← HN.out]; exact hkn)
      rw [← HN.out] at hv
      obtain ⟨rfl, rfl⟩ : A = some ⟨b, off, none⟩ ∧ c = cc := by injection hv with e1 _ e3; exact ⟨e1, e3⟩
      have HP := hide hp
      have ht64 := HT.out p (List.mem_of_getElem? hp)
      obtain ⟨e1, nm⟩ := p
      obtain ⟨⟨t1, t2⟩, t3, t4⟩ := ht64
      simp only at t1 t2 t3 t4
      have HR : Hid (wr.rangeAt b (off + k * 2) [.int .i64 nm, .int .i64 e1]) := hr
      have d0 := (H2.out.later ((Below.refl wr.heap.size wr).alloc (Nat.le_refl _) (.cells #[.int .i64 nm, .int .i64 e1] 62 (0, 0)))).cells.1
      clear hp hv hcc hr
      by_cases hd : e1 ≤ now + 1
      · have HNX : Hid (namesT (dueT (L.take (k + 1)) (now + 1)) = ns ++ [nm] ∧ restT (L.take (k + 1)) (now + 1) = M) := by
          show _ ∧ _
          rw [take_next HP.out, dueT_append, restT_append, HNS.out, HM.out]
          simp [dueT, restT, namesT, hd]
        go_wp2_with (refine wpList_load_mid (by rfl) 62 _ (by rfl) b (off + k * 2) (by rfl) _ _ HR.out Try.underlying62 (by rfl) (by kernel_rfl) ?_)
        go_quiet (fail)
        obtain ⟨w2, hw2⟩ : ∃ w2, w2 = (wr.alloc (.cells #[.int .i64 nm, .int .i64 e1] 62 (0, 0))).drewN nq := ⟨_, rfl⟩
        have L2 : Below wr.heap.size wr w2 := by
          rw [hw2]
          exact ((Below.refl _ _).alloc (Nat.le_refl _) _).trans (below_drewN _ _ _)
        have X2 : w2.heap[wr.heap.size]? = some (.cells #[.int .i64 nm, .int .i64 e1] 62 (0, 0)) := by
          rw [hw2]
          exact heap_alloc_new wr _
        have x0 := cell_of_row w2 _ 0 _ _ _ X2
        have x1 := cell_of_row w2 _ 1 _ _ _ X2
        simp only [List.getElem?_toArray, List.getElem?_cons_zero, List.getElem?_cons_succ] at x0 x1
        have K3 : Hid (RTick w1 (w2.alloc (.cells #[.int .i64 nm] 3 (0, 0))) (.slice A1 n1 c1) (.slice A2 n2 c2) ns M) := (HK.out.later L2).later ((Below.refl _ _).alloc (Nat.le_refl _) _)
        have OW : Hid ((w2.alloc (.cells #[.int .i64 nm] 3 (0, 0))).ownsRow w1.heap.size 3 1 (.slice A1 n1 c1) n1 (ivs ns)) := by
          have h1 := K3.out.over
          rw [← HN1.out] at h1
          exact h1
        rw [← hw2]
        clear hw2 d0 X2
        go_wp2_with (at_builtin; refine wpList_append_ints _ rfl (.tmp 30) (.tmp 33) 33 rfl w1.heap.size 3 j0 (.int .i64 0) Try.underlying33 HJ.out HY0.out HY1.out HY2.out rfl (.slice A1 n1 c1) n1 (ivs ns) rfl OW.out _ (some ⟨w2.heap.size, 0, none⟩) 1 1 [nm] rfl (ints_lit w2 3 nm t3 t4) (by omega) (by exact K3.out.left.below.size) ?_; intro v5 w5 o5 g5)
        have HK5 : Hid (RTick w1 w5 v5 (.slice A2 n2 c2) (ns ++ [nm]) M) := K3.out.told nm (by rw [← HN1.out]; exact o5) g5.1
        obtain ⟨A5, c5, hv5, _, _, _⟩ := IHolds.of_own HK5.out.over (by
          rw [← HNX.out.1]
          exact names_fit fun p hp => HT.out p (List.mem_of_mem_take (List.mem_filter.1 hp).1))
        subst hv5
        clear o5 g5 x0 x1
        go_wp2
        go_roundw
        case rel => exact ⟨k + 1, ns ++ [nm], M, A5, _, c5, A2, n2, c2, rfl, rfl, by go_num, by omega, rfl, HN2.out, by have := HN1.out; simp; omega, HNX.out.1.symm, HNX.out.2.symm, HK5.out⟩
        case measure => simp [intOf]; omega
      · have HNX : Hid (namesT (dueT (L.take (k + 1)) (now + 1)) = ns ∧ restT (L.take (k + 1)) (now + 1) = M ++ [(e1, nm)]) := by
          show _ ∧ _
          rw [take_next HP.out, dueT_append, restT_append, HNS.out, HM.out]
          simp [dueT, restT, namesT, hd]
        have hd2 : now + 1 < e1 := by omega
        clear hd
        go_wp2_with (refine wpList_load_mid (by rfl) 62 _ (by rfl) b (off + k * 2) (by rfl) _ _ HR.out Try.underlying62 (by rfl) (by kernel_rfl) ?_)
        go_quiet (fail)
        obtain ⟨w2, hw2⟩ : ∃ w2, w2 = (wr.alloc (.cells #[.int .i64 nm, .int .i64 e1] 62 (0, 0))).drewN nq := ⟨_, rfl⟩
        have L2 : Below wr.heap.size wr w2 := by
          rw [hw2]
          exact ((Below.refl _ _).alloc (Nat.le_refl _) _).trans (below_drewN _ _ _)
        have X2 : w2.heap[wr.heap.size]? = some (.cells #[.int .i64 nm, .int .i64 e1] 62 (0, 0)) := by
          rw [hw2]
          exact heap_alloc_new wr _
        have x0 := cell_of_row w2 _ 0 _ _ _ X2
        have x1 := cell_of_row w2 _ 1 _ _ _ X2
        simp only [List.getElem?_toArray, List.getElem?_cons_zero, List.getElem?_cons_succ] at x0 x1
        have K3 : Hid (RTick w1 (w2.alloc (.cells #[.int .i64 nm, .int .i64 e1] 62 (0, 0))) (.slice A1 n1 c1) (.slice A2 n2 c2) ns M) := (HK.out.later L2).later ((Below.refl _ _).alloc (Nat.le_refl _) _)
        have BU2 : Hid (Building w1 (w2.alloc (.cells #[.int .i64 nm, .int .i64 e1] 62 (0, 0))) (.slice A2 n2 c2) M) := K3.out.left
        have OW : Hid ((w2.alloc (.cells #[.int .i64 nm, .int .i64 e1] 62 (0, 0))).ownsRow w1.heap.size 62 2 (.slice A2 n2 c2) n2 (rcells M)) := by
          have h1 := K3.out.left.own
          rw [← HN2.out] at h1
          exact h1
        have FL : Hid (FlatAt (fun _ => True) (w2.alloc (.cells #[.int .i64 nm, .int .i64 e1] 62 (0, 0))) 2 (.slice (some ⟨w2.heap.size, 0, none⟩) 1 1) 1 (rcell (e1, nm))) := ref_lit _ (e1, nm)
        rw [← hw2]
        clear hw2 d0 X2
        go_wp2_with (first
          | (refine wpList_buildSlice_one (by rfl) 27 62 _ (by rfl) i0 _ 2 Try.underlying27 HI.out HZ0.out HZ1.out (by omega) (by omega) #[.int .i64 nm, .int .i64 e1] (by rfl) (by rfl) ?_)
          | (at_builtin; refine wpList_append_flat _ (by rfl) (.tmp 35) (.tmp 37) 27 (by rfl) w1.heap.size 62 i0 _ 2 16 Try.underlying27 HI.out HZ0.out HZ1.out HZ2.out (by rfl) (by omega) (.slice A2 n2 c2) n2 (rcells M) (by rfl) OW.out (fun _ => True) _ 1 1 (rcell (e1, nm)) (by rfl) FL.out (by unfold maxLen; omega) (by omega) (by exact BU2.out.below.size) ?_; intro v5 w5 o5 g5))
        have HK5 : Hid (RTick w1 w5 (.slice A1 n1 c1) v5 ns (M ++ [(e1, nm)])) := K3.out.kept_ (e1, nm) (by rw [← HN2.out]; exact o5) g5
        obtain ⟨A5, c5, rfl, hc5⟩ := HK5.out.left.shape
        clear o5 g5 x0 x1
        go_wp2
        go_roundw
        case rel => exact ⟨k + 1, ns, M ++ [(e1, nm)], A1, n1, c1, A5, _, c5, rfl, rfl, by go_num, by omega, HN1.out, rfl, by have := HN2.out; simp; omega, HNX.out.1.symm, HNX.out.2.symm, HK5.out⟩
        case measure => simp [intOf]; omega
    · obtain rfl : k = n := by omega
      have hfull : L.take k = L := List.take_of_length_le (by have := HN.out; omega)
      have hns := HNS.out
      have hM := HM.out
      rw [hfull] at hns hM
      obtain ⟨d0, d1, _, df⟩ := H2.out.cells
      have hov : RefNew w1 (wr.setCell ⟨r, 1, none⟩ (.slice A2 n2 c2)) r (now + 1) (restT L (now + 1)) := by
        rw [← hM]
        exact ref_over H2.out.cell (Turned.of_below HK.out.left.below _) hrw1 HK.out.left.own rfl
      have hov2 := hov.from_ HTK2.out
      have HOV := hide hov2
      have ho : (wr.setCell ⟨r, 1, none⟩ (.slice A2 n2 c2)).ownsRow w1.heap.size 3 1 (.slice A1 n1 c1) n1 (ivs (namesT (dueT L (now + 1)))) := by
        have h1 := HK.out.over
        rw [← HN1.out, hns] at h1
        exact own_apart h1 (Turned.of_grown (grown_set wr r 1 _) (S := fun i => i = r) fun g e => (Option.some.inj e).symm) fun q e hq => by
          have := (HK.out.over.lt q e).1
          omega
      have hfit : Fit (namesT (dueT L (now + 1))) := names_fit fun p hp => HT.out p (List.mem_filter.1 hp).1
      obtain ⟨A5, c5, hv5, _, _, h2⟩ := IHolds.of_own ho hfit
      injection hv5 with e1 _ e3
      subst e1 e3
      have H3 := hide h2
      clear hfull hns hM hov hov2 ho hfit h2
      go_wp2
      go_ret
      exact ⟨_, _, _, rfl, H3.out, HOV.out⟩
end
end Go.Proofs.Ythimdmgimlhbaaa
