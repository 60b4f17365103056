/- The document's Add: whoever votes is put in its place in a new list. -/
import Derived.Test.YtnmkndnaomgmhaaRefV
namespace Go.Proofs.Ytnmkndnaomgmhaa
open Go.RowKit

theorem refadd_no {w : World} {r : Nat} {n : Int} {L : List Int} (h : RefAt w r n L) (x : Int) (hL : L.length ≤ 1000) (hno : ¬ (1 ≤ x ∧ x ≤ n ∧ x ∉ L)) : Calls Try.prog 22 #[.pointer (some ⟨r, 0, none⟩), .int .i64 x] w fun e w' => e = .returned (.bool false) ∧ w' = w := by
  have CH := hide (refhas_any h x hL)
  obtain ⟨A, c, hb, ho, hf⟩ := h
  have c0 := cell_of_row w r 0 _ _ _ hb
  clear hb ho hf
  by_cases h1 : 1 ≤ x
  · have d1 : decide (x < 1) = false := by simp; omega
    by_cases h2 : x ≤ n
    · have d2 : decide (n < x) = false := by simp; omega
      have h3 : decide (x ∈ L) = true := by
        rw [decide_eq_true_eq]
        exact Classical.byContradiction fun h3 => hno ⟨h1, h2, h3⟩
      rw [h3] at CH
      clear h3 hno hL
      go_enter Try.func22, Try.ntmps22
      go_wp2_with (go_at_call 24; refine CH.out.mono ?_; rintro e w1 ⟨rfl, rfl⟩)
      go_ret
      exact ⟨rfl, rfl⟩
    · have d2 : decide (n < x) = true := by simp; omega
      clear hno hL CH
      go_enter Try.func22, Try.ntmps22
      go_wp2
      go_ret
      exact ⟨rfl, rfl⟩
  · have d1 : decide (x < 1) = true := by simp; omega
    clear hno hL CH
    go_enter Try.func22, Try.ntmps22
    go_wp2
    go_ret
    exact ⟨rfl, rfl⟩

set_option maxHeartbeats 4000000 in
theorem refadd_yes {w : World} {r : Nat} {n : Int} {L : List Int} (h : RefAt w r n L) (x : Int) (hL : L.length ≤ 1000) (hx1 : 1 ≤ x) (hx2 : x ≤ n) (hno : x ∉ L) (hn : n < 1000) :
    Calls Try.prog 22 #[.pointer (some ⟨r, 0, none⟩), .int .i64 x] w fun e w' => e = .returned (.bool true) ∧ (∃ L', Placed L x L' ∧ RefAt w' r n L') ∧ w.grownBy w' (some r) := by
  obtain ⟨i0, hi, hz0, hz1, hz2⟩ := info_parts Try.infoI64
  have HI := hide hi
  have HZ0 := hide hz0
  have HZ1 := hide hz1
  have HZ2 := hide hz2
  have CH := hide (refhas_any h x hL)
  rw [show decide (x ∈ L) = false from by simpa using hno] at CH
  have H := hide h
  have hrl : r < w.heap.size := h.lt
  obtain ⟨A, c, hb, ho, hf⟩ := h
  have c0 := cell_of_row w r 0 _ _ _ hb
  have c1 := cell_of_row w r 1 _ _ _ hb
  obtain ⟨A', c', hv, hnc, _, hih⟩ := IHolds.of_own ho hf
  obtain ⟨rfl, rfl⟩ : A = A' ∧ c = c' := by injection hv with e1 _ e3; exact ⟨e1, e3⟩
  obtain ⟨m, hm⟩ : ∃ m, L.length = m := ⟨_, rfl⟩
  have HIH := hide hih
  have HM := hide hm
  have HF := hide hf
  have HB := hide hb
  rw [hm] at c1 hnc HIH hL HB
  have d1 : decide (x < 1) = false := by simp; omega
  have d2 : decide (n < x) = false := by simp; omega
  clear hb ho hf hv hih hm hno hi hz0 hz1 hz2
  go_enter Try.func22, Try.ntmps22
  go_wp2_with (first
    | (go_at_call 24; refine CH.out.mono ?_; rintro e w1 ⟨rfl, rfl⟩)
    | (refine wpList_empty_ints (by rfl) (by rfl) ?_; intro w3 oe be; have OE := hide oe; have BE := hide be; have c1b := cell_of_row w3 r 1 _ _ _ ((be.block r hrl).trans HB.out); clear oe be c1)
    | (at_builtin; refine wpList_append_ints _ rfl (.tmp 22) (.tmp 26) 27 rfl w.heap.size 3 i0 (.int .i64 0) Try.underlying27 HI.out HZ0.out HZ1.out HZ2.out rfl _ 0 (ivs []) rfl OE.out w.heap.size A m c L rfl (HIH.out.below BE.out) (by omega) BE.out.size ?_))
  intro v4 w4 o4 g4
  have O4 : Hid (w4.ownsRow w.heap.size 3 1 v4 m (ivs L)) := (by first | exact o4 | (rw [Nat.zero_add] at o4; exact o4))
  have B4 : Hid (Below w.heap.size w w4) := BE.out.grown g4.1 BE.out.size (fun k hk => (OE.out.lt k hk).1)
  have O4b : Hid ((w4.alloc (.cells #[.int .i64 x] 3 (0, 0))).ownsRow w.heap.size 3 1 v4 m (ivs L)) := O4.out.alloc _
  have HLOW : Hid (w.heap.size ≤ (w4.alloc (.cells #[.int .i64 x] 3 (0, 0))).heap.size) := (by have h1 := B4.out.size; show _ ≤ _; simp; omega)
  clear o4 g4 c1b
  go_wp2_with (at_builtin; refine wpList_append_ints _ rfl (.tmp 27) (.tmp 29) 27 rfl w.heap.size 3 i0 (.int .i64 0) Try.underlying27 HI.out HZ0.out HZ1.out HZ2.out rfl v4 m (ivs L) rfl O4b.out _ (some ⟨w4.heap.size, 0, none⟩) 1 1 [x] rfl (int_lit w4 x (by omega) (by omega)) (by omega) (by exact HLOW.out) ?_)
  intro v5 w5 o5 g5
  have o6 : w5.ownsRow w.heap.size 3 1 v5 (m + 1) (ivs (putI L L.length x)) := (by rw [putI_end, ivs_append]; exact o5)
  have B5 : Hid (Below w.heap.size w w5) := (B4.out.alloc B4.out.size _).grown g5.1 HLOW.out (fun k hk => (O4b.out.lt k hk).1)
  obtain ⟨b, cb, hv5, hb1, hb2, hb3, hb4⟩ := iown_at o6 (by omega)
  subst hv5
  have P5 : Hid (Putting w w5 b cb L x L.length) := ⟨Nat.le_refl _, (by rw [HM.out] at o6 ⊢; exact o6), (fun j h1 h2 => by omega), B5.out⟩
  have HBW := hide hb1
  clear o5 g5 o6 hb1 hb2 hb4
  go_wp2
  go_loopw [6] (fun j wr => ∃ i : Nat, j = .int .i64 (i : Int) ∧ i ≤ m ∧ Putting w wr b cb L x i) (fun j _ => (Go.RowKit.intOf j).toNat)
  case atStart => exact ⟨m, by go_num, by omega, by have h := P5.out; rw [HM.out] at h; exact h⟩
  case round =>
    obtain ⟨i, rfl, him, hput⟩ := hrel
    have HP := hide hput
    clear hput
    have HDONE : Hid (∀ q, (i = 0 ∨ L.getD (i - 1) 0 ≤ x) → ∃ L', Placed L x L' ∧ RefAt ((wr.drewN q).setCell ⟨r, 1, none⟩ (.slice (some ⟨b, 0, none⟩) (m + 1) cb)) r n L') := fun q hcase => by
      refine ⟨putI L i x, ⟨i, HP.out.le, rfl, fun h0 => hcase.elim (fun h => by omega) id, HP.out.more⟩, some ⟨b, 0, none⟩, cb, ?_, ?_, putI_fit HF.out (by omega)⟩
      · rw [putI_len, HM.out]
        exact heap_setCell_same (wr.drewN q) r 1 _ _ _ ((HP.out.bel.block r hrl).trans HB.out)
      · rw [putI_len, HM.out]
        have h1 := HP.out.own
        rw [HM.out] at h1
        have h2 := h1.kept (grown_set wr r 1 (.slice (some ⟨b, 0, none⟩) (m + 1) cb)) (.inr fun e => by
          have e2 : b = r := Option.some.inj e
          have := HBW.out
          omega)
        refine own_same (w := wr.setCell ⟨r, 1, none⟩ (.slice (some ⟨b, 0, none⟩) (m + 1) cb)) ?_ (fun _ _ => rfl)
        rcases h2.2 with ⟨h0, _⟩ | ⟨g', cap, cur, hv', hb', rest⟩
        · cases h0
        · refine ⟨h2.1, .inr ⟨g', cap, cur, hv', ?_, rest⟩⟩
          have e1 : b = g' := by injection hv' with e1 _ _; injection e1 with e1; injection e1
          have := HBW.out
          omega
    have HGROW : Hid (∀ q, w.grownBy ((wr.drewN q).setCell ⟨r, 1, none⟩ (.slice (some ⟨b, 0, none⟩) (m + 1) cb)) (some r)) := fun q => (grown_later HP.out.bel _).trans ((grown_later (below_drewN _ wr q) _).trans (grown_set (wr.drewN q) r 1 _))
    have cr1 := cell_of_row wr r 1 _ _ _ ((HP.out.bel.block r hrl).trans HB.out)
    have fr1 := frozen_of_row wr r 1 _ _ ((HP.out.bel.block r hrl).trans HB.out)
    by_cases hi0 : i = 0
    · subst hi0
      have hd0 : decide ((0 : Int) < ((0 : Nat) : Int)) = false := by decide
      go_wp2
      go_quiet (fail)
      go_wp2
      go_ret
      exact ⟨rfl, HDONE.out _ (.inl (by first | rfl | trivial)), HGROW.out _⟩
    · obtain ⟨k, rfl⟩ : ∃ k, i = k + 1 := ⟨i - 1, by omega⟩
      have hkm : k < L.length := by have := HM.out; omega
      have HKM := hide hkm
      have own := HP.out.own
      rw [HM.out] at own
      have q0 := iown_cell own (i := k) (by omega)
      have q1 := iown_cell own (i := k + 1) (by omega)
      rw [putI_before x hkm] at q0
      rw [putI_at x (by omega)] at q1
      obtain ⟨X, hX⟩ : ∃ X, X = L.getD k 0 := ⟨_, rfl⟩
      rw [← hX] at q0
      have HX := hide hX
      have fq0 := iown_free own k
      have fq1 := iown_free own (k + 1)
      have HOWN := hide own
      clear own hX hkm
      by_cases hgt : x < X
      · have hg1 : decide (x < X) = true := by simpa using hgt
        have HGT := hide hgt
        clear hgt
        clear cr1 fr1
        go_wp2
        go_quiet (fail)
        go_wp2
        obtain ⟨w7, hw7⟩ : ∃ w7, w7 = wr.drewN nq := ⟨_, rfl⟩
        rw [← hw7]
        have OW7 : Hid (w7.ownsRow w.heap.size 3 1 (.slice (some ⟨b, 0, none⟩) (m + 1) cb) (m + 1) (ivs (putI L (k + 1) x))) := by
          rw [hw7]
          exact own_same HOWN.out (fun _ _ => rfl)
        have B7 : Hid (Below w.heap.size w w7) := by rw [hw7]; exact HP.out.bel.trans (below_drewN _ _ _)
        have p0 := iown_cell OW7.out (i := k) (by omega)
        have p1 := iown_cell OW7.out (i := k + 1) (by omega)
        rw [putI_before x HKM.out, ← HX.out] at p0
        rw [putI_at x (by have := HM.out; omega)] at p1
        have pf0 := iown_free OW7.out k
        have pf1 := iown_free OW7.out (k + 1)
        have s1 := iown_set OW7.out k x
        have cz := iown_cell s1.1 (i := k + 1) (by omega)
        have fz := iown_free s1.1 (k + 1)
        obtain ⟨Z, hZ⟩ : ∃ Z, Z = ((putI L (k + 1) x).set k x).getD (k + 1) 0 := ⟨_, rfl⟩
        rw [← hZ] at cz
        have s2 := iown_set s1.1 (k + 1) X
        rw [HX.out, putI_swap x HKM.out, ← HX.out] at s2
        have HS := hide s2.1
        have HG2 : Hid (w7.grownBy ((w7.setCell ⟨b, k, none⟩ (.int .i64 x)).setCell ⟨b, k + 1, none⟩ (.int .i64 X)) (some b)) := s1.2.trans s2.2
        clear s1 s2 hZ q0 q1 fq0 fq1 hw7
        go_region
        obtain ⟨w8, hw8⟩ : ∃ w8, w8 = ((w7.setCell ⟨b, k, none⟩ (.int .i64 x)).setCell ⟨b, k + 1, none⟩ (.int .i64 X)).drew := ⟨_, rfl⟩
        have P8 : Hid (Putting w w8 b cb L x k) := ⟨by have := HKM.out; omega, by rw [hw8, HM.out]; exact own_same HS.out (fun _ _ => rfl), fun j h1 h2 => by
          by_cases hj : j = k
          · rw [hj, ← HX.out]; exact HGT.out
          · exact HP.out.more j (by omega) h2, by
          rw [hw8]
          exact (B7.out.grown HG2.out B7.out.size (fun g hg => by have := Option.some.inj hg; have := HBW.out; omega)).drew⟩
        rw [← hw8]
        clear cz fz p0 p1 pf0 pf1 hw8
        go_wp2
        go_roundw
        case rel => exact ⟨k, by go_num, by omega, P8.out⟩
        case measure => simp [Go.RowKit.intOf]
      · have hg1 : decide (x < X) = false := by simpa using hgt
        have HLE : Hid (X ≤ x) := by show _ ≤ _; omega
        clear hgt
        go_wp2
        go_quiet (fail)
        go_wp2
        go_ret
        exact ⟨rfl, HDONE.out _ (.inr (by rw [show k + 1 - 1 = k from rfl, ← HX.out]; exact HLE.out)), HGROW.out _⟩
end Go.Proofs.Ytnmkndnaomgmhaa
