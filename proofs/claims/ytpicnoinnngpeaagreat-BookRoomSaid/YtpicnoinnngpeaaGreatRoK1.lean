/- Whatever the room and whatever starts and reports: not more sagas go on at once than may, not more are there than may, and each number is used once, rising; no condition. -/
import Derived.Test.YtpicnoinnngpeaaGreatBaseK1
import Derived.Test.YtpicnoinnngpeaaGreatBaseK2
import Derived.Test.YtpicnoinnngpeaaGreatBaseK3
import Derived.Test.YtpicnoinnngpeaaGreatBaseK4
import Derived.Test.YtpicnoinnngpeaaGreatBaseK5
import Derived.Test.YtpicnoinnngpeaaGreatBaseK6
import Derived.Deep.CutBlock
import Derived.Deep.DeepCutAuto
import Derived.Test.YtpicnoinnngpeaaGreatRows
import Derived.ProofKit
import Derived.OpenShut
import Derived.ShutString
import Derived.ChangeOld
/- BookRoom. -/
namespace Go.Proofs.YtpicnoinnngpeaaGreat
open Go.RowKit Go.Maps
def LawTrue (w : World) (e : Ending) (w' : World) : Prop := e = .returned (.bool true) ∧ Later w w'
theorem opRep_wf {id : Int} (h : I64 id) : (opRep id).wf := ⟨(show I64 4 from ⟨by decide, by decide⟩), (show I64 0 from ⟨by decide, by decide⟩), (show I64 0 from ⟨by decide, by decide⟩), (show (⟨#[]⟩ : ByteArray).size ≤ 140737488355328 from by decide), by simp [opRep], h, (show I64 1 from ⟨by decide, by decide⟩), (show I64 1 from ⟨by decide, by decide⟩)⟩
theorem tmod_small (a : Int) {l : Int} (h : 0 < l) (hl : l ≤ 1000) : -1000 ≤ a.tmod l ∧ a.tmod l ≤ 1000 := by
  have h1 := Int.tmod_lt_of_pos a h
  have h2 : -l < a.tmod l := by
    have := Int.tmod_lt_of_pos (-a) h
    rw [Int.neg_tmod] at this
    omega
  omega
section
variable {w : World}
set_option maxHeartbeats 16000000 in
set_option maxRecDepth 100000 in
theorem law_room {F0 : Nat → Prop} {v : Value} {ks : List Int} (m : Int) (hm0 : 0 ≤ m) (_hm1 : m < 18446744073709551616) (hk : UsAt F0 w v ks) (hkb : ks.length ≤ 9223372036854775807) (hkr : ∀ a ∈ ks, 0 ≤ a ∧ a < 18446744073709551616) :
    Calls Tryz.prog 6 #[.int .u64 m, v] w (LawTrue w) := by
  obtain ⟨A, cap, rfl, _, _, _⟩ := FlatAt.shape hk
  obtain ⟨i0, hi, hz0, hz1, _⟩ := info_parts (show (Tryz.prog.info? 66).map (fun i => (i.zero, i.size, i.bytes)) = some (some (.agg #[.string ⟨#[]⟩, .int .i64 0, .int .i64 0, .int .i64 0, .bool false, .bool false]), 6, 48) from by kernel_rfl)
  have HI := hide hi
  have HZ0 := hide hz0
  have HZ1 := hide hz1
  obtain ⟨N, hN⟩ : ∃ N : Nat, m % 33 = (N : Int) := ⟨(m % 33).toNat, by omega⟩
  have hN33 : N ≤ 32 := by omega
  obtain ⟨n2, hn2⟩ : ∃ n, ks.length = n := ⟨_, rfl⟩
  have HN2 := hide hn2
  rw [hn2] at hkb ⊢
  have HKR := hide hkr
  have UK : Hid (∀ W, Later w W → UsAt F0 W (.slice A ks.length cap) ks) := fun W h => hk.kept (Kept.of_below h _)
  rw [HN2.out] at UK
  have CN := hide (new_yes (N : Int) w (by omega) (by omega))
  have HN33 := hide hN33
  clear hi hz0 hz1 hn2 hkr hk
  go_enter Tryz.func6, Tryz.ntmps6
  go_wp2_with (fail)
  refine CN.out.mono ?_
  rintro e w1 ⟨g, b, rfl, hg, hb, hl1, hbk⟩
  have HBK := hide (hbk (fun i => i ≠ g ∧ i ≠ b) (fun h => h.1 rfl) (fun h => h.2 rfl))
  have HGB := hide (And.intro hg hb)
  have L1 : Hid (Later w w1) := hl1
  obtain ⟨z, hz⟩ : ∃ z, w1.heap.size = z := ⟨_, rfl⟩
  obtain ⟨W2, hW2⟩ : ∃ W2, W2 = w1.alloc (.cells holdB.cells.toArray 66 (0, 0)) := ⟨_, rfl⟩
  obtain ⟨W3, hW3⟩ : ∃ W3, W3 = W2.alloc (.cells #[.string nmB, .slice (some ⟨z, 0, none⟩) 1 1] 31 (0, 0)) := ⟨_, rfl⟩
  have hz2 : W2.heap.size = z + 1 := by rw [hW2, ← hz]; simp
  have hgz : g < z ∧ b < z := by rw [← hz]; exact HBK.out.lt
  have S2 : StepsAt (fun i => i ≠ g ∧ i ≠ b) W2 (.slice (some ⟨z, 0, none⟩) 1 1) lB := by rw [hW2, ← hz]; exact stepB_at w1 _ ⟨by omega, by omega⟩
  have L12 : Later w1 W2 := by rw [hW2]; exact (Below.refl _ _).alloc (Nat.le_refl _) _
  have L23 : Later W2 W3 := by rw [hW3]; exact (Below.refl _ _).alloc (Nat.le_refl _) _
  have S3 : Hid (StepsAt (fun i => i ≠ g ∧ i ≠ b) W3 (.slice (some ⟨z, 0, none⟩) 1 1) lB) := StepsAt.kept S2 (Kept.of_below L23 _)
  have B3 : Hid (DefBox (z + 1) nmB (.slice (some ⟨z, 0, none⟩) 1 1) W3) := by rw [hW3, ← hz2]; exact heap_alloc_new W2 _
  have L13 : Hid (Later w1 W3) := Later.trans L12 L23
  have L3 : Hid (Later w W3) := Later.trans (show Later w w1 from L1.out) L13.out
  have H3 := hide (HBK.out.later L13.out)
  have HGZ := hide hgz
  have HZ := hide hz
  have HZ2 := hide hz2
  have HW2 := hide hW2.symm
  have HW3 := hide hW3.symm
  clear hz hz2 hW2 hW3 hg hb hl1 hbk S2 L12 L23 CN hgz
  by_cases h100 : 100 < n2
  · have h100' : (100 : Int) < (n2 : Int) := by omega
    go_wp2_with (refine wpList_buildSlice_one (by rfl) 29 66 _ (by rfl) i0 _ 6 Tryz.underlying29 HI.out HZ0.out HZ1.out (by omega) (by omega) holdB.cells.toArray (by rfl) (by rfl) ?_; rw [HW2.out, HZ.out])
    simp only [HW3.out, HZ2.out]
    refine (lives_any (w := W3)).mono ?_
    rintro e w9 ⟨rfl, hl⟩
    have L9 : Hid (Later w w9) := Later.trans (show Later w W3 from L3.out) hl
    clear hl
    go_wp2
    go_ret
    exact ⟨rfl, L9.out⟩
  · have h100' : ¬ (100 : Int) < (n2 : Int) := by omega
    go_wp2_with (refine wpList_buildSlice_one (by rfl) 29 66 _ (by rfl) i0 _ 6 Tryz.underlying29 HI.out HZ0.out HZ1.out (by omega) (by omega) holdB.cells.toArray (by rfl) (by rfl) ?_; rw [HW2.out, HZ.out])
    simp only [HW3.out, HZ2.out]
    go_loopw [8, 9, 35] (fun s8 s9 s35 wr => ∃ (q la op k : Nat) (t : BkS), q ≤ n2 ∧ s35 = .int .i64 (q : Int) ∧ s8 = .int .i64 (la : Int) ∧ s9 = .int .i64 (op : Int) ∧ la ≤ q ∧ k ≤ q ∧ Hid (RoomI N t la op) ∧ Hid (BookAt (fun i => i ≠ g ∧ i ≠ b) wr g b k (N : Int) t) ∧ Hid (Turned (fun i => i = g ∨ i = b) W3 wr)) (fun _ _ s _ => n2 - (Go.RowKit.intOf s).toNat)
    case atStart => exact ⟨0, 0, 0, 0, ⟨0, []⟩, by omega, rfl, rfl, rfl, by omega, by omega, RoomI.start0 N, H3.out, Turned.refl _ _⟩
    case round =>
      obtain ⟨q, la, op, k, t, hq, rfl, rfl, rfl, hla, hkq, RI, HB, TR⟩ := hrel
      have hop := RI.out.most
      have HLT := hide HB.out.lt
      have LR : Hid (Later w wr) := ((Turned.of_below L3.out (fun _ => False)).onto TR.out (fun i hi => .inr (by have := HGB.out; rcases hi with rfl | rfl <;> omega))).below (fun i hi => hi.elim) (Nat.le_refl _)
      by_cases hqn : q < n2
      · obtain ⟨a, ub, uo, uc, ha, hvv, _, _, _, hcell⟩ := UsAt.at_ (by have := UK.out wr LR.out; rw [← HN2.out] at this; exact this) (i := q) (by rw [HN2.out]; exact hqn)
        rw [HN2.out] at hvv
        obtain ⟨rfl, rfl⟩ : A = some ⟨ub, uo, none⟩ ∧ cap = uc := by injection hvv with e1 _ e3; exact ⟨e1, e3⟩
        have har := HKR.out a (List.mem_of_getElem? ha)
        clear ha hvv
        obtain ⟨r3, hr3⟩ : ∃ r : Nat, a % 3 = (r : Int) := ⟨(a % 3).toNat, by omega⟩
        go_upto_if 41 with (fail)
        go_cut [8, 9] (fun s8 s9 wc => ∃ (la2 op2 k2 : Nat) (t2 : BkS), s8 = .int .i64 (la2 : Int) ∧ s9 = .int .i64 (op2 : Int) ∧ la2 ≤ q + 1 ∧ k2 ≤ q + 1 ∧ Hid (RoomI N t2 la2 op2) ∧ Hid (BookAt (fun i => i ≠ g ∧ i ≠ b) wc g b k2 (N : Int) t2) ∧ Hid (Turned (fun i => i = g ∨ i = b) W3 wc))
        case first =>
          by_cases hr0 : r3 = 0
          · subst hr0
            by_cases hla0 : la = 0
            · subst hla0
              go_wp2_with (fail)
              go_meet
              exact ⟨0, op, k, t, rfl, rfl, by omega, by omega, RI, HB, TR⟩
            · have hlap : 0 < la := by omega
              obtain ⟨id, hid⟩ : ∃ id, wrap64 (1 + (wrap64 a).tmod (la : Int)) = id := ⟨_, rfl⟩
              have hI : I64 id := by rw [← hid]; unfold wrap64 I64; omega
              have hll : t.last = (la : Int) := RI.out.last
              have hlen := RI.out.len
              have CB := hide (apply_any (o := opRep id) HB.out (by omega) (by omega) (StepsAt.nil_ (fun _ => True) _) (opRep_wf hI) (by omega) (fun i hi => by have a1 := HLT.out; exact ⟨by omega, by omega⟩))
              have hrep := RI.out.report HB.out.ok.1 (N : Int) id
              obtain ⟨rr, hrr⟩ : ∃ rr, applyR (N : Int) t (opRep id) = rr := ⟨_, rfl⟩
              obtain ⟨t9, ht9⟩ : ∃ t9, applyS (N : Int) t (opRep id) = t9 := ⟨_, rfl⟩
              rw [hrr, ht9] at CB hrep
              unfold OpD.cells opRep at CB
              have HID := hide hid
              clear hid hI hll hlen hrr ht9
              rcases hrep with ⟨e1, e2, e3⟩ | ⟨e1, e3⟩
              · have HE1 := hide e1
                have RI5 := hide e3
                clear e1 e3
                go_wp2_with (fail)
                rw [HID.out]
                refine CB.out.mono ?_
                rintro e w4 ⟨rfl, hb4, ht4⟩
                have H4 := hide hb4
                have T5 : Hid (Turned (fun i => i = g ∨ i = b) W3 w4) := TR.out.trans ht4
                clear hb4 ht4 CB
                go_wp2_with (refine wpList_val rfl (by rfl) (exec_field_err _ rr (by rfl) (by rfl)) ?_; rw [HE1.out])
                go_meet
                exact ⟨la, op - 1, k + 1, t9, rfl, congrArg (Value.int .i64) (by omega), by omega, by omega, RI5, H4, T5⟩
              · obtain ⟨er, her⟩ : ∃ er, rr.err = er := ⟨_, rfl⟩
                rw [her] at e1
                have ne1 : (er == 0) = false := by simpa using e1
                have HE1 := hide her
                have RI5 := hide e3
                clear e1 e3 her
                go_wp2_with (fail)
                rw [HID.out]
                refine CB.out.mono ?_
                rintro e w4 ⟨rfl, hb4, ht4⟩
                have H4 := hide hb4
                have T5 : Hid (Turned (fun i => i = g ∨ i = b) W3 w4) := TR.out.trans ht4
                clear hb4 ht4 CB
                go_wp2_with (refine wpList_val rfl (by rfl) (exec_field_err _ rr (by rfl) (by rfl)) ?_; rw [HE1.out])
                go_meet
                exact ⟨la, op, k + 1, t9, rfl, rfl, by omega, by omega, RI5, H4, T5⟩
          · have hr0' : decide (0 < r3) = true := by simp; omega
            have Dr : DefBox (z + 1) nmB (.slice (some ⟨z, 0, none⟩) 1 1) wr := (TR.out.block (z + 1) (lt_of_block B3.out) (fun e => by have := HGZ.out; omega)).trans B3.out
            have x0 := Dr.name_
            have x1 := Dr.steps
            have Sr := StepsAt.kept S3.out (TR.out.kept (fun i hi e => e.elim hi.1 hi.2))
            have hll : t.last = (la : Int) := RI.out.last
            have hlen := RI.out.len
            have CA := hide (apply_any (o := opStart nmB lB) HB.out (by omega) (by omega) Sr opB_wf (by omega) (fun i hi => by have a1 := HLT.out; exact ⟨by omega, by omega⟩))
            unfold OpD.cells opStart at CA
            by_cases hful : op < N
            · have RI5 := hide (RI.out.start HB.out.ok.1 HN33.out hful)
              have hcnt : (openN t.L : Int) < (N : Int) := by have := RI.out.count; omega
              have eR := startB_R (N : Int) t hcnt
              have eS := startB_S (N : Int) t hcnt
              unfold opStart at eR eS
              rw [eR, eS] at CA
              rw [hll] at CA RI5
              have dful : decide (op < N) = true := by simpa using hful
              clear Dr Sr hll hlen hcnt eR eS hful
              go_wp2_with (fail)
              refine CA.out.mono ?_
              rintro e w4 ⟨rfl, hb4, ht4⟩
              have H4 := hide hb4
              have T4 := hide ht4
              have R4 : Hid (RBox w4.heap.size (errR 0) (w4.alloc (.cells #[.int .i64 0, .int .i64 0, .int .i64 0, .int .i64 0] 44 (0, 0)))) := heap_alloc_new _ _
              have L4 : Hid (Later w4 (w4.alloc (.cells #[.int .i64 0, .int .i64 0, .int .i64 0, .int .i64 0] 44 (0, 0)))) := (Below.refl _ _).alloc (Nat.le_refl _) _
              clear hb4 ht4 CA x0 x1
              go_wp2_with (refine wpList_store_rep (r := ⟨0, (la : Int) + 1, 1, 1⟩) (by rfl) _ _ (by rfl) (by rfl) R4.out (by rfl) ?_)
              intro w5 Z5 G5
              have L45 : Hid (Later w4 w5) := L4.out.grown G5 (by simp) (fun k hk => by have := Option.some.inj hk; omega)
              obtain ⟨q0, q1, _, _⟩ := RBox.cells_ Z5
              simp only at q0 q1
              have H5 := hide (H4.out.later L45.out)
              have T5 : Hid (Turned (fun i => i = g ∨ i = b) W3 w5) := (TR.out.trans T4.out).trans (Turned.of_below L45.out _)
              clear Z5 G5 R4 L4
              go_wp2_with (fail)
              go_meet
              exact ⟨la + 1, op + 1, k + 1, _, by go_num, by go_num, by omega, by omega, RI5, H5, T5⟩
            · have hcnt : (N : Int) ≤ (openN t.L : Int) := by have := RI.out.count; omega
              obtain ⟨eR, eS⟩ := startB_full (N : Int) t hcnt
              unfold opStart at eR eS
              rw [eR, eS] at CA
              have dful : decide (op < N) = false := by simpa using hful
              clear Dr Sr hll hlen hcnt eR eS hful
              go_wp2_with (fail)
              refine CA.out.mono ?_
              rintro e w4 ⟨rfl, hb4, ht4⟩
              have H4 := hide hb4
              have T4 := hide ht4
              have R4 : Hid (RBox w4.heap.size (errR 0) (w4.alloc (.cells #[.int .i64 0, .int .i64 0, .int .i64 0, .int .i64 0] 44 (0, 0)))) := heap_alloc_new _ _
              have L4 : Hid (Later w4 (w4.alloc (.cells #[.int .i64 0, .int .i64 0, .int .i64 0, .int .i64 0] 44 (0, 0)))) := (Below.refl _ _).alloc (Nat.le_refl _) _
              clear hb4 ht4 CA x0 x1
              go_wp2_with (refine wpList_store_rep (r := errR 7) (by rfl) _ _ (by rfl) (by rfl) R4.out (by rfl) ?_)
              intro w5 Z5 G5
              have L45 : Hid (Later w4 w5) := L4.out.grown G5 (by simp) (fun k hk => by have := Option.some.inj hk; omega)
              obtain ⟨q0, q1, _, _⟩ := RBox.cells_ Z5
              unfold errR at q0 q1
              simp only at q0 q1
              have H5 := hide (H4.out.later L45.out)
              have T5 : Hid (Turned (fun i => i = g ∨ i = b) W3 w5) := (TR.out.trans T4.out).trans (Turned.of_below L45.out _)
              clear Z5 G5 R4 L4
              go_wp2_with (fail)
              go_meet
              exact ⟨la, op, k + 1, t, rfl, rfl, by omega, by omega, RI, H5, T5⟩
        case rest =>
          obtain ⟨la2, op2, k2, t2, rfl, rfl, hla2, hk2, RI2, HB2, TR2⟩ := hcut
          obtain ⟨d3, hd3⟩ : ∃ d3, stateN t2.L 3 = d3 := ⟨_, rfl⟩
          have hlen := RI2.out.len
          have hsum := RI2.out.states
          rw [RI2.out.running, hd3] at hsum
          have K1 : Hid (∀ W, Later wc W → Calls Tryz.prog 19 #[.pointer (some ⟨g, 0, none⟩), .int .i64 1] W (Gives (.int .i64 (op2 : Int)) W)) := fun W hW => by
            have := counts_any 1 (HB2.out.later hW) (by omega)
            rwa [RI2.out.running] at this
          have K3 : Hid (∀ W, Later wc W → Calls Tryz.prog 19 #[.pointer (some ⟨g, 0, none⟩), .int .i64 3] W (Gives (.int .i64 (d3 : Int)) W)) := fun W hW => by
            have := counts_any 3 (HB2.out.later hW) (by omega)
            rwa [hd3] at this
          have KI : Hid (∀ W, Later wc W → Calls Tryz.prog 26 #[.pointer (some ⟨g, 0, none⟩)] W fun e w' => ∃ A c, e = .returned (.slice A t2.L.length c) ∧ Later W w') := fun W hW => by
            refine (ids_any (HB2.out.later hW) (by omega)).mono ?_
            rintro e w' ⟨A, n, c, rfl, _, h2, _, h4⟩
            obtain rfl : t2.L.length = n := by have := h2.1; rw [idsOf_len] at this; exact this
            exact ⟨A, c, rfl, h4⟩
          obtain ⟨n3, hn3⟩ : ∃ n3, t2.L.length = n3 := ⟨_, rfl⟩
          rw [hn3] at KI hlen hsum
          have f1 : ¬ (32 : Int) < (n3 : Int) := by omega
          have f2 : ((op2 : Int) + (d3 : Int) != (n3 : Int)) = false := by simp; omega
          have f3 : op2 ≤ 32 := by omega
          have f4 : d3 ≤ 32 := by omega
          clear hd3 hn3 hlen hsum
          go_wp2_with (fail)
          refine (K1.out _ (Later.refl _)).mono ?_
          rintro e v1 ⟨rfl, hl⟩
          have M1 : Hid (Later wc v1) := hl
          clear hl
          go_wp2_with (fail)
          refine (KI.out _ M1.out).mono ?_
          rintro e v2 ⟨A5, c5, rfl, hl⟩
          have M2 : Hid (Later wc v2) := Later.trans (show Later wc v1 from M1.out) hl
          clear hl
          go_wp2_with (fail)
          refine (K1.out _ M2.out).mono ?_
          rintro e v3 ⟨rfl, hl⟩
          have M3 : Hid (Later wc v3) := Later.trans (show Later wc v2 from M2.out) hl
          clear hl
          go_wp2_with (fail)
          refine (K3.out _ M3.out).mono ?_
          rintro e v4 ⟨rfl, hl⟩
          have M4 : Hid (Later wc v4) := Later.trans (show Later wc v3 from M3.out) hl
          clear hl
          go_wp2_with (fail)
          refine (KI.out _ M4.out).mono ?_
          rintro e v5 ⟨A6, c6, rfl, hl⟩
          have M5 : Hid (Later wc v5) := Later.trans (show Later wc v4 from M4.out) hl
          have H9 := hide (HB2.out.later M5.out)
          have T9 : Hid (Turned (fun i => i = g ∨ i = b) W3 v5) := TR2.out.trans (Turned.of_below M5.out _)
          clear hl K1 K3 KI
          go_wp2
          go_roundw
          case rel => exact ⟨q + 1, la2, op2, k2, t2, by omega, by go_num, rfl, rfl, hla2, hk2, RI2, H9, T9⟩
          case measure => simp [Go.RowKit.intOf]; omega
      · obtain rfl : q = n2 := by omega
        go_wp2_with (fail)
        refine (lives_any (w := wr)).mono ?_
        rintro e w9 ⟨rfl, hl⟩
        have L9 : Hid (Later w w9) := Later.trans (show Later w wr from LR.out) hl
        clear hl
        go_wp2
        go_ret
        exact ⟨rfl, L9.out⟩
end
end Go.Proofs.YtpicnoinnngpeaaGreat
/- BookRoom, as the claim asks it. -/
namespace Go.Proofs.YtpicnoinnngpeaaGreat
open Go.RowKit
theorem law_roomW (m : Nat) (v : Value) (ks : List Int) (w : World) (hm : m < 18446744073709551616) (h2 : UsAt (· < w.heap.size) w v ks) (hk : ∀ a ∈ ks, 0 ≤ a ∧ a < 18446744073709551616) :
    Calls Tryz.prog 6 #[.int .u64 (m : Int), v] w fun e w' => e = .returned (.bool true) ∧ Later w w' := law_room (m : Int) (by omega) (by omega) h2 (flat_small h2) hk
end Go.Proofs.YtpicnoinnngpeaaGreat
namespace Go.Proofs.YtpicnoinnngpeaaGreat
open Go.ChangeShapes Go.WideShapes Go.ChangeAt Go.RowKit

theorem bookRoom_lawKnobs : ownKnob Tryz.prog.godebug = none := by kernel_rfl
theorem bookRoom_allLaid : laidOutB Tryz.prog = true := by kernel_rfl

set_option maxRecDepth 100000 in
set_option maxHeartbeats 1000000 in
theorem bookRoom_lifted (os : Os) (started : os.Started) (H : Type) (enc : TypeId × Value → H) :
    ReturnsInHanded {} Tryz.checked os 6 .any (Rows.bookRoomSpec.pre6 enc Tryz.prog Tryz.f6 Rows.bookRoomRow.domain false) (Rows.bookRoomSpec.post enc Tryz.prog Tryz.f6 false true false false) := by
  refine returnsInHanded_of_change_sized (C := Tryz.checked) bookRoom_lawKnobs started (by kernel_rfl) Tryz.func6
    (ChangeSpec.witness6 (enc := enc) (C := Tryz.checked) false ⟨#[], #[.int .u64 0, .slice none 0 0], []⟩ 8 (by kernel_rfl) (by kernel_rfl) (by kernel_rfl) (by kernel_rfl)) ?_
  intro W base args ds gs before hval0 hW hcnd hsz _
  have hval : ∀ (j : Nat) t v, Tryz.f6.params[j]? = some t → args[j]? = some v → Value.okWide Tryz.prog W .any base t v := hval0
  have hW' := hW
  obtain ⟨p, q, hA0, hV, rfl, _, _⟩ := hW
  have hA : DataW.TrodAll enc Tryz.prog W 0 (fun _ => true) true Tryz.f6.params.toList args.toList ds p := hA0
  rw [Tryz.params6] at hA hval
  obtain ⟨v0, vs0, d0, ds0, p0, q0, hargs, rfl, rfl, h0, r0⟩ := trodAll_cons hA
  obtain ⟨v1, vs1, d1, ds1, p1, q1, rfl, rfl, rfl, h1, r1⟩ := trodAll_cons r0
  obtain ⟨rfl, rfl, rfl⟩ := trodAll_nil r1
  obtain rfl : args = #[v0, v1] := by cases args; simp_all
  obtain ⟨rfl, rfl⟩ := trodVars_none hV
  have k0 := h0
  obtain ⟨a0, rfl, rfl, rfl, w0⟩ := open_int Tryz.underlying60 (hval 0 60 v0 rfl rfl) h0
  have b0 := bounds_u64 w0
  obtain ⟨V0, rfl⟩ := Int.eq_ofNat_of_zero_le b0.1
  have k1 := h1
  have lt1 : ∀ x ∈ p1, x.block < W.heap.size := by obtain ⟨m, hm⟩ := k1; exact DataW.trod_lt m _ _ _ hm
  have s1 : Sm 64 d1 := sm_of hsz (j := 1) rfl rfl
  obtain ⟨A1, len1, cap1, rfl⟩ := okWide_slice Tryz.underlying64 (hval 1 64 v1 rfl rfl)
  obtain ⟨l1, hl1, wf1⟩ := arg_us h1 s1
  clear hA0 hval0
  refine (law_roomW V0 (.slice A1 len1 cap1) l1 W (by omega) hl1 wf1).mono fun e W' ⟨he, bel⟩ => ?_
  subst he
  exact ⟨_, rfl, _, _, _, [], _, [], hW', trodAll_mk1 (shut_bool Tryz.underlying4 _), (trodAll_cons_mk (shut_int Tryz.underlying60 w0) (trodAll_cons_mk (Below.trod bookRoom_allLaid (by kernel_rfl) (of_decide_eq_true (by kernel_rfl)) k1 bel lt1) trodAll_mk0)), rfl, bel.frame _, fun h => by cases h⟩

theorem bookRoom_over : Rows.bookRoomRow.holds Tryz.pinned (OpenSpec.ofChange Rows.bookRoomSpec) :=
  OpenClaim.holds_of_wide 6 Tryz.f6 rfl rfl rfl rfl rfl rfl rfl ⟨rfl, rfl, rfl, rfl, rfl⟩ rfl rfl rfl rfl rfl (by kernel_rfl) Tryz.func6 (by kernel_rfl)
    (of_decide_eq_true (by kernel_rfl)) (by unfold Func.isWrapper; first | (rw [if_pos (by decide +kernel)]; kernel_rfl) | (rw [if_neg (by decide +kernel)]; exact ⟨rfl, rfl⟩))
    (fun os started H enc _ => bookRoom_lifted os started H enc)

theorem bookRoom_holds : Rows.BookRoomSaid := bookRoom_over
#print axioms bookRoom_holds
end Go.Proofs.YtpicnoinnngpeaaGreat
