/- The walks over field.record and field.Write: the bytes of the good fields, one behind the other. -/
import Derived.Test.YtjfcakpglbpeaaaGood
import Derived.Test.YtjfcakpglbpeaaaPut
namespace Go.Proofs.Ytjfcakpglbpeaaa
open Go.RowKit

set_option maxHeartbeats 1000000 in
set_option maxRecDepth 100000 in
theorem record_any (A : Option Addr) (n c : Nat) (fs : List Fd) (w : World) (hf : FHolds w w.heap.size A n fs) (hroom : room fs ≤ 1099511627000) (hn : n ≤ 1099511627000) :
    Calls Try.prog 31 #[.slice A n c] w fun e w' => ∃ v m, e = .returned v ∧ w'.ownsRow w.heap.size 5 1 v m (bvs (recOf fs)) ∧ Below w.heap.size w w' := by
  obtain ⟨i0, hi, hz0, hz1, hz2⟩ := info_parts Try.infoU8
  have HF := hide hf
  clear hf
  go_enter Try.func31, Try.ntmps31
  go_wp2
  go_loopw [3, 9] (fun s i wr => ∃ k m : Nat, k ≤ n ∧ i = .int .i64 k ∧ wr.ownsRow w.heap.size 5 1 s m (bvs (recOf (fs.take k))) ∧ Below w.heap.size w wr) (fun _ i _ => n - (intOf i).toNat)
  case atStart => exact ⟨0, 0, by omega, rfl, by simpa [recOf, bvs] using World.ownsRow_nil _ _ _ _, Below.refl _ _⟩
  case round =>
    obtain ⟨k, m, hk, rfl, hown, hbel⟩ := hrel
    by_cases hlt : k < n
    · obtain ⟨f, b, off, hfk, hok, rfl, hbB, c0, c1, c2, c3, htk⟩ := (HF.out.below hbel).at_ hlt
      obtain ⟨num, text, v, a, fn, fc, fb⟩ := f
      simp only at c0 c1 c2 c3
      have Htk := hide htk
      clear hfk htk
      have hsz := hbel.size
      have hrec := HF.out.lens
      have Hm : Hid (m ≤ 1099511627000) := by
        have h1 := recOf_len (fs.take k) fun g hg => hrec g (List.mem_of_mem_take hg)
        have h2 := room_take fs k
        have h3 := hown.1
        rw [bvs_len] at h3
        show m ≤ _
        omega
      have hfn : fn ≤ 1099511627000 ∧ m + 20 + fn ≤ 1099511627000 := by
        have h1 := recOf_len (fs.take k) fun g hg => hrec g (List.mem_of_mem_take hg)
        have h2 := room_take fs (k + 1)
        rw [Htk.out, room_snoc] at h2
        have h3 := hown.1
        rw [bvs_len] at h3
        simp only at h2
        omega
      have hf1 := hfn.1
      have hf2 := hfn.2
      have Hrs : Hid (recOf (fs.take (k + 1)) = recOf (fs.take k) ++ Fd.bytes ⟨num, text, v, a, fn, fc, fb⟩) := by
        show _ = _
        rw [Htk.out, recOf_snoc]
      clear hrec hfn
      by_cases hgood : Fd.good ⟨num, text, v, a, fn, fc, fb⟩ = true
      · obtain ⟨hn1, hn2⟩ := Fd.good_range hgood
        simp only at hn1 hn2
        have Hg := hide hgood
        have hv64 := hide hok.2.1
        have hB := hok.2.2.2
        have HB := hide (show Holds wr w.heap.size a fn fb from hB)
        clear hgood hok hB
        have hkey := u64_odd_int num (by omega) (by omega)
        have b1 := enc_len (num * 2 + 1).toNat
        have b2 := enc_len ((fn : Int)).toNat
        have b3 := enc_len (num * 2).toNat
        cases text with
        | true =>
          go_wp2_with (fail)
          refine (good_is ⟨num, true, v, a, fn, fc, fb⟩ true Hg.out _).mono ?_
          rintro e w1 ⟨rfl, hb1⟩
          have B1 := hide ((Box.new wr 34 (.int .i64 num) (.bool true) (.int .u64 v) (.slice a fn fc)).below hb1 (by simp))
          obtain ⟨d0, d1, d2, d3⟩ := B1.out.cell
          have o1 := own_below (hown.alloc _) hb1
          have s1 := hb1.size
          simp at s1
          go_wp2_with (fail)
          refine (put_int w.heap.size m (num * 2 + 1) _ (recOf (fs.take k)) _ (by omega) (by omega) (by omega) (by omega) o1).mono ?_
          rintro e w2 ⟨v2, rfl, o2, g2⟩
          have B2 := hide (B1.out.went g2 o1 (by decide))
          obtain ⟨e0, e1, e2, e3⟩ := B2.out.cell
          clear d0 d1 d2 d3
          have s2 := g2.size
          go_wp2_with (fail)
          refine (put_int w.heap.size (m + (enc (num * 2 + 1).toNat).length) (fn : Int) _ _ _ (by omega) (by omega) (by omega) (by omega) o2).mono ?_
          rintro e w3 ⟨v3, rfl, o3, g3⟩
          have B3 := hide (B2.out.went g3 o2 (by decide))
          obtain ⟨f0, f1, f2, f3⟩ := B3.out.cell
          clear e0 e1 e2 e3
          have s3 := g3.size
          have l3 : Below w.heap.size wr w3 := (((Below.refl _ _).alloc hsz _).trans (hb1.mono (by simp; omega))).trans ((g2.below o1 (by omega)).trans (g3.below o2 (by omega)))
          go_wp2_with (at_builtin; refine wpList_append_bytes _ rfl (.tmp 32) (.tmp 34) 22 rfl w.heap.size 5 i0 (.int .u8 0) Try.underlying22 hi hz0 hz1 hz2 rfl v3 (m + (enc (num * 2 + 1).toNat).length + (enc ((fn : Int)).toNat).length) _ rfl o3 w.heap.size a fn fc fb rfl (HB.out.below l3) (by omega) (by omega) ?_; intro v4 w4 o4 g4)
          go_roundw
          case rel =>
            refine ⟨k + 1, m + (enc (num * 2 + 1).toNat).length + (enc ((fn : Int)).toNat).length + fn, by omega, by go_num, ?_, (hbel.trans l3).trans (g4.below o3 (by omega))⟩
            rw [Hrs.out, bytes_text Hg.out rfl]
            rw [← bvs_append] at o4
            rw [show 2 * num.toNat + 1 = (num * 2 + 1).toNat from by omega]
            simpa using o4
          case measure => simp [intOf]; omega
        | false =>
          go_wp2_with (fail)
          refine (good_is ⟨num, false, v, a, fn, fc, fb⟩ true Hg.out _).mono ?_
          rintro e w1 ⟨rfl, hb1⟩
          have B1 := hide ((Box.new wr 34 (.int .i64 num) (.bool false) (.int .u64 v) (.slice a fn fc)).below hb1 (by simp))
          obtain ⟨d0, d1, d2, d3⟩ := B1.out.cell
          have o1 := own_below (hown.alloc _) hb1
          have s1 := hb1.size
          simp at s1
          go_wp2_with (fail)
          refine (put_int w.heap.size m (num * 2) _ (recOf (fs.take k)) _ (by omega) (by omega) (by omega) (by omega) o1).mono ?_
          rintro e w2 ⟨v2, rfl, o2, g2⟩
          have B2 := hide (B1.out.went g2 o1 (by decide))
          obtain ⟨e0, e1, e2, e3⟩ := B2.out.cell
          clear d0 d1 d2 d3
          have s2 := g2.size
          go_wp2_with (fail)
          refine (put_any w.heap.size (m + (enc (num * 2).toNat).length) v _ _ _ hv64.out (by omega) (by omega) o2).mono ?_
          rintro e w3 ⟨v3, rfl, o3, g3⟩
          have l3 : Below w.heap.size wr w3 := (((Below.refl _ _).alloc hsz _).trans (hb1.mono (by simp; omega))).trans ((g2.below o1 (by omega)).trans (g3.below o2 (by omega)))
          go_wp2
          go_roundw
          case rel =>
            refine ⟨k + 1, m + (enc (num * 2).toNat).length + (enc v).length, by omega, by go_num, ?_, hbel.trans l3⟩
            rw [Hrs.out, bytes_num Hg.out rfl]
            rw [show 2 * num.toNat = (num * 2).toNat from by omega]
            simpa using o3
          case measure => simp [intOf]; omega
      · have Hg := hide (show Fd.good ⟨num, text, v, a, fn, fc, fb⟩ = false by simpa using hgood)
        clear hgood
        go_wp2_with (fail)
        refine (good_is ⟨num, text, v, a, fn, fc, fb⟩ false Hg.out _).mono ?_
        rintro e w1 ⟨rfl, hb1⟩
        have o1 := own_below (hown.alloc _) hb1
        have l1 : Below w.heap.size wr w1 := ((Below.refl _ _).alloc hsz _).trans (hb1.mono (by simp; omega))
        go_wp2
        go_roundw
        case rel =>
          refine ⟨k + 1, m, by omega, by go_num, ?_, hbel.trans l1⟩
          rw [Hrs.out, bytes_not Hg.out]
          simpa using o1
        case measure => simp [intOf]; omega
    · have Hk : Hid (fs.take k = fs) := by
        show _ = _
        exact List.take_of_length_le (by have := HF.out.1; omega)
      go_wp2
      go_ret
      rw [Hk.out] at hown
      exact ⟨_, m, rfl, hown, hbel⟩

theorem write_any (A : Option Addr) (n c : Nat) (fs : List Fd) (w : World) (hf : FHolds w w.heap.size A n fs) (hroom : room fs ≤ 1099511627000) (hn : n ≤ 1099511627000) :
    Calls Try.prog 24 #[.slice A n c] w fun e w' => ∃ v m, e = .returned v ∧ w'.ownsRow w.heap.size 5 1 v m (bvs (recOf fs)) ∧ Below w.heap.size w w' := by
  have HF := hide hf
  clear hf
  go_enter Try.func24, Try.ntmps24
  go_wp2_with (go_at_call 31; refine (record_any A n c fs _ HF.out hroom hn).mono ?_; rintro e w1 ⟨v1, m, rfl, o1, b1⟩)
  go_ret
  exact ⟨v1, m, rfl, o1, b1⟩
theorem write_new (A : Option Addr) (n c : Nat) (fs : List Fd) (w : World) (hf : FHolds w w.heap.size A n fs) (hroom : room fs ≤ 1099511627000) (hn : n ≤ 1099511627000) :
    Calls Try.prog 24 #[.slice A n c] w (NewBytes w (recOf fs)) :=
  (write_any A n c fs w hf hroom hn).mono fun e w' ⟨v, m, he, ho, hb⟩ => by
    subst he
    exact newBytes_of ho hf.small hb
end Go.Proofs.Ytjfcakpglbpeaaa
