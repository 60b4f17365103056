/- The walks over droverref01.Find, Good and Write: the document's own. -/
import Derived.Test.YtjfcakpglbpeaaaFind
import Derived.Test.YtjfcakpglbpeaaaRefNum
namespace Go.Proofs.Ytjfcakpglbpeaaa
open Go.RowKit

set_option maxHeartbeats 1000000 in
set_option maxRecDepth 100000 in
theorem reffind_any (A : Option Addr) (n c : Nat) (fs : List Fd) (m : Int) (w : World) (hf : FHolds w w.heap.size A n fs) (hn : n ≤ 1099511627000) :
    Calls Try.prog 22 #[.slice A n c, .int .i64 m] w (FindIs w (pfind (fs.map Fd.pf) m)) := by
  have HF := hide hf
  have H0 := hide (findAt_start hf.1 m)
  clear hf
  go_enter Try.func22, Try.ntmps22
  go_wp2
  go_loop [6] (fun i => ∃ k : Nat, k ≤ n ∧ i = .int .i64 ((k : Int) - 1) ∧ FindAt fs m k) (fun i => ((intOf i) + 1).toNat)
  case atStart => exact ⟨n, by omega, by rfl, H0.out⟩
  case round =>
    obtain ⟨k, hk, rfl, hat⟩ := hrel
    have Hat := hide hat
    clear hat H0
    by_cases hlt : 0 < k
    · obtain ⟨j, rfl⟩ : ∃ j, k = j + 1 := ⟨k - 1, by omega⟩
      have ej : ((j + 1 : Nat) : Int) - 1 = (j : Int) := by omega
      rw [ej]
      obtain ⟨f, b, off, hfk, hok, rfl, hbB, q0, q1, q2, q3, htk⟩ := HF.out.at_ (k := j) (by omega)
      obtain ⟨num, text, v, a, fn, fc, fb⟩ := f
      simp only at q0 q1 q2 q3
      have Htk := hide htk
      have Hok := hide hok
      have hbne : b ≠ w.heap.size := by omega
      clear htk hfk hok ej
      by_cases hm : num = m
      · have hm2 : (num == m) = true := by simpa using hm
        have Hm := hide (Hat.out.hit Htk.out hm)
        clear hm
        go_wp2
        refine bodyPost_ret (v := .tuple #[.agg #[.int .i64 num, .bool text, .int .u64 v, .slice a fn fc], .bool true]) (by simp [results, Try.results22, go_sem]) rfl ⟨⟨num, text, v, a, fn, fc, fb⟩, by rw [Hm.out], by rw [Hm.out], Hok.out.later ?_, ?_⟩
        all_goals (show Below _ _ _; go_grown)
      · have hm2 : (num == m) = false := by simpa using hm
        have Hm := hide (Hat.out.miss Htk.out hm)
        clear hm
        go_wp2
        go_round
        case rel => exact ⟨j, by omega, by first | rfl | go_num, Hm.out⟩
        case measure => simp [intOf]
    · obtain rfl : k = 0 := by omega
      have Hn := hide Hat.out.none
      go_wp2
      refine bodyPost_ret (v := .tuple #[.agg #[.int .i64 0, .bool false, .int .u64 0, .slice none 0 0], .bool false]) (by simp [results, Try.results22, go_sem]) rfl ⟨fz, by rw [Hn.out]; rfl, by rw [Hn.out]; rfl, fz_ok _ _, ?_⟩
      show Below _ _ _
      go_grown

set_option maxHeartbeats 400000 in
theorem refgood_any (f : Fd) (w : World) :
    Calls Try.prog 20 #[.agg #[.int .i64 f.num, .bool f.text, .int .u64 f.v, .slice f.a f.n f.c]] w fun e w' => e = .returned (.bool f.good) ∧ Below w.heap.size w w' := by
  obtain ⟨num, text, v, a, n, c, b⟩ := f
  go_enter Try.func20, Try.ntmps20
  go_wp2
  · go_ret
    exact ⟨ret_bool (Fd.good_not (by simp only; omega)), (Below.refl _ _).alloc (Nat.le_refl _) _⟩
  · go_ret
    exact ⟨ret_bool (Fd.good_text (f := ⟨num, text, v, a, n, c, b⟩) (by simp only; omega) (by simp only; omega) (by assumption)), (Below.refl _ _).alloc (Nat.le_refl _) _⟩
  · go_ret
    exact ⟨ret_bool (Fd.good_num (f := ⟨num, text, v, a, n, c, b⟩) (by simp only; omega) (by simp only; omega) (by assumption)), (Below.refl _ _).alloc (Nat.le_refl _) _⟩
  · go_ret
    exact ⟨ret_bool (Fd.good_not (by simp only; omega)), (Below.refl _ _).alloc (Nat.le_refl _) _⟩
theorem refgood_is (f : Fd) (b : Bool) (h : f.good = b) (w : World) :
    Calls Try.prog 20 #[.agg #[.int .i64 f.num, .bool f.text, .int .u64 f.v, .slice f.a f.n f.c]] w fun e w' => e = .returned (.bool b) ∧ Later w w' :=
  (refgood_any f w).mono fun _ _ ⟨he, hb⟩ => ⟨by rw [he, h], hb⟩

/-- The number of bytes is 'V' of whatever list 'L' is told: Uint, its lists under names. -/
theorem refuint_is (A : Option Addr) (n c : Nat) (V : Int) (l L : List Nat) (w : World) (h0 : 0 ≤ V) (hV : V < 18446744073709551616) (hn : n ≤ 1099511627000) (hl : Holds w w.heap.size A n l) (h : l ++ enc V.toNat = L) :
    Calls Try.prog 13 #[.slice A n c, .int .u64 V] w (NewBytes w L) := by
  obtain ⟨k, rfl⟩ := Int.eq_ofNat_of_zero_le h0
  subst h
  exact refuint_any A n c k l w.heap.size w (by omega) hn hl (Nat.le_refl _)

theorem bytes_room {fs : List Fd} {k : Nat} {R : Nat} (h : ∀ f ∈ fs, f.b.length = f.n) (hR : room fs ≤ R) : (recOf (fs.take k)).length ≤ R := by
  have h1 := recOf_len (fs.take k) fun g hg => h g (List.mem_of_mem_take hg)
  have h2 := room_take fs k
  omega

set_option maxHeartbeats 2000000 in
set_option maxRecDepth 100000 in
theorem refwrite_any (A : Option Addr) (n c : Nat) (fs : List Fd) (w : World) (hf : FHolds w w.heap.size A n fs) (hroom : room fs ≤ 10000000) (hn : n ≤ 10000000) :
    Calls Try.prog 25 #[.slice A n c] w (NewBytes w (recOf fs)) := by
  obtain ⟨i0, hi, hz0, hz1, hz2⟩ := info_parts Try.infoU8
  have HF := hide hf
  clear hf
  go_enter Try.func25, Try.ntmps25
  go_wp2
  go_loopw [3, 8] (fun s i wr => ∃ k : Nat, k ≤ n ∧ i = .int .i64 k ∧ (∃ m1, wr.ownsRow w.heap.size 5 1 s m1 (bvs (recOf (fs.take k)))) ∧ Below w.heap.size w wr) (fun _ i _ => n - (intOf i).toNat)
  case atStart => exact ⟨0, by omega, rfl, ⟨0, by simpa [recOf, bvs] using World.ownsRow_nil _ _ _ _⟩, Below.refl _ _⟩
  case round =>
    obtain ⟨k, hk, rfl, ⟨m1, hown⟩, hbel⟩ := hrel
    have hsz := hbel.size
    have hsm := HF.out.small
    have Hs : Hid (∀ x ∈ recOf (fs.take k), x < 256) := by
      intro x hx
      refine hsm x ?_
      have e : fs = fs.take k ++ fs.drop k := (List.take_append_drop k fs).symm
      rw [e, recOf, List.map_append, List.flatten_append]
      exact List.mem_append_left _ hx
    have hm1 : m1 ≤ 10000000 := by
      have h1 := bytes_room (k := k) HF.out.lens hroom
      have h2 := hown.1
      rw [bvs_len] at h2
      omega
    obtain ⟨A1, c1, rfl, _, _, hh⟩ := Holds.of_own hown Hs.out
    have Hh := hide hh
    have Hown := hide hown
    clear hown hsm hh
    by_cases hlt : k < n
    · obtain ⟨f, b, off, hfk, hok, rfl, hbB, q0, q1, q2, q3, htk⟩ := (HF.out.below hbel).at_ hlt
      obtain ⟨num, text, v, a, fn, fc, fb⟩ := f
      simp only at q0 q1 q2 q3
      have hfn : fn ≤ 10000000 ∧ m1 + 20 + fn ≤ 20000000 := by
        have h2 := room_take fs (k + 1)
        rw [htk, room_snoc] at h2
        simp only at h2
        omega
      have hf1 := hfn.1
      have Hrs : Hid (recOf (fs.take (k + 1)) = recOf (fs.take k) ++ Fd.bytes ⟨num, text, v, a, fn, fc, fb⟩) := by
        show _ = _
        rw [htk, recOf_snoc]
      have Hok := hide hok
      clear htk hfk hok hfn
      by_cases hgood : Fd.good ⟨num, text, v, a, fn, fc, fb⟩ = true
      · obtain ⟨hn1, hn2⟩ := Fd.good_range hgood
        simp only at hn1 hn2
        have Hg := hide hgood
        have HB := hide (show Holds wr w.heap.size a fn fb from Hok.out.2.2.2)
        have Hv : Hid (v < 18446744073709551616) := Hok.out.2.1
        have b1 := enc_len (num * 2 + 1).toNat
        have b2 := enc_len ((fn : Int)).toNat
        have b3 := enc_len (num * 2).toNat
        have B0 := hide (Box.new wr 37 (.int .i64 num) (.bool text) (.int .u64 v) (.slice a fn fc))
        clear hgood
        cases text with
        | true =>
          go_wp2_with (fail)
          refine (refgood_is ⟨num, true, v, a, fn, fc, fb⟩ true Hg.out _).mono ?_
          rintro e w1 ⟨rfl, hb1⟩
          have L1 := hide ((Later.alloc wr _).trans hb1)
          have B1 := hide (B0.out.below hb1 (by simp))
          obtain ⟨d0, d1, d2, d3⟩ := B1.out.cell
          have s1 := hb1.size
          simp at s1
          clear hb1
          go_wp2_with (fail)
          refine (refuint_is A1 m1 c1 (num * 2 + 1) _ _ _ (by omega) (by omega) (by omega) (Hh.out.later L1.out) rfl).mono ?_
          rintro e w2 ⟨A2, m2, c2, rfl, o2, h2, _, k2⟩
          have L2 := hide (L1.out.trans k2)
          have B2 := hide (B1.out.below k2 (by omega))
          obtain ⟨e0, e1, e2, e3⟩ := B2.out.cell
          have H2 := hide h2
          have hm2 := h2.1
          have hlr := Hh.out.1
          simp only [List.length_append] at hm2
          have s2 := k2.size
          clear d0 d1 d2 d3 o2 h2 k2
          go_wp2_with (fail)
          refine (refuint_is A2 m2 c2 (fn : Int) _ _ _ (by omega) (by omega) (by omega) H2.out rfl).mono ?_
          rintro e w3 ⟨A3, m3, c3, rfl, o3, h3, _, k3⟩
          have L3 := hide (L2.out.trans k3)
          have B3 := hide (B2.out.below k3 (by omega))
          obtain ⟨f0, f1, f2, f3⟩ := B3.out.cell
          have O3 := hide o3
          have hm3 := h3.1
          simp only [List.length_append] at hm3
          have s3 := k3.size
          clear e0 e1 e2 e3 o3 h3 k3
          go_wp2_with (at_builtin; refine wpList_append_bytes _ rfl (.tmp 42) (.tmp 44) 22 rfl w2.heap.size 5 i0 (.int .u8 0) Try.underlying22 hi hz0 hz1 hz2 rfl _ m3 _ rfl O3.out w.heap.size a fn fc fb rfl (HB.out.below (L3.out.below hsz)) (by omega) (by omega) ?_; intro v4 w4 o4 g4)
          have O4 := hide o4
          have G4 := hide g4
          clear o4 g4
          go_roundw
          case rel =>
            refine ⟨k + 1, by omega, by go_num, ⟨m3 + fn, ?_⟩, (hbel.trans (L3.out.below hsz)).trans ((G4.out.below O3.out (by omega)).mono (by omega))⟩
            rw [Hrs.out, bytes_text Hg.out rfl, show 2 * num.toNat + 1 = (num * 2 + 1).toNat from by omega]
            have := own_base O4.out (base' := w.heap.size) (by omega)
            rw [← bvs_append] at this
            simpa [List.append_assoc] using this
          case measure => simp [intOf]; omega
        | false =>
          go_wp2_with (fail)
          refine (refgood_is ⟨num, false, v, a, fn, fc, fb⟩ true Hg.out _).mono ?_
          rintro e w1 ⟨rfl, hb1⟩
          have L1 := hide ((Later.alloc wr _).trans hb1)
          have B1 := hide (B0.out.below hb1 (by simp))
          obtain ⟨d0, d1, d2, d3⟩ := B1.out.cell
          have s1 := hb1.size
          simp at s1
          clear hb1
          go_wp2_with (fail)
          refine (refuint_is A1 m1 c1 (num * 2) _ _ _ (by omega) (by omega) (by omega) (Hh.out.later L1.out) rfl).mono ?_
          rintro e w2 ⟨A2, m2, c2, rfl, o2, h2, _, k2⟩
          have L2 := hide (L1.out.trans k2)
          have B2 := hide (B1.out.below k2 (by omega))
          obtain ⟨e0, e1, e2, e3⟩ := B2.out.cell
          have H2 := hide h2
          have hm2 := h2.1
          have hlr := Hh.out.1
          simp only [List.length_append] at hm2
          have s2 := k2.size
          clear d0 d1 d2 d3 o2 h2 k2
          go_wp2_with (fail)
          refine (refuint_is A2 m2 c2 (v : Int) _ _ _ (by omega) (by have := Hv.out; omega) (by omega) H2.out rfl).mono ?_
          rintro e w3 ⟨A3, m3, c3, rfl, o3, h3, _, k3⟩
          have L3 := hide (L2.out.trans k3)
          have O3 := hide o3
          clear e0 e1 e2 e3 o3 h3 k3
          go_wp2
          go_roundw
          case rel =>
            refine ⟨k + 1, by omega, by go_num, ⟨m3, ?_⟩, hbel.trans (L3.out.below hsz)⟩
            rw [Hrs.out, bytes_num Hg.out rfl, show 2 * num.toNat = (num * 2).toNat from by omega]
            simpa using own_base O3.out (base' := w.heap.size) (by omega)
          case measure => simp [intOf]; omega
      · have Hg := hide (show Fd.good ⟨num, text, v, a, fn, fc, fb⟩ = false by simpa using hgood)
        clear hgood
        go_wp2_with (fail)
        refine (refgood_is ⟨num, text, v, a, fn, fc, fb⟩ false Hg.out _).mono ?_
        rintro e w1 ⟨rfl, hb1⟩
        have o1 := hide (own_below (Hown.out.alloc (.cells #[.int .i64 num, .bool text, .int .u64 v, .slice a fn fc] 37)) hb1)
        have L1 := hide ((Later.alloc wr _).trans hb1)
        clear hb1
        go_wp2
        go_roundw
        case rel =>
          refine ⟨k + 1, by omega, by go_num, ⟨m1, ?_⟩, hbel.trans (L1.out.below hsz)⟩
          rw [Hrs.out, bytes_not Hg.out]
          simpa using o1.out
        case measure => simp [intOf]; omega
    · have Hk : Hid (fs.take k = fs) := by
        show _ = _
        exact List.take_of_length_le (by have := HF.out.1; omega)
      go_wp2
      go_ret
      have := Hown.out
      rw [Hk.out] at this
      exact newBytes_of this HF.out.small hbel
end Go.Proofs.Ytjfcakpglbpeaaa
