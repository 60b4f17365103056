/- The walk over droverlaw01.FieldBack: good fields come back; bytes that are read are written again. -/
import Derived.Test.YtjfcakpglbpeaaaApart
namespace Go.Proofs.Ytjfcakpglbpeaaa
open Go.RowKit

theorem read_is (A : Option Addr) (n c : Nat) (l : List Nat) (er : Nat) (ps : List PF) (w : World) (hl : Holds w w.heap.size A n l) (hn : n ≤ 1099511627000) (hc : n ≤ c) (h : pread l = (er, ps)) :
    Calls Try.prog 27 #[.slice A n c] w fun e w' => ∃ A1 n1 c1 fs, e = .returned (.tuple #[.slice A1 n1 c1, .int .i64 (er : Nat)]) ∧ fs.map Fd.pf = ps ∧ FHolds w' w'.heap.size A1 n1 fs ∧ n1 ≤ c1 ∧ Later w w' :=
  (read_any A n c l w hl hn hc).mono fun e w' ⟨A1, n1, c1, fs, h1, h2, h3, h4, h5⟩ => ⟨A1, n1, c1, fs, by rw [h1, h], by rw [h2, h], h3, h4, h5⟩

theorem pread_err {l : List Nat} (h : (pread l).1 ≠ 0) : (pread l).2 = [] := by
  have := readOn_start l
  unfold readOn at this
  rw [if_pos h] at this
  rw [this]
theorem pbytes_ge {p : PF} (h : pgood p = true) : 2 + (if p.2.1 then p.2.2.2.length else 0) ≤ (pbytes p).length := by
  unfold pbytes
  rw [if_pos h]
  have h1 := enc_len (2 * p.1.toNat + 1)
  have h2 := enc_len p.2.2.2.length
  have h3 := enc_len (2 * p.1.toNat)
  have h4 := enc_len p.2.2.1
  split <;> simp <;> omega
/-- Fields that were read take no more room than their bytes. -/
theorem prec_room : ∀ (fs : List Fd), (∀ f ∈ fs, f.b.length = f.n) → (∀ f ∈ fs, pgood f.pf = true) → room fs ≤ 10 * (prec (fs.map Fd.pf)).length ∧ fs.length ≤ (prec (fs.map Fd.pf)).length
  | [], _, _ => by simp [room, prec]
  | f :: r, h, hg => by
    have ih := prec_room r (fun g hm => h g (by simp [hm])) fun g hm => hg g (by simp [hm])
    have h1 := pbytes_ge (hg f (by simp))
    have h2 := h f (by simp)
    have h3 := (pgood_iff _).1 (hg f (by simp))
    have h4 : f.n ≤ (if f.pf.2.1 then f.pf.2.2.2.length else 0) := by
      have e3 := h3.2.2
      have h2' : f.pf.2.2.2.length = f.n := h2
      by_cases hn : f.pf.2.1 = true
      · rw [if_pos hn]
        omega
      · rw [if_neg hn] at e3
        rw [e3] at h2'
        simp at h2'
        omega
    simp only [room, prec, List.map_cons, List.flatten_cons, List.length_append, List.sum_cons, List.length_cons] at *
    omega

theorem filter_pf : ∀ (fs : List Fd), (∀ f ∈ fs, f.b.length = f.n) → (fs.filter Fd.good).map Fd.pf = (fs.map Fd.pf).filter pgood
  | [], _ => rfl
  | f :: r, h => by
    have ih := filter_pf r fun g hg => h g (by simp [hg])
    have e := good_pf f (h f (by simp))
    by_cases hg : f.good = true
    · simp [hg, ← e, ih]
    · simp [hg, ← e, ih]
theorem filter_yes {fs : List Fd} {k : Nat} {f : Fd} (ht : fs.take (k + 1) = fs.take k ++ [f]) (h : f.good = true) : (fs.take (k + 1)).filter Fd.good = (fs.take k).filter Fd.good ++ [f] := by
  rw [ht, List.filter_append]
  simp [h]
theorem filter_no {fs : List Fd} {k : Nat} {f : Fd} (ht : fs.take (k + 1) = fs.take k ++ [f]) (h : f.good = false) : (fs.take (k + 1)).filter Fd.good = (fs.take k).filter Fd.good := by
  rw [ht, List.filter_append]
  simp [h]
theorem same_true {fs gs : List Fd} {ps : List PF} (h1 : fs.map Fd.pf = ps) (h2 : gs.map Fd.pf = ps) : sameB fs gs = true := by
  unfold sameB
  simp [h1, h2]
theorem map_nil {fs : List Fd} {n : Nat} (h : fs.map Fd.pf = []) (hl : fs.length = n) : n = 0 := by
  cases fs with
  | nil => simpa using hl.symm
  | cons f r => simp at h

set_option maxHeartbeats 4000000 in
set_option maxRecDepth 100000 in
theorem back_any (A : Option Addr) (n c : Nat) (fs : List Fd) (A2 : Option Addr) (n2 c2 : Nat) (l : List Nat) (w : World) (hf : FHolds w w.heap.size A n fs) (hn : n ≤ maxLen) (hfc : ∀ f ∈ fs, f.n ≤ maxLen)
    (hl : Holds w w.heap.size A2 n2 l) (hn2 : n2 ≤ maxLen) (hc2 : n2 ≤ c2) :
    Calls Try.prog 5 #[.slice A n c, .slice A2 n2 c2] w fun e w' => e = .returned (.bool true) ∧ Below w.heap.size w w' := by
  obtain ⟨i0, hi, hz0, hz1, hz2⟩ := info_parts Try.infoFd
  unfold maxLen at hn2
  have HF := hide hf
  have HL := hide hl
  have HFC := hide hfc
  have HN := hide hn
  clear hf hl hfc hn
  by_cases h1 : lightB n fs = true
  · have H1 := hide h1
    have hr1 := light_room HF.out.1 h1
    have hs1 := (lightB_spec h1).1
    clear h1
    by_cases h2 : 5000 < n2
    · go_enter Try.func5, Try.ntmps5
      go_wp2_with (fail)
      refine (light_is A n c fs true _ HF.out HN.out HFC.out H1.out).mono ?_
      rintro e v1 ⟨rfl, l1⟩
      have L1 := hide l1
      clear l1
      go_wp2_with (go_at_call 9; refine (lives_is _).mono ?_; rintro e w2 ⟨rfl, b2⟩)
      go_ret
      exact ⟨rfl, L1.out.trans b2⟩
    · have hn3 : n2 ≤ 5000 := by omega
      clear h2
      go_enter Try.func5, Try.ntmps5
      go_wp2_with (fail)
      refine (light_is A n c fs true _ HF.out HN.out HFC.out H1.out).mono ?_
      rintro e v1 ⟨rfl, l1⟩
      have L1 := hide l1
      clear l1
      go_wp2_with (fail)
      have R0 := hide (World.ownsRow_lit4 v1 34)
      go_loopw [5, 24] (fun v i wr => ∃ k m : Nat, k ≤ n ∧ m ≤ k ∧ i = .int .i64 k ∧ wr.ownsRow v1.heap.size 34 4 v m (fcells ((fs.take k).filter Fd.good)) ∧ Later v1 wr) (fun _ i _ => n - (intOf i).toNat)
      case atStart => exact ⟨0, 0, by omega, by omega, rfl, by simpa using R0.out, Later.alloc _ _⟩
      case round =>
        obtain ⟨k, m, hk, hm, rfl, hown, hlat⟩ := hrel
        have Hown := hide hown
        have Hlat := hide hlat
        have hsz := hlat.size
        clear hown hlat
        by_cases hlt : k < n
        · obtain ⟨f, b, off, hfk, hok, rfl, hbB, q0, q1, q2, q3, htk⟩ := (HF.out.later (L1.out.trans Hlat.out)).at_ hlt
          obtain ⟨num, text, v, a, fn, fc, fb⟩ := f
          simp only at q0 q1 q2 q3
          have Htk := hide htk
          clear htk hfk hok
          by_cases hgood : Fd.good ⟨num, text, v, a, fn, fc, fb⟩ = true
          · have Hg := hide hgood
            clear hgood
            have B1 := hide (Box.new wr 34 (.int .i64 num) (.bool text) (.int .u64 v) (.slice a fn fc))
            go_wp2_with (fail)
            refine (good_later ⟨num, text, v, a, fn, fc, fb⟩ true Hg.out _).mono ?_
            rintro e w1 ⟨rfl, hb1⟩
            have Hb1 := hide hb1
            have O1 := hide (own_below_any (Hown.out.alloc (.cells #[.int .i64 num, .bool text, .int .u64 v, .slice a fn fc] 34)) hb1)
            have s1 := hb1.size
            simp at s1
            obtain ⟨d0, d1, d2, d3⟩ := (B1.out.below hb1 (by simp)).cell
            clear hb1
            go_wp2_with (at_builtin; refine wpList_append_own_at _ rfl (.tmp 30) (.tmp 32) 31 rfl v1.heap.size 34 i0 _ 4 48 Try.underlying31 hi hz0 hz1 hz2 rfl (by omega) _ m (fcells ((fs.take k).filter Fd.good)) rfl (O1.out.alloc _) ⟨w1.heap.size, 0, none⟩ 1 1 [.int .i64 num, .bool text, .int .u64 v, .slice a fn fc] rfl rfl (cells_new w1 [.int .i64 num, .bool text, .int .u64 v, .slice a fn fc] 34) (by intro u hu; simp at hu; rcases hu with rfl | rfl | rfl | rfl <;> rfl) (by simp only [maxLen]; omega) (by omega) (by simp; omega) ?_; intro x2 w2 o2 g2 _ _)
            have O2 := hide o2
            have G2 := hide g2
            clear o2 g2
            go_roundw
            case rel =>
              refine ⟨k + 1, m + 1, by omega, by omega, by go_num, ?_, (show Below v1.heap.size v1 wr from Hlat.out).trans (((Later.alloc _ _).trans Hb1.out).below hsz |>.trans (((Below.refl _ _).alloc (by omega) _).trans (later_grown (O1.out.alloc _) (by simp; omega) G2.out)))⟩
              rw [filter_yes Htk.out Hg.out, fcells_snoc]
              exact O2.out
            case measure => simp [intOf]; omega
          · have Hg := hide (show Fd.good ⟨num, text, v, a, fn, fc, fb⟩ = false by simpa using hgood)
            clear hgood
            go_wp2_with (fail)
            refine (good_later ⟨num, text, v, a, fn, fc, fb⟩ false Hg.out _).mono ?_
            rintro e w1 ⟨rfl, hb1⟩
            have Hb1 := hide hb1
            have O1 := hide (own_below_any (Hown.out.alloc (.cells #[.int .i64 num, .bool text, .int .u64 v, .slice a fn fc] 34)) hb1)
            clear hb1
            go_wp2
            go_roundw
            case rel =>
              refine ⟨k + 1, m, by omega, by omega, by go_num, ?_, Hlat.out.trans ((Later.alloc _ _).trans Hb1.out)⟩
              rw [filter_no Htk.out Hg.out]
              exact O1.out
            case measure => simp [intOf]; omega
        · have hall : (fs.take k).filter Fd.good = fs.filter Fd.good := by rw [List.take_of_length_le (by rw [HF.out.1]; omega)]
          have L2 := hide (L1.out.trans Hlat.out)
          have ho := Hown.out
          rw [hall] at ho
          obtain ⟨A3, c3, hv3, hc3, h3⟩ := FHolds.of_own ho fun f hf => (HF.out.later L2.out).2.1 f (List.mem_filter.1 hf).1
          have H3 := hide h3
          have Hpf := hide (filter_pf fs HF.out.lens)
          have Hrd : Hid (pread (recOf fs) = (0, (fs.map Fd.pf).filter pgood)) := by
            show _ = _
            have := pread_prec [] (by simp) (fs.map Fd.pf) (HF.out.fits HFC.out).1 (HF.out.fits HFC.out).2
            rw [readOn_end, List.append_nil] at this
            rw [recOf_pf fs HF.out.lens, this]
          have hrl := recOf_len fs HF.out.lens
          clear hall ho h3 Hown
          subst hv3
          go_wp2_with (fail)
          refine (write_new A n c fs _ (HF.out.later L2.out) (by omega) (by omega)).mono ?_
          rintro e w1 ⟨A4, n4, c4, rfl, _, h4, hc4, b1⟩
          have H4 := hide h4
          have B1 := hide (show Later wr w1 from b1)
          have L3 := hide (L2.out.trans b1)
          have hn4 := h4.1
          clear h4 b1
          go_wp2_with (fail)
          refine (read_is A4 n4 c4 _ 0 _ _ H4.out (by omega) hc4 Hrd.out).mono ?_
          rintro e w2 ⟨A5, n5, c5, ms, rfl, hms, h5, hc5, b2⟩
          have H5 := hide h5
          have Hms := hide hms
          have B2 := hide (B1.out.trans b2)
          have L4 := hide (L3.out.trans b2)
          have hn5 : n5 ≤ 400 := by
            have e1 := h5.1
            have e2 := congrArg List.length hms
            rw [List.length_map] at e2
            have e3 := List.length_filter_le pgood (fs.map Fd.pf)
            rw [List.length_map] at e3
            have e4 := HF.out.1
            omega
          clear h5 hms b2 hn4
          go_wp2_with (fail)
          refine (plain_any A5 n5 c5 ms _ H5.out (by omega)).mono ?_
          rintro e w3 ⟨A6, c6, rfl, _, h6, b3⟩
          have H6 := hide h6
          have B3 := hide (show Later wr w3 from B2.out.trans b3)
          have L5 := hide (L4.out.trans b3)
          clear h6 b3
          go_wp2_with (fail)
          refine (plain_any A3 m c3 _ _ (H3.out.later B3.out) (by omega)).mono ?_
          rintro e w4 ⟨A7, c7, rfl, _, h7, b4⟩
          have H7 := hide h7
          have B4 := hide (show Later w3 w4 from b4)
          have L6 := hide (L5.out.trans b4)
          clear h7 b4
          go_wp2_with (fail)
          refine (same_is A6 A7 n5 c6 m c7 _ ms _ true _ (H6.out.later B4.out) H7.out (by omega) (by omega) (same_true Hms.out Hpf.out)).mono ?_
          rintro e w5 ⟨rfl, b5⟩
          have L7 := hide (L6.out.trans b5)
          clear b5
          obtain ⟨⟨er, ps⟩, hps⟩ : ∃ q, pread l = q := ⟨_, rfl⟩
          have HP := hide hps
          clear hps
          go_wp2_with (fail)
          refine (read_is A2 n2 c2 l er ps _ (HL.out.later L7.out) (by omega) hc2 HP.out).mono ?_
          rintro e w6 ⟨A8, n8, c8, ns, rfl, hns, h8, hc8, b6⟩
          have H8 := hide h8
          have Hns := hide hns
          have L8 := hide (L7.out.trans b6)
          clear h8 hns b6
          by_cases her : er = 0
          · subst her
            obtain ⟨r1, r2⟩ := pread_ok l.length l (Nat.le_refl _) HL.out.2.1 (by rw [HP.out])
            rw [HP.out] at r1 r2
            simp only at r1 r2
            have hrec : recOf ns = l := by rw [recOf_pf ns H8.out.lens, Hns.out, r1]
            have hgd : ∀ f ∈ ns, pgood f.pf = true := fun f hf => (r2 f.pf (by rw [← Hns.out]; exact List.mem_map_of_mem hf)).1
            have hroom := prec_room ns H8.out.lens hgd
            rw [Hns.out, r1, HL.out.1, H8.out.1] at hroom
            have hrm := hroom.1
            have hrn := hroom.2
            have Hrec := hide hrec
            obtain ⟨S1, hS1⟩ : ∃ s, str l = s := ⟨_, rfl⟩
            have HS1 := hide hS1
            have e1 : (S1.toList == S1.toList) = true := by simp
            have L0 := hide (L8.out.trans (Later.drew _))
            clear r1 r2 hrec hgd hroom hS1
            go_wp2
            refine wp_region_L (by kernel_rfl) ?_
            refine wpAnyL_take (i := 0) (d := some 56) (v := ?vap0) rfl rfl (by kernel_rfl) (by kernel_rfl) (by kernel_rfl) (fun _ _ _ h => h) (by rfl) ?yap0 ?_
            case yap0 => (intro w' hw'; go_simp; try (with_reducible rfl))
            simp only [Act.put, List.setIfInBounds_toArray, List.set_cons_zero, List.set_cons_succ]
            refine wpAnyL_take (i := 1) (d := some 57) (v := ?vap1) rfl rfl (by kernel_rfl) (by kernel_rfl) (by kernel_rfl) (fun _ _ _ h => h) (by rfl) ?yap1 ?_
            case yap1 => (intro w' hw'; go_simp; try (with_reducible rfl))
            simp only [Act.put, List.setIfInBounds_toArray, List.set_cons_zero, List.set_cons_succ]
            refine wpAnyL_take (i := 2) (d := some 58) (v := ?vap2) rfl rfl (by kernel_rfl) (by kernel_rfl) (by kernel_rfl) (fun _ _ _ h => h) (by rfl) ?yap2 ?_
            case yap2 => (intro w' hw'; go_simp; try (with_reducible rfl))
            simp only [Act.put, List.setIfInBounds_toArray, List.set_cons_zero, List.set_cons_succ]
            refine wpAnyL_pass (i := 3) (d := some 59) rfl rfl (by kernel_rfl) (by kernel_rfl) (by kernel_rfl) (fun _ _ _ h => h) (by rfl) ?_
            try simp only [Act.put, List.setIfInBounds_toArray, List.set_cons_zero, List.set_cons_succ]
            refine wpAnyL_pass (i := 4) (d := some 60) rfl rfl (by kernel_rfl) (by kernel_rfl) (by kernel_rfl) (fun _ _ _ h => h) (by rfl) ?_
            try simp only [Act.put, List.setIfInBounds_toArray, List.set_cons_zero, List.set_cons_succ]
            refine wpAnyL_pass (i := 5) (d := some 61) rfl rfl (by kernel_rfl) (by kernel_rfl) (by kernel_rfl) (fun _ _ _ h => h) (by rfl) ?_
            try simp only [Act.put, List.setIfInBounds_toArray, List.set_cons_zero, List.set_cons_succ]
            refine wpAnyL_take (i := 6) (d := some 62) (v := ?vap6) rfl rfl (by kernel_rfl) (by kernel_rfl) (by kernel_rfl) (fun _ _ _ h => h) (by rfl) ?yap6 ?_
            case yap6 => (intro w' hw'; go_simp; try (with_reducible rfl))
            simp only [Act.put, List.setIfInBounds_toArray, List.set_cons_zero, List.set_cons_succ]
            refine wpAnyL_take (i := 7) (d := some 63) (v := ?vap7) rfl rfl (by kernel_rfl) (by kernel_rfl) (by kernel_rfl) (fun _ _ _ h => h) (by rfl) ?yap7 ?_
            case yap7 => (intro w' hw'; go_simp; try (with_reducible rfl))
            simp only [Act.put, List.setIfInBounds_toArray, List.set_cons_zero, List.set_cons_succ]
            refine wpAnyL_take (i := 8) (d := some 64) (v := ?vap8) rfl rfl (by kernel_rfl) (by kernel_rfl) (by kernel_rfl) (fun _ _ _ h => h) (by rfl) ?yap8 ?_
            case yap8 => (intro w' hw'; go_simp; try (with_reducible rfl))
            simp only [Act.put, List.setIfInBounds_toArray, List.set_cons_zero, List.set_cons_succ]
            refine wpAnyL_take (i := 9) (d := some 65) (v := ?vap9) rfl rfl (by kernel_rfl) (by kernel_rfl) (by kernel_rfl) (fun _ _ _ h => h) (by rfl) ?yap9 ?_
            case yap9 => (intro w' hw'; go_simp; try (with_reducible rfl))
            simp only [Act.put, List.setIfInBounds_toArray, List.set_cons_zero, List.set_cons_succ]
            refine wpAnyL_take (i := 10) (d := some 66) (v := ?vap10) rfl rfl (by kernel_rfl) (by kernel_rfl) (by kernel_rfl) (fun _ _ _ h => h) (by rfl) ?yap10 ?_
            case yap10 => (intro w' hw'; go_simp; try (with_reducible rfl))
            simp only [Act.put, List.setIfInBounds_toArray, List.set_cons_zero, List.set_cons_succ]
            refine wpAnyL_take (i := 11) (d := some 67) (v := ?vap11) rfl rfl (by kernel_rfl) (by kernel_rfl) (by kernel_rfl) (fun _ _ _ h => h) (by rfl) ?yap11 ?_
            case yap11 => (intro w' hw'; go_simp; try (with_reducible rfl))
            simp only [Act.put, List.setIfInBounds_toArray, List.set_cons_zero, List.set_cons_succ]
            refine wpAnyL_take (i := 14) (d := some 70) (v := ?vap14) rfl rfl (by kernel_rfl) (by kernel_rfl) (by kernel_rfl) (fun _ _ _ h => h) (by rfl) ?yap14 ?_
            case yap14 => (intro w' hw'; go_simp; try (with_reducible rfl))
            simp only [Act.put, List.setIfInBounds_toArray, List.set_cons_zero, List.set_cons_succ]
            refine wpAnyL_take (i := 15) (d := some 71) (v := ?vap15) rfl rfl (by kernel_rfl) (by kernel_rfl) (by kernel_rfl) (fun _ _ _ h => h) (by rfl) ?yap15 ?_
            case yap15 => (intro w' hw'; have hc := run_str w' _ A2 n2 c2 _ (HL.out.later (L0.out.trans hw')); rw [HS1.out] at hc; go_simp; try (with_reducible rfl))
            simp only [Act.put, List.setIfInBounds_toArray, List.set_cons_zero, List.set_cons_succ]
            refine wpAnyL_only (i := 12) rfl (by kernel_rfl) (by rfl) fun K hK => ?_
            go_simp
            refine (write_new A8 n8 c8 ns _ (H8.out.later (Later.drew _)) (by omega) (by omega)).mono ?_
            rintro e w7 ⟨A9, n9, c9, rfl, _, h9, _, b7⟩
            rw [Hrec.out] at h9
            have H9 := hide h9
            have L9 := hide (L0.out.trans b7)
            refine hK.out _ _ b7 ?_
            clear h9 b7
            clear hK K
            try simp only [Act.put, List.setIfInBounds_toArray, List.set_cons_zero, List.set_cons_succ]
            refine wpAnyL_take (i := 13) (d := some 69) (v := ?vap13) rfl rfl (by kernel_rfl) (by kernel_rfl) (by kernel_rfl) (fun _ _ _ h => h) (by rfl) ?yap13 ?_
            case yap13 => (intro w' hw'; have hc := run_str w' _ A9 n9 c9 _ (H9.out.later hw'); rw [HS1.out] at hc; go_simp; try (with_reducible rfl))
            simp only [Act.put, List.setIfInBounds_toArray, List.set_cons_zero, List.set_cons_succ]
            refine wpAnyL_take (i := 16) (d := some 72) (v := ?vap16) rfl rfl (by kernel_rfl) (by kernel_rfl) (by kernel_rfl) (fun _ _ _ h => h) (by rfl) ?yap16 ?_
            case yap16 => (intro w' hw'; go_simp; try (with_reducible rfl))
            simp only [Act.put, List.setIfInBounds_toArray, List.set_cons_zero, List.set_cons_succ]
            refine wpAnyL_take (i := 17) (d := some 73) (v := ?vap17) rfl rfl (by kernel_rfl) (by kernel_rfl) (by kernel_rfl) (fun _ _ _ h => h) (by rfl) ?yap17 ?_
            case yap17 => (intro w' hw'; go_simp; try (with_reducible rfl))
            simp only [Act.put, List.setIfInBounds_toArray, List.set_cons_zero, List.set_cons_succ]
            refine wpAnyL_take (i := 18) (d := some 74) (v := ?vap18) rfl rfl (by kernel_rfl) (by kernel_rfl) (by kernel_rfl) (fun _ _ _ h => h) (by rfl) ?yap18 ?_
            case yap18 => (intro w' hw'; go_simp; try (with_reducible rfl))
            simp only [Act.put, List.setIfInBounds_toArray, List.set_cons_zero, List.set_cons_succ]
            refine wpAnyL_take (i := 19) (d := some 75) (v := ?vap19) rfl rfl (by kernel_rfl) (by kernel_rfl) (by kernel_rfl) (fun _ _ _ h => h) (by rfl) ?yap19 ?_
            case yap19 => (intro w' hw'; go_simp; try (with_reducible rfl))
            simp only [Act.put, List.setIfInBounds_toArray, List.set_cons_zero, List.set_cons_succ]
            refine wpAnyL_only (i := 20) rfl (by kernel_rfl) (by rfl) fun K hK => ?_
            go_simp
            refine (lives_is _).mono ?_
            rintro e w8 ⟨rfl, b8⟩
            have L10 := hide (L9.out.trans b8)
            refine hK.out _ _ b8 ?_
            clear b8
            clear hK K
            try simp only [Act.put, List.setIfInBounds_toArray, List.set_cons_zero, List.set_cons_succ]
            refine wpAnyL_take (i := 21) (d := some 77) (v := ?vap21) rfl rfl (by kernel_rfl) (by kernel_rfl) (by kernel_rfl) (fun _ _ _ h => h) (by rfl) ?yap21 ?_
            case yap21 => (intro w' hw'; go_simp; try (with_reducible rfl))
            simp only [Act.put, List.setIfInBounds_toArray, List.set_cons_zero, List.set_cons_succ]
            refine wpAnyL_take (i := 22) (d := some 4) (v := ?vap22) rfl rfl (by kernel_rfl) (by kernel_rfl) (by kernel_rfl) (fun _ _ _ h => h) (by rfl) ?yap22 ?_
            case yap22 => (intro w' hw'; go_simp; try (with_reducible rfl))
            simp only [Act.put, List.setIfInBounds_toArray, List.set_cons_zero, List.set_cons_succ]
            refine wpAnyL_done (by kernel_rfl) ?_ _
            go_wp2
            go_ret
            exact ⟨rfl, L10.out⟩
          · have hz : n8 = 0 := map_nil (by rw [Hns.out]; have := pread_err (l := l) (by rw [HP.out]; exact her); rw [HP.out] at this; exact this) H8.out.1
            subst hz
            have hne : ((er : Int) != 0) = true := by simp; omega
            have hne2 : ((er : Int) == 0) = false := by simp; omega
            have L0 := hide (L8.out.trans (Later.drew _))
            clear her
            go_wp2
            refine wp_region_L (by kernel_rfl) ?_
            refine wpAnyL_take (i := 0) (d := some 56) (v := ?vaq0) rfl rfl (by kernel_rfl) (by kernel_rfl) (by kernel_rfl) (fun _ _ _ h => h) (by rfl) ?yaq0 ?_
            case yaq0 => (intro w' hw'; go_simp; try (with_reducible rfl))
            simp only [Act.put, List.setIfInBounds_toArray, List.set_cons_zero, List.set_cons_succ]
            refine wpAnyL_take (i := 1) (d := some 57) (v := ?vaq1) rfl rfl (by kernel_rfl) (by kernel_rfl) (by kernel_rfl) (fun _ _ _ h => h) (by rfl) ?yaq1 ?_
            case yaq1 => (intro w' hw'; go_simp; try (with_reducible rfl))
            simp only [Act.put, List.setIfInBounds_toArray, List.set_cons_zero, List.set_cons_succ]
            refine wpAnyL_take (i := 2) (d := some 58) (v := ?vaq2) rfl rfl (by kernel_rfl) (by kernel_rfl) (by kernel_rfl) (fun _ _ _ h => h) (by rfl) ?yaq2 ?_
            case yaq2 => (intro w' hw'; go_simp; try (with_reducible rfl))
            simp only [Act.put, List.setIfInBounds_toArray, List.set_cons_zero, List.set_cons_succ]
            refine wpAnyL_take (i := 3) (d := some 59) (v := ?vaq3) rfl rfl (by kernel_rfl) (by kernel_rfl) (by kernel_rfl) (fun _ _ _ h => h) (by rfl) ?yaq3 ?_
            case yaq3 => (intro w' hw'; go_simp; try (with_reducible rfl))
            simp only [Act.put, List.setIfInBounds_toArray, List.set_cons_zero, List.set_cons_succ]
            refine wpAnyL_take (i := 4) (d := some 60) (v := ?vaq4) rfl rfl (by kernel_rfl) (by kernel_rfl) (by kernel_rfl) (fun _ _ _ h => h) (by rfl) ?yaq4 ?_
            case yaq4 => (intro w' hw'; go_simp; try (with_reducible rfl))
            simp only [Act.put, List.setIfInBounds_toArray, List.set_cons_zero, List.set_cons_succ]
            refine wpAnyL_take (i := 5) (d := some 61) (v := ?vaq5) rfl rfl (by kernel_rfl) (by kernel_rfl) (by kernel_rfl) (fun _ _ _ h => h) (by rfl) ?yaq5 ?_
            case yaq5 => (intro w' hw'; go_simp; try (with_reducible rfl))
            simp only [Act.put, List.setIfInBounds_toArray, List.set_cons_zero, List.set_cons_succ]
            refine wpAnyL_take (i := 6) (d := some 62) (v := ?vaq6) rfl rfl (by kernel_rfl) (by kernel_rfl) (by kernel_rfl) (fun _ _ _ h => h) (by rfl) ?yaq6 ?_
            case yaq6 => (intro w' hw'; go_simp; try (with_reducible rfl))
            simp only [Act.put, List.setIfInBounds_toArray, List.set_cons_zero, List.set_cons_succ]
            refine wpAnyL_take (i := 7) (d := some 63) (v := ?vaq7) rfl rfl (by kernel_rfl) (by kernel_rfl) (by kernel_rfl) (fun _ _ _ h => h) (by rfl) ?yaq7 ?_
            case yaq7 => (intro w' hw'; go_simp; try (with_reducible rfl))
            simp only [Act.put, List.setIfInBounds_toArray, List.set_cons_zero, List.set_cons_succ]
            refine wpAnyL_pass (i := 8) (d := some 64) rfl rfl (by kernel_rfl) (by kernel_rfl) (by kernel_rfl) (fun _ _ _ h => h) (by rfl) ?_
            try simp only [Act.put, List.setIfInBounds_toArray, List.set_cons_zero, List.set_cons_succ]
            refine wpAnyL_pass (i := 9) (d := some 65) rfl rfl (by kernel_rfl) (by kernel_rfl) (by kernel_rfl) (fun _ _ _ h => h) (by rfl) ?_
            try simp only [Act.put, List.setIfInBounds_toArray, List.set_cons_zero, List.set_cons_succ]
            refine wpAnyL_pass (i := 10) (d := some 66) rfl rfl (by kernel_rfl) (by kernel_rfl) (by kernel_rfl) (fun _ _ _ h => h) (by rfl) ?_
            try simp only [Act.put, List.setIfInBounds_toArray, List.set_cons_zero, List.set_cons_succ]
            refine wpAnyL_pass (i := 11) (d := some 67) rfl rfl (by kernel_rfl) (by kernel_rfl) (by kernel_rfl) (fun _ _ _ h => h) (by rfl) ?_
            try simp only [Act.put, List.setIfInBounds_toArray, List.set_cons_zero, List.set_cons_succ]
            refine wpAnyL_pass (i := 14) (d := some 70) rfl rfl (by kernel_rfl) (by kernel_rfl) (by kernel_rfl) (fun _ _ _ h => h) (by rfl) ?_
            try simp only [Act.put, List.setIfInBounds_toArray, List.set_cons_zero, List.set_cons_succ]
            refine wpAnyL_pass (i := 15) (d := some 71) rfl rfl (by kernel_rfl) (by kernel_rfl) (by kernel_rfl) (fun _ _ _ h => h) (by rfl) ?_
            try simp only [Act.put, List.setIfInBounds_toArray, List.set_cons_zero, List.set_cons_succ]
            refine wpAnyL_pass (i := 12) (d := some 68) rfl rfl (by kernel_rfl) (by kernel_rfl) (by kernel_rfl) (fun _ _ _ h => h) (by rfl) ?_
            try simp only [Act.put, List.setIfInBounds_toArray, List.set_cons_zero, List.set_cons_succ]
            refine wpAnyL_pass (i := 13) (d := some 69) rfl rfl (by kernel_rfl) (by kernel_rfl) (by kernel_rfl) (fun _ _ _ h => h) (by rfl) ?_
            try simp only [Act.put, List.setIfInBounds_toArray, List.set_cons_zero, List.set_cons_succ]
            refine wpAnyL_pass (i := 16) (d := some 72) rfl rfl (by kernel_rfl) (by kernel_rfl) (by kernel_rfl) (fun _ _ _ h => h) (by rfl) ?_
            try simp only [Act.put, List.setIfInBounds_toArray, List.set_cons_zero, List.set_cons_succ]
            refine wpAnyL_pass (i := 17) (d := some 73) rfl rfl (by kernel_rfl) (by kernel_rfl) (by kernel_rfl) (fun _ _ _ h => h) (by rfl) ?_
            try simp only [Act.put, List.setIfInBounds_toArray, List.set_cons_zero, List.set_cons_succ]
            refine wpAnyL_take (i := 18) (d := some 74) (v := ?vaq18) rfl rfl (by kernel_rfl) (by kernel_rfl) (by kernel_rfl) (fun _ _ _ h => h) (by rfl) ?yaq18 ?_
            case yaq18 => (intro w' hw'; go_simp; try (with_reducible rfl))
            simp only [Act.put, List.setIfInBounds_toArray, List.set_cons_zero, List.set_cons_succ]
            refine wpAnyL_take (i := 19) (d := some 75) (v := ?vaq19) rfl rfl (by kernel_rfl) (by kernel_rfl) (by kernel_rfl) (fun _ _ _ h => h) (by rfl) ?yaq19 ?_
            case yaq19 => (intro w' hw'; go_simp; try (with_reducible rfl))
            simp only [Act.put, List.setIfInBounds_toArray, List.set_cons_zero, List.set_cons_succ]
            refine wpAnyL_only (i := 20) rfl (by kernel_rfl) (by rfl) fun K hK => ?_
            go_simp
            refine (lives_is _).mono ?_
            rintro e w8 ⟨rfl, b8⟩
            have L10 := hide (L0.out.trans b8)
            refine hK.out _ _ b8 ?_
            clear b8
            clear hK K
            try simp only [Act.put, List.setIfInBounds_toArray, List.set_cons_zero, List.set_cons_succ]
            refine wpAnyL_take (i := 21) (d := some 77) (v := ?vaq21) rfl rfl (by kernel_rfl) (by kernel_rfl) (by kernel_rfl) (fun _ _ _ h => h) (by rfl) ?yaq21 ?_
            case yaq21 => (intro w' hw'; go_simp; try (with_reducible rfl))
            simp only [Act.put, List.setIfInBounds_toArray, List.set_cons_zero, List.set_cons_succ]
            refine wpAnyL_take (i := 22) (d := some 4) (v := ?vaq22) rfl rfl (by kernel_rfl) (by kernel_rfl) (by kernel_rfl) (fun _ _ _ h => h) (by rfl) ?yaq22 ?_
            case yaq22 => (intro w' hw'; go_simp; try (with_reducible rfl))
            simp only [Act.put, List.setIfInBounds_toArray, List.set_cons_zero, List.set_cons_succ]
            refine wpAnyL_done (by kernel_rfl) ?_ _
            go_wp2
            go_ret
            exact ⟨rfl, L10.out⟩
  · have H1 := hide (show lightB n fs = false by simpa using h1)
    clear h1
    go_enter Try.func5, Try.ntmps5
    go_wp2_with (fail)
    refine (light_is A n c fs false _ HF.out HN.out HFC.out H1.out).mono ?_
    rintro e v1 ⟨rfl, l1⟩
    have L1 := hide l1
    clear l1
    go_wp2_with (go_at_call 9; refine (lives_is _).mono ?_; rintro e w2 ⟨rfl, b2⟩)
    go_ret
    exact ⟨rfl, L1.out.trans b2⟩
end Go.Proofs.Ytjfcakpglbpeaaa
