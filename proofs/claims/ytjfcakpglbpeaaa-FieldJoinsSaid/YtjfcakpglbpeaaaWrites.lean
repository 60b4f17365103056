/- The walk over droverlaw01.FieldWrites: any fields in bytes, which may be, and the last one of any number: the document's. -/
import Derived.Test.YtjfcakpglbpeaaaRefFind
import Derived.Test.YtjfcakpglbpeaaaBack
namespace Go.Proofs.Ytjfcakpglbpeaaa
open Go.RowKit

/-- One field, in a block of its own. -/
theorem one_holds {w : World} {f : Fd} (t : TypeId) (b : Nat) (hb : w.heap.size = b) (h : f.ok w w.heap.size) : FHolds (w.alloc (.cells #[.int .i64 f.num, .bool f.text, .int .u64 f.v, .slice f.a f.n f.c] t)) (w.alloc (.cells #[.int .i64 f.num, .bool f.text, .int .u64 f.v, .slice f.a f.n f.c] t)).heap.size (some ⟨b, 0, none⟩) 1 [f] := by
  subst hb
  refine ⟨rfl, ?_, fun _ => ⟨w.heap.size, 0, rfl, by simp, ?_⟩⟩
  · intro g hg
    simp at hg
    subst hg
    exact h.later (Later.alloc _ _)
  · intro i g hi j u hu
    have hi0 : i = 0 := by
      have := (List.getElem?_eq_some_iff.1 hi).1
      simpa using this
    subst hi0
    simp at hi
    subst hi
    have := cells_new w [.int .i64 f.num, .bool f.text, .int .u64 f.v, .slice f.a f.n f.c] t j u (by simpa [Fd.cells] using hu)
    rw [Addr.add_lit] at this
    simpa using this
/-- A block of four cells stays in all later worlds. -/
theorem Box.later {w w' : World} {g : Nat} {t : TypeId} {c0 c1 c2 c3 : Value} (h : Box w g t c0 c1 c2 c3) (hl : Later w w') : Box w' g t c0 c1 c2 c3 := Box.below h hl h.lt

theorem same_one {f g : Fd} (h : f.pf = g.pf) : sameB [f] [g] = true := by
  unfold sameB
  simp [h]

theorem find_is (A : Option Addr) (n c : Nat) (fs : List Fd) (m : Int) (p : PF) (b : Bool) (w : World) (hf : FHolds w w.heap.size A n fs) (hn : n ≤ 1099511627000) (hfc : ∀ f ∈ fs, f.n ≤ 1099511627000) (h : pfind (fs.map Fd.pf) m = (p, b)) :
    Calls Try.prog 21 #[.slice A n c, .int .i64 m] w fun e w' => ∃ f : Fd, e = .returned (.tuple #[.agg #[.int .i64 f.num, .bool f.text, .int .u64 f.v, .slice f.a f.n f.c], .bool b]) ∧ f.pf = p ∧ f.ok w' w'.heap.size ∧ Later w w' :=
  (find_any A n c fs m w hf hn hfc).mono fun e w' ⟨f, h1, h2, h3, h4⟩ => ⟨f, by rw [h1, h], by rw [h2, h], h3, h4⟩
theorem reffind_is (A : Option Addr) (n c : Nat) (fs : List Fd) (m : Int) (p : PF) (b : Bool) (w : World) (hf : FHolds w w.heap.size A n fs) (hn : n ≤ 1099511627000) (h : pfind (fs.map Fd.pf) m = (p, b)) :
    Calls Try.prog 22 #[.slice A n c, .int .i64 m] w fun e w' => ∃ f : Fd, e = .returned (.tuple #[.agg #[.int .i64 f.num, .bool f.text, .int .u64 f.v, .slice f.a f.n f.c], .bool b]) ∧ f.pf = p ∧ f.ok w' w'.heap.size ∧ Later w w' :=
  (reffind_any A n c fs m w hf hn).mono fun e w' ⟨f, h1, h2, h3, h4⟩ => ⟨f, by rw [h1, h], by rw [h2, h], h3, h4⟩

set_option maxHeartbeats 3000000 in
set_option maxRecDepth 100000 in
theorem writes_any (A : Option Addr) (n c : Nat) (fs : List Fd) (m : Int) (w : World) (hf : FHolds w w.heap.size A n fs) (hn : n ≤ maxLen) (hfc : ∀ f ∈ fs, f.n ≤ maxLen) (hm1 : -9223372036854775808 ≤ m) (hm2 : m < 9223372036854775808) :
    Calls Try.prog 4 #[.slice A n c, .int .i64 m] w fun e w' => e = .returned (.bool true) ∧ Below w.heap.size w w' := by
  have HF := hide hf
  have HFC := hide hfc
  have HN := hide hn
  clear hf hfc hn
  by_cases h1 : lightB n fs = true
  · have H1 := hide h1
    have hr1 := light_room HF.out.1 h1
    have hs1 := (lightB_spec h1).1
    have Hs2 := hide (lightB_spec h1).2
    clear h1
    obtain ⟨⟨p, b⟩, hp⟩ : ∃ q, pfind (fs.map Fd.pf) m = q := ⟨_, rfl⟩
    have HP := hide hp
    obtain ⟨S1, hS1⟩ : ∃ s, str (recOf fs) = s := ⟨_, rfl⟩
    have HS1 := hide hS1
    have e1 : (S1.toList == S1.toList) = true := by simp
    have e2 : (b == b) = true := by simp
    have HM1 := hide hm1
    have HM2 := hide hm2
    clear hp hS1 hm1 hm2
    go_enter Try.func4, Try.ntmps4
    go_wp2_with (fail)
    refine (light_is A n c fs true _ HF.out HN.out HFC.out H1.out).mono ?_
    rintro e v1 ⟨rfl, l1⟩
    have L1 := hide l1
    clear l1
    go_wp2_with (fail)
    go_loopw [17] (fun i wr => ∃ k : Nat, k ≤ n ∧ i = .int .i64 k ∧ Later w wr) (fun i _ => n - (intOf i).toNat)
    case atStart => exact ⟨0, by omega, rfl, L1.out⟩
    case round =>
      obtain ⟨k, hk, rfl, hlat⟩ := hrel
      have Hlat := hide hlat
      clear hlat L1
      by_cases hlt : k < n
      · obtain ⟨f, b', off, hfk, hok, rfl, hbB, q0, q1, q2, q3, htk⟩ := (HF.out.later Hlat.out).at_ hlt
        obtain ⟨num, text, v, a, fn, fc, fb⟩ := f
        simp only at q0 q1 q2 q3
        obtain ⟨t, ht⟩ : ∃ t, Fd.good ⟨num, text, v, a, fn, fc, fb⟩ = t := ⟨_, rfl⟩
        have Ht := hide ht
        have e4 : (t == t) = true := by simp
        have e5 : (!(t == t)) = false := by simp
        have B0 := hide (show Box (wr.alloc (.cells #[.int .i64 num, .bool text, .int .u64 v, .slice a fn fc] 34)).drew wr.heap.size 34 (.int .i64 num) (.bool text) (.int .u64 v) (.slice a fn fc) from Box.new wr _ _ _ _ _)
        have L0 : Hid (Later wr (wr.alloc (.cells #[.int .i64 num, .bool text, .int .u64 v, .slice a fn fc] 34)).drew) := (Later.alloc wr _).trans (Later.drew _)
        clear ht hfk hok htk
        go_wp2
        refine wp_region_L (by kernel_rfl) ?_
        refine wpAnyL_take (i := 0) (d := some 21) (v := ?var0) rfl rfl (by kernel_rfl) (by kernel_rfl) (by kernel_rfl) (fun _ _ _ h => h) (by rfl) ?yar0 ?_
        case yar0 => (intro w' hw'; obtain ⟨d0, d1, d2, d3⟩ := (B0.out.later hw').cell; go_simp; try (with_reducible rfl))
        simp only [Act.put, List.setIfInBounds_toArray, List.set_cons_zero, List.set_cons_succ]
        refine wpAnyL_take (i := 2) (d := some 23) (v := ?var2) rfl rfl (by kernel_rfl) (by kernel_rfl) (by kernel_rfl) (fun _ _ _ h => h) (by rfl) ?yar2 ?_
        case yar2 => (intro w' hw'; obtain ⟨d0, d1, d2, d3⟩ := (B0.out.later hw').cell; go_simp; try (with_reducible rfl))
        simp only [Act.put, List.setIfInBounds_toArray, List.set_cons_zero, List.set_cons_succ]
        refine wpAnyL_only (i := 1) rfl (by kernel_rfl) (by rfl) fun K hK => ?_
        go_simp
        refine (good_later ⟨num, text, v, a, fn, fc, fb⟩ t Ht.out _).mono ?_
        rintro e w1 ⟨rfl, b1⟩
        have L1 := hide (L0.out.trans b1)
        refine hK.out _ _ b1 ?_
        clear b1
        clear hK K
        try simp only [Act.put, List.setIfInBounds_toArray, List.set_cons_zero, List.set_cons_succ]
        refine wpAnyL_only (i := 3) rfl (by kernel_rfl) (by rfl) fun K hK => ?_
        go_simp
        refine (refgood_is ⟨num, text, v, a, fn, fc, fb⟩ t Ht.out _).mono ?_
        rintro e w2 ⟨rfl, b2⟩
        have L2 := hide (L1.out.trans b2)
        refine hK.out _ _ b2 ?_
        clear b2
        clear hK K
        try simp only [Act.put, List.setIfInBounds_toArray, List.set_cons_zero, List.set_cons_succ]
        refine wpAnyL_take (i := 4) (d := some 25) (v := ?var4) rfl rfl (by kernel_rfl) (by kernel_rfl) (by kernel_rfl) (fun _ _ _ h => h) (by rfl) ?yar4 ?_
        case yar4 => (intro w' hw'; go_simp; try (with_reducible rfl))
        simp only [Act.put, List.setIfInBounds_toArray, List.set_cons_zero, List.set_cons_succ]
        refine wpAnyL_done (by kernel_rfl) ?_ _
        go_wp2
        go_roundw
        case rel => exact ⟨k + 1, by omega, by go_num, Hlat.out.trans L2.out⟩
        case measure => simp [intOf]; omega
      · go_wp2_with (fail)
        refine (find_is A n c fs m p b _ (HF.out.later Hlat.out) (by omega) (fun f hf => by have := Hs2.out f hf; omega) HP.out).mono ?_
        rintro e w1 ⟨⟨num, text, v, a, fn, fc, fb⟩, rfl, hf1, hf2, hl1⟩
        have Hf1 := hide hf1
        have Hf2 := hide hf2
        have L1 := hide (Hlat.out.trans hl1)
        have B1 := hide (Box.new w1 34 (.int .i64 num) (.bool text) (.int .u64 v) (.slice a fn fc))
        clear hf1 hf2 hl1
        simp only
        go_wp2_with (fail)
        refine (plain_any A n c fs _ (HF.out.later (L1.out.trans (Later.alloc _ _))) (by omega)).mono ?_
        rintro e w2 ⟨A2, c2, rfl, _, h2, b2⟩
        have H2 := hide h2
        have L2 := hide ((L1.out.trans (Later.alloc _ _)).trans b2)
        have M2 := hide ((Later.alloc w1 _).trans b2)
        have B2 := hide (B1.out.later b2)
        clear h2 b2
        go_wp2_with (fail)
        refine (reffind_is A2 n c2 fs m p b _ H2.out (by omega) HP.out).mono ?_
        rintro e w3 ⟨⟨num', text', v', a', fn', fc', fb'⟩, rfl, hg1, hg2, hl3⟩
        have Hg1 := hide hg1
        have Hg2 := hide hg2
        have L3 := hide (L2.out.trans hl3)
        have M3 := hide (M2.out.trans hl3)
        have B3 := hide (B2.out.later hl3)
        have C3 := hide (Box.new w3 37 (.int .i64 num') (.bool text') (.int .u64 v') (.slice a' fn' fc'))
        clear hg1 hg2 hl3
        simp only
        have hsz : w1.heap.size < w3.heap.size := B3.out.lt
        have X0 := hide (B3.out.later ((Later.alloc w3 (.cells #[.int .i64 num', .bool text', .int .u64 v', .slice a' fn' fc'] 37)).trans (Later.drew _)))
        have Y0 := hide (C3.out.later (Later.drew _))
        have L0 := hide (L3.out.trans ((Later.alloc w3 (.cells #[.int .i64 num', .bool text', .int .u64 v', .slice a' fn' fc'] 37)).trans (Later.drew _)))
        have HA := hide (Hf2.out.later (M3.out.trans ((Later.alloc w3 (.cells #[.int .i64 num', .bool text', .int .u64 v', .slice a' fn' fc'] 37)).trans (Later.drew _))))
        have HB := hide (Hg2.out.later ((Later.alloc w3 (.cells #[.int .i64 num', .bool text', .int .u64 v', .slice a' fn' fc'] 37)).trans (Later.drew _)))
        have HE := hide (show Fd.pf ⟨num, text, v, a, fn, fc, fb⟩ = Fd.pf ⟨num', text', v', a', fn', fc', fb'⟩ by rw [Hf1.out, Hg1.out])
        go_wp2
        obtain ⟨wb, Hwb⟩ : ∃ x, Hid (x = (w3.alloc (.cells #[.int .i64 num', .bool text', .int .u64 v', .slice a' fn' fc'] 37)).drew) := ⟨_, rfl⟩
        rw [← Hwb.out] at X0 Y0 L0 HA HB
        refine wp_region_L (by kernel_rfl) ?_
        rw [← Hwb.out]
        clear Hwb M2 M3 B1 B2 B3 C3
        refine wpAnyL_take (i := 0) (d := some 40) (v := ?vas0) rfl rfl (by kernel_rfl) (by kernel_rfl) (by kernel_rfl) (fun _ _ _ h => h) (by rfl) ?yas0 ?_
        case yas0 => (intro w' hw'; go_simp; try (with_reducible rfl))
        simp only [Act.put, List.setIfInBounds_toArray, List.set_cons_zero, List.set_cons_succ]
        refine wpAnyL_take (i := 3) (d := some 43) (v := ?vas3) rfl rfl (by kernel_rfl) (by kernel_rfl) (by kernel_rfl) (fun _ _ _ h => h) (by rfl) ?yas3 ?_
        case yas3 => (intro w' hw'; go_simp; try (with_reducible rfl))
        simp only [Act.put, List.setIfInBounds_toArray, List.set_cons_zero, List.set_cons_succ]
        refine wpAnyL_only (i := 1) rfl (by kernel_rfl) (by rfl) fun K hK => ?_
        go_simp
        refine (write_new A n c fs _ (HF.out.later L0.out) (by omega) (by omega)).mono ?_
        rintro e w5 ⟨A5, n5, c5, rfl, _, h5, _, b5⟩
        have H5 := hide h5
        have Mw5 := hide ((Later.refl wb).trans b5)
        refine hK.out _ _ b5 ?_
        clear h5 b5
        clear hK K
        try simp only [Act.put, List.setIfInBounds_toArray, List.set_cons_zero, List.set_cons_succ]
        refine wpAnyL_take (i := 2) (d := some 42) (v := ?vas2) rfl rfl (by kernel_rfl) (by kernel_rfl) (by kernel_rfl) (fun _ _ _ h => h) (by rfl) ?yas2 ?_
        case yas2 => (intro w' hw'; have hc := run_str w' _ A5 n5 c5 _ (H5.out.later hw'); rw [HS1.out] at hc; go_simp; try (with_reducible rfl))
        simp only [Act.put, List.setIfInBounds_toArray, List.set_cons_zero, List.set_cons_succ]
        refine wpAnyL_only (i := 4) rfl (by kernel_rfl) (by rfl) fun K hK => ?_
        go_simp
        refine (plain_any A n c fs _ (HF.out.later (L0.out.trans Mw5.out)) (by omega)).mono ?_
        rintro e w6 ⟨A6, c6, rfl, _, h6, b6⟩
        have H6 := hide h6
        have Mw6 := hide (Mw5.out.trans b6)
        refine hK.out _ _ b6 ?_
        clear h6 b6
        clear hK K
        try simp only [Act.put, List.setIfInBounds_toArray, List.set_cons_zero, List.set_cons_succ]
        refine wpAnyL_only (i := 5) rfl (by kernel_rfl) (by rfl) fun K hK => ?_
        go_simp
        refine (refwrite_any A6 n c6 fs _ H6.out (by omega) (by omega)).mono ?_
        rintro e w7 ⟨A7, n7, c7, rfl, _, h7, _, b7⟩
        have H7 := hide h7
        have Mw7 := hide (Mw6.out.trans b7)
        refine hK.out _ _ b7 ?_
        clear h7 b7
        clear hK K
        try simp only [Act.put, List.setIfInBounds_toArray, List.set_cons_zero, List.set_cons_succ]
        refine wpAnyL_take (i := 6) (d := some 46) (v := ?vas6) rfl rfl (by kernel_rfl) (by kernel_rfl) (by kernel_rfl) (fun _ _ _ h => h) (by rfl) ?yas6 ?_
        case yas6 => (intro w' hw'; have hc := run_str w' _ A7 n7 c7 _ (H7.out.later hw'); rw [HS1.out] at hc; go_simp; try (with_reducible rfl))
        simp only [Act.put, List.setIfInBounds_toArray, List.set_cons_zero, List.set_cons_succ]
        refine wpAnyL_take (i := 7) (d := some 47) (v := ?vas7) rfl rfl (by kernel_rfl) (by kernel_rfl) (by kernel_rfl) (fun _ _ _ h => h) (by rfl) ?yas7 ?_
        case yas7 => (intro w' hw'; go_simp; try (with_reducible rfl))
        simp only [Act.put, List.setIfInBounds_toArray, List.set_cons_zero, List.set_cons_succ]
        refine wpAnyL_take (i := 8) (d := some 48) (v := ?vas8) rfl rfl (by kernel_rfl) (by kernel_rfl) (by kernel_rfl) (fun _ _ _ h => h) (by rfl) ?yas8 ?_
        case yas8 => (intro w' hw'; go_simp; try (with_reducible rfl))
        simp only [Act.put, List.setIfInBounds_toArray, List.set_cons_zero, List.set_cons_succ]
        refine wpAnyL_take (i := 9) (d := some 49) (v := ?vas9) rfl rfl (by kernel_rfl) (by kernel_rfl) (by kernel_rfl) (fun _ _ _ h => h) (by rfl) ?yas9 ?_
        case yas9 => (intro w' hw'; go_simp; try (with_reducible rfl))
        simp only [Act.put, List.setIfInBounds_toArray, List.set_cons_zero, List.set_cons_succ]
        refine wpAnyL_take (i := 10) (d := some 50) (v := ?vas10) rfl rfl (by kernel_rfl) (by kernel_rfl) (by kernel_rfl) (fun _ _ _ h => h) (by rfl) ?yas10 ?_
        case yas10 => (intro w' hw'; go_simp; try (with_reducible rfl))
        simp only [Act.put, List.setIfInBounds_toArray, List.set_cons_zero, List.set_cons_succ]
        refine wpAnyL_take (i := 11) (d := some 51) (v := ?vas11) rfl rfl (by kernel_rfl) (by kernel_rfl) (by kernel_rfl) (fun _ _ _ h => h) (by rfl) ?yas11 ?_
        case yas11 => (intro w' hw'; go_simp; try (with_reducible rfl))
        simp only [Act.put, List.setIfInBounds_toArray, List.set_cons_zero, List.set_cons_succ]
        refine wpAnyL_take (i := 12) (d := some 52) (v := ?vas12) rfl rfl (by kernel_rfl) (by kernel_rfl) (by kernel_rfl) (fun _ _ _ h => h) (by rfl) ?yas12 ?_
        case yas12 => (intro w' hw'; go_simp; try (with_reducible rfl))
        simp only [Act.put, List.setIfInBounds_toArray, List.set_cons_zero, List.set_cons_succ]
        refine wpAnyL_take (i := 13) (d := some 53) (v := ?vas13) rfl rfl (by kernel_rfl) (by kernel_rfl) (by kernel_rfl) (fun _ _ _ h => h) (by rfl) ?yas13 ?_
        case yas13 => (intro w' hw'; go_simp; try (with_reducible rfl))
        simp only [Act.put, List.setIfInBounds_toArray, List.set_cons_zero, List.set_cons_succ]
        refine wpAnyL_take (i := 14) (d := some 54) (v := ?vas14) rfl rfl (by kernel_rfl) (by kernel_rfl) (by kernel_rfl) (fun _ _ _ h => h) (by rfl) ?yas14 ?_
        case yas14 => (intro w' hw'; obtain ⟨d0, d1, d2, d3⟩ := (X0.out.later (Mw7.out.trans hw')).cell; go_simp; try (with_reducible rfl))
        simp only [Act.put, List.setIfInBounds_toArray, List.set_cons_zero, List.set_cons_succ]
        refine wpAnyL_take (i := 17) (d := some 57) (v := ?vas17) rfl rfl (by kernel_rfl) (by kernel_rfl) (by kernel_rfl) (fun _ _ _ h => h) (by rfl) ?yas17 ?_
        case yas17 => (intro w' hw'; obtain ⟨d0, d1, d2, d3⟩ := (Y0.out.later (Mw7.out.trans hw')).cell; go_simp; try (with_reducible rfl))
        simp only [Act.put, List.setIfInBounds_toArray, List.set_cons_zero, List.set_cons_succ]
        refine wpAnyL_two (i := 15) (j := 18) rfl rfl (by kernel_rfl) (by rfl) (by rfl) (fun K hK => ?_) (fun K hK => ?_)
        · go_simp
          have H15 := hide (one_holds (f := ⟨num, text, v, a, fn, fc, fb⟩) 34 (w7.heap.size) (by simp) (HA.out.later Mw7.out))
          have M15 := hide (Mw7.out.trans (Later.alloc _ (.cells #[.int .i64 num, .bool text, .int .u64 v, .slice a fn fc] 34)))
          refine hK.out _ _ (Later.alloc _ _) ?_
          clear hK K
          try simp only [Act.put, List.setIfInBounds_toArray, List.set_cons_zero, List.set_cons_succ]
          refine wpAnyL_two (i := 16) (j := 18) rfl rfl (by kernel_rfl) (by rfl) (by rfl) (fun K hK => ?_) (fun K hK => ?_)
          · go_simp
            refine (plain_any _ 1 1 [⟨num, text, v, a, fn, fc, fb⟩] _ (H15.out.later (Later.refl _)) (by omega)).mono ?_
            rintro e w8 ⟨A8, c8, rfl, _, h8, b8⟩
            have H8 := hide h8
            have Mw8 := hide (M15.out.trans b8)
            refine hK.out _ _ b8 ?_
            clear h8 b8
            clear hK K
            try simp only [Act.put, List.setIfInBounds_toArray, List.set_cons_zero, List.set_cons_succ]
            refine wpAnyL_only (i := 18) rfl (by kernel_rfl) (by rfl) fun K hK => ?_
            go_simp
            have H18 := hide (one_holds (f := ⟨num', text', v', a', fn', fc', fb'⟩) 37 (w8.heap.size) (by simp) (HB.out.later Mw8.out))
            have M18 := hide (Mw8.out.trans (Later.alloc _ (.cells #[.int .i64 num', .bool text', .int .u64 v', .slice a' fn' fc'] 37)))
            refine hK.out _ _ (Later.alloc _ _) ?_
            clear hK K
            try simp only [Act.put, List.setIfInBounds_toArray, List.set_cons_zero, List.set_cons_succ]
            refine wpAnyL_only (i := 19) rfl (by kernel_rfl) (by rfl) fun K hK => ?_
            go_simp
            refine (same_is A8 _ 1 c8 1 1 _ [⟨num, text, v, a, fn, fc, fb⟩] [⟨num', text', v', a', fn', fc', fb'⟩] true _ (H8.out.later ((Later.refl _).trans (Later.alloc _ _))) (H18.out.later (Later.refl _)) (by omega) (by omega) (same_one HE.out)).mono ?_
            rintro e w9 ⟨rfl, b9⟩
            have Mw9 := hide (M18.out.trans b9)
            refine hK.out _ _ b9 ?_
            clear b9
            clear hK K
            try simp only [Act.put, List.setIfInBounds_toArray, List.set_cons_zero, List.set_cons_succ]
            refine wpAnyL_take (i := 20) (d := some 60) (v := ?vasxx20) rfl rfl (by kernel_rfl) (by kernel_rfl) (by kernel_rfl) (fun _ _ _ h => h) (by rfl) ?yasxx20 ?_
            case yasxx20 => (intro w' hw'; go_simp; try (with_reducible rfl))
            simp only [Act.put, List.setIfInBounds_toArray, List.set_cons_zero, List.set_cons_succ]
            refine wpAnyL_take (i := 21) (d := some 61) (v := ?vasxx21) rfl rfl (by kernel_rfl) (by kernel_rfl) (by kernel_rfl) (fun _ _ _ h => h) (by rfl) ?yasxx21 ?_
            case yasxx21 => (intro w' hw'; go_simp; try (with_reducible rfl))
            simp only [Act.put, List.setIfInBounds_toArray, List.set_cons_zero, List.set_cons_succ]
            refine wpAnyL_only (i := 22) rfl (by kernel_rfl) (by rfl) fun K hK => ?_
            go_simp
            refine (lives_is _).mono ?_
            rintro e w10 ⟨rfl, b10⟩
            have Mw10 := hide (Mw9.out.trans b10)
            refine hK.out _ _ b10 ?_
            clear b10
            clear hK K
            try simp only [Act.put, List.setIfInBounds_toArray, List.set_cons_zero, List.set_cons_succ]
            refine wpAnyL_take (i := 23) (d := some 63) (v := ?vasxx23) rfl rfl (by kernel_rfl) (by kernel_rfl) (by kernel_rfl) (fun _ _ _ h => h) (by rfl) ?yasxx23 ?_
            case yasxx23 => (intro w' hw'; go_simp; try (with_reducible rfl))
            simp only [Act.put, List.setIfInBounds_toArray, List.set_cons_zero, List.set_cons_succ]
            refine wpAnyL_take (i := 24) (d := some 4) (v := ?vasxx24) rfl rfl (by kernel_rfl) (by kernel_rfl) (by kernel_rfl) (fun _ _ _ h => h) (by rfl) ?yasxx24 ?_
            case yasxx24 => (intro w' hw'; go_simp; try (with_reducible rfl))
            simp only [Act.put, List.setIfInBounds_toArray, List.set_cons_zero, List.set_cons_succ]
            refine wpAnyL_done (by kernel_rfl) ?_ _
            go_wp2
            go_ret
            exact ⟨rfl, L0.out.trans Mw10.out⟩
          · go_simp
            have H18 := hide (one_holds (f := ⟨num', text', v', a', fn', fc', fb'⟩) 37 (w7.heap.size + 1) (by simp) (HB.out.later M15.out))
            have M18 := hide (M15.out.trans (Later.alloc _ (.cells #[.int .i64 num', .bool text', .int .u64 v', .slice a' fn' fc'] 37)))
            refine hK.out _ _ (Later.alloc _ _) ?_
            clear hK K
            try simp only [Act.put, List.setIfInBounds_toArray, List.set_cons_zero, List.set_cons_succ]
            refine wpAnyL_only (i := 16) rfl (by kernel_rfl) (by rfl) fun K hK => ?_
            go_simp
            refine (plain_any _ 1 1 [⟨num, text, v, a, fn, fc, fb⟩] _ (H15.out.later ((Later.refl _).trans (Later.alloc _ _))) (by omega)).mono ?_
            rintro e w8 ⟨A8, c8, rfl, _, h8, b8⟩
            have H8 := hide h8
            have F18 := hide (H18.out.later ((Later.refl _).trans b8))
            have Mw8 := hide (M18.out.trans b8)
            refine hK.out _ _ b8 ?_
            clear h8 b8
            clear hK K
            try simp only [Act.put, List.setIfInBounds_toArray, List.set_cons_zero, List.set_cons_succ]
            refine wpAnyL_only (i := 19) rfl (by kernel_rfl) (by rfl) fun K hK => ?_
            go_simp
            refine (same_is A8 _ 1 c8 1 1 _ [⟨num, text, v, a, fn, fc, fb⟩] [⟨num', text', v', a', fn', fc', fb'⟩] true _ (H8.out.later (Later.refl _)) F18.out (by omega) (by omega) (same_one HE.out)).mono ?_
            rintro e w9 ⟨rfl, b9⟩
            have Mw9 := hide (Mw8.out.trans b9)
            refine hK.out _ _ b9 ?_
            clear b9
            clear hK K
            try simp only [Act.put, List.setIfInBounds_toArray, List.set_cons_zero, List.set_cons_succ]
            refine wpAnyL_take (i := 20) (d := some 60) (v := ?vasxy20) rfl rfl (by kernel_rfl) (by kernel_rfl) (by kernel_rfl) (fun _ _ _ h => h) (by rfl) ?yasxy20 ?_
            case yasxy20 => (intro w' hw'; go_simp; try (with_reducible rfl))
            simp only [Act.put, List.setIfInBounds_toArray, List.set_cons_zero, List.set_cons_succ]
            refine wpAnyL_take (i := 21) (d := some 61) (v := ?vasxy21) rfl rfl (by kernel_rfl) (by kernel_rfl) (by kernel_rfl) (fun _ _ _ h => h) (by rfl) ?yasxy21 ?_
            case yasxy21 => (intro w' hw'; go_simp; try (with_reducible rfl))
            simp only [Act.put, List.setIfInBounds_toArray, List.set_cons_zero, List.set_cons_succ]
            refine wpAnyL_only (i := 22) rfl (by kernel_rfl) (by rfl) fun K hK => ?_
            go_simp
            refine (lives_is _).mono ?_
            rintro e w10 ⟨rfl, b10⟩
            have Mw10 := hide (Mw9.out.trans b10)
            refine hK.out _ _ b10 ?_
            clear b10
            clear hK K
            try simp only [Act.put, List.setIfInBounds_toArray, List.set_cons_zero, List.set_cons_succ]
            refine wpAnyL_take (i := 23) (d := some 63) (v := ?vasxy23) rfl rfl (by kernel_rfl) (by kernel_rfl) (by kernel_rfl) (fun _ _ _ h => h) (by rfl) ?yasxy23 ?_
            case yasxy23 => (intro w' hw'; go_simp; try (with_reducible rfl))
            simp only [Act.put, List.setIfInBounds_toArray, List.set_cons_zero, List.set_cons_succ]
            refine wpAnyL_take (i := 24) (d := some 4) (v := ?vasxy24) rfl rfl (by kernel_rfl) (by kernel_rfl) (by kernel_rfl) (fun _ _ _ h => h) (by rfl) ?yasxy24 ?_
            case yasxy24 => (intro w' hw'; go_simp; try (with_reducible rfl))
            simp only [Act.put, List.setIfInBounds_toArray, List.set_cons_zero, List.set_cons_succ]
            refine wpAnyL_done (by kernel_rfl) ?_ _
            go_wp2
            go_ret
            exact ⟨rfl, L0.out.trans Mw10.out⟩
        · go_simp
          have H18 := hide (one_holds (f := ⟨num', text', v', a', fn', fc', fb'⟩) 37 (w7.heap.size) (by simp) (HB.out.later Mw7.out))
          have M18 := hide (Mw7.out.trans (Later.alloc _ (.cells #[.int .i64 num', .bool text', .int .u64 v', .slice a' fn' fc'] 37)))
          refine hK.out _ _ (Later.alloc _ _) ?_
          clear hK K
          try simp only [Act.put, List.setIfInBounds_toArray, List.set_cons_zero, List.set_cons_succ]
          refine wpAnyL_only (i := 15) rfl (by kernel_rfl) (by rfl) fun K hK => ?_
          go_simp
          have H15 := hide (one_holds (f := ⟨num, text, v, a, fn, fc, fb⟩) 34 (w7.heap.size + 1) (by simp) (HA.out.later M18.out))
          have M15 := hide (M18.out.trans (Later.alloc _ (.cells #[.int .i64 num, .bool text, .int .u64 v, .slice a fn fc] 34)))
          refine hK.out _ _ (Later.alloc _ _) ?_
          clear hK K
          try simp only [Act.put, List.setIfInBounds_toArray, List.set_cons_zero, List.set_cons_succ]
          refine wpAnyL_only (i := 16) rfl (by kernel_rfl) (by rfl) fun K hK => ?_
          go_simp
          refine (plain_any _ 1 1 [⟨num, text, v, a, fn, fc, fb⟩] _ (H15.out.later (Later.refl _)) (by omega)).mono ?_
          rintro e w8 ⟨A8, c8, rfl, _, h8, b8⟩
          have H8 := hide h8
          have F18 := hide (H18.out.later (((Later.refl _).trans (Later.alloc _ _)).trans b8))
          have Mw8 := hide (M15.out.trans b8)
          refine hK.out _ _ b8 ?_
          clear h8 b8
          clear hK K
          try simp only [Act.put, List.setIfInBounds_toArray, List.set_cons_zero, List.set_cons_succ]
          refine wpAnyL_only (i := 19) rfl (by kernel_rfl) (by rfl) fun K hK => ?_
          go_simp
          refine (same_is A8 _ 1 c8 1 1 _ [⟨num, text, v, a, fn, fc, fb⟩] [⟨num', text', v', a', fn', fc', fb'⟩] true _ (H8.out.later (Later.refl _)) F18.out (by omega) (by omega) (same_one HE.out)).mono ?_
          rintro e w9 ⟨rfl, b9⟩
          have Mw9 := hide (Mw8.out.trans b9)
          refine hK.out _ _ b9 ?_
          clear b9
          clear hK K
          try simp only [Act.put, List.setIfInBounds_toArray, List.set_cons_zero, List.set_cons_succ]
          refine wpAnyL_take (i := 20) (d := some 60) (v := ?vasy20) rfl rfl (by kernel_rfl) (by kernel_rfl) (by kernel_rfl) (fun _ _ _ h => h) (by rfl) ?yasy20 ?_
          case yasy20 => (intro w' hw'; go_simp; try (with_reducible rfl))
          simp only [Act.put, List.setIfInBounds_toArray, List.set_cons_zero, List.set_cons_succ]
          refine wpAnyL_take (i := 21) (d := some 61) (v := ?vasy21) rfl rfl (by kernel_rfl) (by kernel_rfl) (by kernel_rfl) (fun _ _ _ h => h) (by rfl) ?yasy21 ?_
          case yasy21 => (intro w' hw'; go_simp; try (with_reducible rfl))
          simp only [Act.put, List.setIfInBounds_toArray, List.set_cons_zero, List.set_cons_succ]
          refine wpAnyL_only (i := 22) rfl (by kernel_rfl) (by rfl) fun K hK => ?_
          go_simp
          refine (lives_is _).mono ?_
          rintro e w10 ⟨rfl, b10⟩
          have Mw10 := hide (Mw9.out.trans b10)
          refine hK.out _ _ b10 ?_
          clear b10
          clear hK K
          try simp only [Act.put, List.setIfInBounds_toArray, List.set_cons_zero, List.set_cons_succ]
          refine wpAnyL_take (i := 23) (d := some 63) (v := ?vasy23) rfl rfl (by kernel_rfl) (by kernel_rfl) (by kernel_rfl) (fun _ _ _ h => h) (by rfl) ?yasy23 ?_
          case yasy23 => (intro w' hw'; go_simp; try (with_reducible rfl))
          simp only [Act.put, List.setIfInBounds_toArray, List.set_cons_zero, List.set_cons_succ]
          refine wpAnyL_take (i := 24) (d := some 4) (v := ?vasy24) rfl rfl (by kernel_rfl) (by kernel_rfl) (by kernel_rfl) (fun _ _ _ h => h) (by rfl) ?yasy24 ?_
          case yasy24 => (intro w' hw'; go_simp; try (with_reducible rfl))
          simp only [Act.put, List.setIfInBounds_toArray, List.set_cons_zero, List.set_cons_succ]
          refine wpAnyL_done (by kernel_rfl) ?_ _
          go_wp2
          go_ret
          exact ⟨rfl, L0.out.trans Mw10.out⟩
  · have H1 := hide (show lightB n fs = false by simpa using h1)
    clear h1
    go_enter Try.func4, Try.ntmps4
    go_wp2_with (fail)
    refine (light_is A n c fs false _ HF.out HN.out HFC.out H1.out).mono ?_
    rintro e v1 ⟨rfl, l1⟩
    have L1 := hide l1
    clear l1
    go_wp2_with (go_at_call 9; refine (lives_is _).mono ?_; rintro e w2 ⟨rfl, b2⟩)
    go_ret
    exact ⟨rfl, L1.out.trans b2⟩
end Go.Proofs.Ytjfcakpglbpeaaa
