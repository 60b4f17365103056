/- The walk over droverlaw01.FieldJoins: bytes of fields, one behind the other, are both ones' fields. -/
import Derived.Test.YtjfcakpglbpeaaaWrites
namespace Go.Proofs.Ytjfcakpglbpeaaa
open Go.RowKit

theorem same_join {fs ms ns : List Fd} {ps qs : List PF} (h : fs.map Fd.pf = ps ++ qs) (h1 : ms.map Fd.pf = ps) (h2 : ns.map Fd.pf = qs) : sameB fs (ms ++ ns) = true := by
  unfold sameB
  simp [h, h1, h2]
theorem pf_eq {f g : Fd} (h : f.pf = g.pf) : f.v = g.v ∧ f.b = g.b := by
  have := congrArg (fun p : PF => p.2.2.1) h
  have h2 := congrArg (fun p : PF => p.2.2.2) h
  exact ⟨this, h2⟩
theorem filter_count {fs : List Fd} {n : Nat} {ms : List Fd} (hl : fs.length = n) (h : ms.map Fd.pf = (fs.map Fd.pf).filter pgood) : ms.length ≤ n := by
  have e2 := congrArg List.length h
  rw [List.length_map] at e2
  have e3 := List.length_filter_le pgood (fs.map Fd.pf)
  rw [List.length_map] at e3
  omega
/-- What was read of a record is no longer than what was written. -/
theorem read_small {ms : List Fd} {ps : List PF} {R : Nat} (h : ms.map Fd.pf = ps) (hl : ∀ f ∈ ms, f.b.length = f.n) (hp : ∀ p ∈ ps, p.2.2.2.length ≤ R) : ∀ f ∈ ms, f.n ≤ R := by
  intro f hf
  have : f.pf ∈ ps := by rw [← h]; exact List.mem_map_of_mem hf
  have h2 := hp _ this
  rw [← hl f hf]
  exact h2
theorem light_small {fs : List Fd} {n : Nat} (hl : ∀ f ∈ fs, f.b.length = f.n) (h : lightB n fs = true) : ∀ p ∈ (fs.map Fd.pf).filter pgood, p.2.2.2.length ≤ 2000 := by
  intro p hp
  obtain ⟨f, hf, rfl⟩ := List.mem_map.1 (List.mem_filter.1 hp).1
  have := (lightB_spec h).2 f hf
  rw [← hl f hf] at this
  exact this

/-- Bytes lie in no block of four other cells: a store there leaves them. -/
theorem holds_set {w w' : World} {B n g : Nat} {A : Option Addr} {l : List Nat} (h : Holds w B A n l) {t : TypeId} {num : Int} {text : Bool} {v : Nat} {a : Option Addr} {fn fc : Nat}
    (hx : Box w g t (.int .i64 num) (.bool text) (.int .u64 v) (.slice a fn fc)) (hk : ∀ k, k ≠ g → w'.heap[k]? = w.heap[k]?) : Holds w' B A n l := by
  refine ⟨h.1, h.2.1, fun hn => ?_⟩
  obtain ⟨b, off, e, hb, hc⟩ := h.2.2 hn
  refine ⟨b, off, e, hb, fun i hi => ?_⟩
  have hne : b ≠ g := by
    intro he
    subst he
    have h1 := hc i hi
    rw [cell_of_row w b (off + i) _ t (0, 0) hx] at h1
    match ho : off + i, h1 with
    | 0, h1 => simp at h1
    | 1, h1 => simp at h1
    | 2, h1 => simp at h1
    | 3, h1 => simp at h1
    | k + 4, h1 => simp at h1
  rw [World.cell?_of_block (w := w) (hk b hne)]
  exact hc i hi

set_option maxHeartbeats 4000000 in
set_option maxRecDepth 100000 in
theorem joins_any (A : Option Addr) (n c : Nat) (fs : List Fd) (A2 : Option Addr) (n2 c2 : Nat) (gs : List Fd) (m : Int) (w : World) (hf : FHolds w w.heap.size A n fs) (hn : n ≤ maxLen) (hfc : ∀ f ∈ fs, f.n ≤ maxLen)
    (hg : FHolds w w.heap.size A2 n2 gs) (hn2 : n2 ≤ maxLen) (hgc : ∀ f ∈ gs, f.n ≤ maxLen) (hm1 : -9223372036854775808 ≤ m) (hm2 : m < 9223372036854775808) :
    Calls Try.prog 7 #[.slice A n c, .slice A2 n2 c2, .int .i64 m] w fun e w' => e = .returned (.bool true) ∧ Below w.heap.size w w' := by
  obtain ⟨i0, hi, hz0, hz1, hz2⟩ := info_parts Try.infoU8
  obtain ⟨j0, ji, jz0, jz1, jz2⟩ := info_parts Try.infoRef
  have HF := hide hf
  have HG := hide hg
  have HFC := hide hfc
  have HGC := hide hgc
  have HN := hide hn
  have HN2 := hide hn2
  have HM1 := hide hm1
  have HM2 := hide hm2
  clear hf hg hfc hgc hn hn2 hm1 hm2
  by_cases h1 : lightB n fs = true
  · have H1 := hide h1
    have hr1 := light_room HF.out.1 h1
    have hs1 := (lightB_spec h1).1
    clear h1
    by_cases h2 : lightB n2 gs = true
    · have H2 := hide h2
      have hr2 := light_room HG.out.1 h2
      have hs2 := (lightB_spec h2).1
      clear h2
      obtain ⟨P, hP⟩ : ∃ P, (fs.map Fd.pf).filter pgood = P := ⟨_, rfl⟩
      obtain ⟨Q, hQ⟩ : ∃ Q, (gs.map Fd.pf).filter pgood = Q := ⟨_, rfl⟩
      have hx : pread (recOf fs) = (0, P) := by
        have := pread_prec [] (by simp) (fs.map Fd.pf) (HF.out.fits HFC.out).1 (HF.out.fits HFC.out).2
        rw [readOn_end, List.append_nil] at this
        rw [recOf_pf fs HF.out.lens, this, hP]
      have hy : pread (recOf gs) = (0, Q) := by
        have := pread_prec [] (by simp) (gs.map Fd.pf) (HG.out.fits HGC.out).1 (HG.out.fits HGC.out).2
        rw [readOn_end, List.append_nil] at this
        rw [recOf_pf gs HG.out.lens, this, hQ]
      have hxy : pread (recOf fs ++ recOf gs) = (0, P ++ Q) := by
        have := pread_prec (recOf gs) HG.out.small (fs.map Fd.pf) (HF.out.fits HFC.out).1 (HF.out.fits HFC.out).2
        rw [recOf_pf fs HF.out.lens, this, hy, hP]
        simp [readOn]
      have HX := hide hx
      have HY := hide hy
      have HXY := hide hxy
      have HP := hide hP
      have HQ := hide hQ
      have hl1 := recOf_len fs HF.out.lens
      have hl2 := recOf_len gs HG.out.lens
      have SP := hide (by rw [← hP]; exact light_small HF.out.lens H1.out : ∀ p ∈ P, p.2.2.2.length ≤ 2000)
      have SQ := hide (by rw [← hQ]; exact light_small HG.out.lens H2.out : ∀ p ∈ Q, p.2.2.2.length ≤ 2000)
      have SPQ : Hid (∀ p ∈ P ++ Q, p.2.2.2.length ≤ 2000) := fun p hp => by
        rcases List.mem_append.1 hp with h | h
        · exact SP.out p h
        · exact SQ.out p h
      clear hx hy hxy hP hQ
      go_enter Try.func7, Try.ntmps7
      go_wp2_with (fail)
      refine (light_is A n c fs true _ HF.out HN.out HFC.out H1.out).mono ?_
      rintro e v1 ⟨rfl, l1⟩
      have L1 := hide l1
      clear l1
      go_wp2_with (fail)
      refine (light_is A2 n2 c2 gs true _ (HG.out.later L1.out) HN2.out HGC.out H2.out).mono ?_
      rintro e v2 ⟨rfl, l2⟩
      have L2 := hide (L1.out.trans l2)
      clear l2
      go_wp2_with (fail)
      refine (write_new A n c fs _ (HF.out.later L2.out) (by omega) (by omega)).mono ?_
      rintro e v3 ⟨A3, n3, c3, rfl, _, h3, hc3, l3⟩
      have H3 := hide h3
      have hn3 := h3.1
      have L3 := hide (L2.out.trans l3)
      clear h3 l3
      go_wp2_with (fail)
      refine (write_new A2 n2 c2 gs _ (HG.out.later L3.out) (by omega) (by omega)).mono ?_
      rintro e v4 ⟨A4, n4, c4, rfl, _, h4, hc4, l4⟩
      have H4 := hide h4
      have hn4 := h4.1
      have L4 := hide (L3.out.trans l4)
      have H3' := hide (H3.out.later l4)
      clear h4 l4 H3
      go_wp2_with (first
        | (at_builtin; refine wpList_append_bytes _ rfl (.tmp 33) (.tmp 34) 22 rfl v4.heap.size 5 i0 (.int .u8 0) Try.underlying22 hi hz0 hz1 hz2 rfl _ 0 [] rfl (World.ownsRow_lit v4 #[] 0 (Nat.le_refl _) (by simp [maxLen]) rfl) v4.heap.size A3 n3 c3 (recOf fs) rfl (H3'.out.below (Later.alloc _ _)) (by omega) (by simp) ?_; intro x1 v5 o5 g5)
        | (at_builtin; refine wpList_append_bytes _ rfl (.tmp 35) (.tmp 36) 22 rfl v4.heap.size 5 i0 (.int .u8 0) Try.underlying22 hi hz0 hz1 hz2 rfl x1 (0 + n3) _ rfl o5 v4.heap.size A4 n4 c4 (recOf gs) rfl (H4.out.below (((Below.refl v4.heap.size v4).alloc (Nat.le_refl _) _).trans (g5.below (World.ownsRow_lit v4 #[] 0 (Nat.le_refl _) (by simp [maxLen]) rfl) (by simp)))) (by omega) (by have := g5.size; simp at this; omega) ?_; intro x2 v6 o6 g6))
      have k6 : Later v4 v6 := (Below.alloc (Below.refl _ _) (Nat.le_refl _) _).trans ((g5.below (World.ownsRow_lit v4 #[] 0 (Nat.le_refl _) (by simp [maxLen]) rfl) (by simp)).trans (g6.below o5 (by have := g5.size; simp at this; omega)))
      have K6 := hide k6
      have L6 := hide (L4.out.trans k6)
      obtain ⟨A6, c6, hx2, hc6, _, h6⟩ := Holds.of_own (l := recOf fs ++ recOf gs) (by rw [bvs_append]; simpa using o6) (fun y hy => by
        rcases List.mem_append.1 hy with h | h
        · exact HF.out.small y h
        · exact HG.out.small y h)
      have H6 := hide h6
      clear o5 g5 o6 g6 k6 h6
      subst hx2
      refine (read_is A6 _ c6 _ 0 _ _ H6.out (by omega) hc6 HXY.out).mono ?_
      rintro e v7 ⟨A7, n7, c7, ls, rfl, hls, h7, hc7, l7⟩
      have H7 := hide h7
      have Hls := hide hls
      have K7 := hide (K6.out.trans l7)
      have L7 := hide (L6.out.trans l7)
      have hn7 : n7 ≤ 400 := by
        have e1 := h7.1
        have e2 := congrArg List.length hls
        rw [List.length_map, List.length_append, ← HP.out, ← HQ.out] at e2
        have e3 := List.length_filter_le pgood (fs.map Fd.pf)
        have e4 := List.length_filter_le pgood (gs.map Fd.pf)
        rw [List.length_map] at e3 e4
        have e5 := HF.out.1
        have e6 := HG.out.1
        omega
      clear h7 hls l7
      go_wp2_with (fail)
      refine (read_is A3 n3 c3 _ 0 _ _ (H3'.out.later K7.out) (by omega) hc3 HX.out).mono ?_
      rintro e v8 ⟨A8, n8, c8, ms, rfl, hms, h8, hc8, l8⟩
      have H8 := hide h8
      have Hms := hide hms
      have M8 := hide l8
      have K8 := hide (K7.out.trans l8)
      have L8 := hide (L7.out.trans l8)
      have hn8 : n8 ≤ 200 := by
        have := filter_count HF.out.1 (hms.trans HP.out.symm)
        have := h8.1
        omega
      clear h8 hms l8
      go_wp2_with (fail)
      refine (read_is A4 n4 c4 _ 0 _ _ (H4.out.later K8.out) (by omega) hc4 HY.out).mono ?_
      rintro e v9 ⟨A9, n9, c9, ns, rfl, hns, h9, hc9, l9⟩
      have H9 := hide h9
      have Hns := hide hns
      have N9 := hide l9
      have M9 := hide (M8.out.trans l9)
      have L9 := hide (L8.out.trans l9)
      have hn9 : n9 ≤ 200 := by
        have := filter_count HG.out.1 (hns.trans HQ.out.symm)
        have := h9.1
        omega
      clear h9 hns l9
      go_wp2_with (fail)
      refine (plain_any A7 n7 c7 ls _ (H7.out.later M9.out) (by omega)).mono ?_
      rintro e v10 ⟨A10, c10, rfl, _, h10, l10⟩
      have H10 := hide h10
      have O10 := hide (show Later v9 v10 from l10)
      have L10 := hide (L9.out.trans l10)
      clear h10 l10
      go_wp2_with (fail)
      refine (plain_own A8 n8 c8 ms _ (H8.out.later (N9.out.trans O10.out)) (by omega)).mono ?_
      rintro e v11 ⟨A11, c11, rfl, _, h11, o11, l11⟩
      have H11 := hide h11
      have Ow11 := hide o11
      have P11 := hide (show Later v10 v11 from l11)
      have L11 := hide (L10.out.trans l11)
      clear h11 o11 l11
      go_wp2_with (fail)
      refine (plain_any A9 n9 c9 ns _ (H9.out.later (O10.out.trans P11.out)) (by omega)).mono ?_
      rintro e v12 ⟨A12, c12, rfl, _, h12, l12⟩
      have H12 := hide h12
      have Ow12 := hide (own_below_any Ow11.out l12)
      have P12 := hide (P11.out.trans l12)
      have Q12 := hide (show Later v11 v12 from l12)
      have L12 := hide (L11.out.trans l12)
      have s12 := P12.out.size
      clear h12 l12
      go_wp2_with (at_builtin; refine wpList_append_fields_if _ (by rfl) (.tmp 57) (.tmp 59) 42 rfl v10.heap.size 37 j0 _ Try.underlying42 ji jz0 jz1 jz2 rfl _ n8 ms rfl Ow12.out v12.heap.size A12 n9 c12 ns rfl H12.out (by omega) s12 ?_; intro x3 v13 o13 g13)
      have k13 := later_grown Ow12.out s12 g13
      obtain ⟨A13, c13, hx3, _, h13⟩ := FHolds.of_own o13 (fun f hf => by
        rcases List.mem_append.1 hf with h | h
        · have := ((H8.out.later (N9.out.trans O10.out)).2.1 f h).keep (w' := v13) (fun p hp => (k13.cell hp).trans (P12.out.cell hp))
          exact ⟨this.1, this.2.1, this.2.2.1, this.2.2.2.more (by have := k13.size; omega)⟩
        · have := ((H9.out.later O10.out).2.1 f h).keep (w' := v13) (fun p hp => (k13.cell hp).trans (P12.out.cell hp))
          exact ⟨this.1, this.2.1, this.2.2.1, this.2.2.2.more (by have := k13.size; omega)⟩)
      have H13 := hide h13
      have K13 := hide k13
      have H10' := hide ((H10.out.below P12.out).below k13)
      have L13 := hide (L10.out.trans ((P12.out.below (Nat.le_refl _)).trans k13))
      have R13 := hide (show Later v10 v13 from (P12.out.below (Nat.le_refl _)).trans k13)
      have s13 := k13.size
      clear o13 g13 k13 h13
      subst hx3
      refine (same_is A10 A13 n7 c10 (n8 + n9) c13 _ ls (ms ++ ns) true _ (H10'.out.more (by omega)) H13.out (by omega) (by omega) (same_join Hls.out Hms.out Hns.out)).mono ?_
      rintro e v14 ⟨rfl, l14⟩
      have L14 := hide (L13.out.trans l14)
      have R14 := hide ((O10.out.trans R13.out).trans l14)
      clear l14
      obtain ⟨⟨p1, b1⟩, hq1⟩ : ∃ q, pfind Q m = q := ⟨_, rfl⟩
      obtain ⟨⟨p2, b2⟩, hq2⟩ : ∃ q, pfind P m = q := ⟨_, rfl⟩
      have HQ1 := hide hq1
      have HQ2 := hide hq2
      have hq3 := pfind_append P Q m
      rw [hq1, hq2] at hq3
      simp only at hq3
      have HQ3 := hide hq3
      have B7 := hide (read_small Hls.out H7.out.lens SPQ.out)
      have B8 := hide (read_small Hms.out H8.out.lens SP.out)
      have B9 := hide (read_small Hns.out H9.out.lens SQ.out)
      clear hq1 hq2 hq3
      cases b1 with
      | true =>
        go_wp2_with (fail)
        refine (find_is A7 n7 c7 ls m p1 true _ (H7.out.later (M9.out.trans R14.out)) (by omega) (fun f hf => by have := B7.out f hf; omega) (by rw [Hls.out, HQ3.out]; rfl)).mono ?_
        rintro e v15 ⟨⟨num, text, v, a, fn, fc, fb⟩, rfl, hf1, hf2, l15⟩
        have Hf1 := hide hf1
        have Hf2 := hide hf2
        have R15 := hide (R14.out.trans l15)
        have L15 := hide (L14.out.trans l15)
        have B15 := hide (Box.new v15 34 (.int .i64 num) (.bool text) (.int .u64 v) (.slice a fn fc))
        clear hf1 hf2 l15
        simp only
        go_wp2_with (fail)
        refine (find_is A9 n9 c9 ns m p1 true _ (H9.out.later (R15.out.trans (Later.alloc _ _))) (by omega) (fun f hf => by have := B9.out f hf; omega) (by rw [Hns.out, HQ1.out])).mono ?_
        rintro e v16 ⟨⟨num', text', v', a', fn', fc', fb'⟩, rfl, hg1, hg2, l16⟩
        obtain ⟨rfl, rfl⟩ := pf_eq (Hf1.out.trans hg1.symm)
        have L16 := hide (L15.out.trans ((Later.alloc _ _).trans l16))
        have B16 := hide (B15.out.later l16)
        obtain ⟨d0, d1, d2, d3⟩ := B16.out.cell
        have hlt := B16.out.lt
        obtain ⟨S1, hS1⟩ : ∃ s, str fb = s := ⟨_, rfl⟩
        have q1 : ∀ w', Later v16 w' → (convert 22 9 (.slice a fn fc)).run Try.prog w' = .ok (.string S1) w' := fun w' hw => by rw [← hS1]; exact run_str _ _ a fn fc fb (Hf2.out.2.2.2.later ((Later.alloc _ _).trans (l16.trans hw)))
        have q2 : ∀ w', Later v16 w' → (convert 22 9 (.slice a' fn' fc')).run Try.prog w' = .ok (.string S1) w' := fun w' hw => by rw [← hS1]; exact run_str _ _ a' fn' fc' fb (hg2.2.2.2.later hw)
        have q1' := q1 (v16.alloc (.cells #[.int .i64 num', .bool text', .int .u64 v, .slice a' fn' fc'] 34)) (Later.alloc _ _)
        have q2' := q2 (v16.alloc (.cells #[.int .i64 num', .bool text', .int .u64 v, .slice a' fn' fc'] 34)) (Later.alloc _ _)
        have e1 : (S1.toList == S1.toList) = true := by simp
        have e2 : ((v : Int) == (v : Int)) = true := by simp
        clear hg1 hg2 l16 q1 q2 hS1
        simp only
        go_wp2_with (go_at_call 9; refine (lives_is _).mono ?_; rintro e v17 ⟨rfl, l17⟩)
        go_ret
        exact ⟨rfl, L16.out.trans ((Later.alloc _ _).trans l17)⟩
      | false =>
        go_wp2_with (fail)
        refine (find_is A7 n7 c7 ls m p2 b2 _ (H7.out.later (M9.out.trans R14.out)) (by omega) (fun f hf => by have := B7.out f hf; omega) (by rw [Hls.out, HQ3.out]; rfl)).mono ?_
        rintro e v15 ⟨⟨num, text, v, a, fn, fc, fb⟩, rfl, hf1, hf2, l15⟩
        have Hf1 := hide hf1
        have Hf2 := hide hf2
        have R15 := hide (R14.out.trans l15)
        have L15 := hide (L14.out.trans l15)
        have B15 := hide (Box.new v15 34 (.int .i64 num) (.bool text) (.int .u64 v) (.slice a fn fc))
        clear hf1 hf2 l15
        simp only
        go_wp2_with (fail)
        refine (find_is A9 n9 c9 ns m p1 false _ (H9.out.later (R15.out.trans (Later.alloc _ _))) (by omega) (fun f hf => by have := B9.out f hf; omega) (by rw [Hns.out, HQ1.out])).mono ?_
        rintro e v16 ⟨⟨num', text', v', a', fn', fc', fb'⟩, rfl, _, _, l16⟩
        have S16 := hide ((Later.alloc v15 (.cells #[.int .i64 num, .bool text, .int .u64 v, .slice a fn fc] 34)).trans l16)
        have L16 := hide (L15.out.trans S16.out)
        have B16 := hide (B15.out.later (l16.trans (Later.alloc v16 (.cells #[.int .i64 num', .bool text', .int .u64 v', .slice a' fn' fc'] 34))))
        have C16 := hide (Box.new v16 34 (.int .i64 num') (.bool text') (.int .u64 v') (.slice a' fn' fc'))
        have hlt16 : v15.heap.size < v16.heap.size := (B15.out.later l16).lt
        clear l16
        simp only
        go_wp2_with (fail)
        refine (find_is A8 n8 c8 ms m p2 b2 _ (H8.out.later (N9.out.trans (R15.out.trans (S16.out.trans (Later.alloc _ _))))) (by omega) (fun f hf => by have := B8.out f hf; omega) (by rw [Hms.out, HQ2.out])).mono ?_
        rintro e v17 ⟨⟨num2, text2, w2, a2, fn2, fc2, fb2⟩, rfl, hg1, hg2, l17⟩
        obtain ⟨rfl, rfl⟩ := pf_eq (Hf1.out.trans hg1.symm)
        have B17 := hide (B16.out.later l17)
        have C17 := hide (C16.out.later l17)
        obtain ⟨d0, d1, d2, d3⟩ := B17.out.cell
        obtain ⟨e0, e1, e2, e3⟩ := C17.out.cell
        have s17 := l17.size
        simp at s17
        have fr : ∀ o, v17.frozen? ⟨v16.heap.size, o, none⟩ = false := fun o => by rw [(show Below _ _ _ from l17).frozen (p := ⟨v16.heap.size, o, none⟩) (by simp)]; go_simp
        have L17 := hide (L16.out.trans ((Later.alloc _ _).trans l17))
        have hne : v16.heap.size ≠ v15.heap.size := by omega
        obtain ⟨S1, hS1⟩ : ∃ s, str fb = s := ⟨_, rfl⟩
        obtain ⟨W, hW⟩ : ∃ W : World, W = (((v17.setCell ⟨v16.heap.size, 0, none⟩ (.int .i64 num2)).setCell ⟨v16.heap.size, 1, none⟩ (.bool text2)).setCell ⟨v16.heap.size, 2, none⟩ (.int .u64 v)).setCell ⟨v16.heap.size, 3, none⟩ (.slice a2 fn2 fc2) := ⟨_, rfl⟩
        have hk : ∀ k, k ≠ v16.heap.size → W.heap[k]? = v17.heap[k]? := fun k hk => by
          rw [hW]
          repeat rw [Below.heap_setCell _ _ _ _ hk]
        have q1 : (convert 22 9 (.slice a fn fc)).run Try.prog W = .ok (.string S1) W := by
          rw [← hS1]
          exact run_str _ _ a fn fc fb (holds_set (Hf2.out.2.2.2.later (S16.out.trans ((Later.alloc _ _).trans l17))) C17.out hk)
        have q2 : (convert 22 9 (.slice a2 fn2 fc2)).run Try.prog W = .ok (.string S1) W := by
          rw [← hS1]
          exact run_str _ _ a2 fn2 fc2 fb (holds_set hg2.2.2.2 C17.out hk)
        have K17 : Hid (Below w.heap.size v17 W) := ⟨by rw [hW]; rfl, by rw [hW]; rfl, by rw [hW]; rfl, by rw [hW]; simp [World.setCell], fun k hlt => hk k (by have := L16.out.size; omega)⟩
        rw [hW] at q1 q2
        have HW := hide hW
        have y1 : (S1.toList == S1.toList) = true := by simp
        have y2 : ((v : Int) == (v : Int)) = true := by simp
        have y3 : (b2 == b2) = true := by simp
        clear hg1 hg2 l17 hS1 hk hW
        simp only
        go_wp2_with (fail)
        refine (lives_is _).mono ?_
        rintro e v18 ⟨rfl, l18⟩
        rw [← HW.out] at l18
        have K18 := hide ((L17.out.below (Nat.le_refl _)).trans (K17.out.trans (l18.below (by have := K17.out.size; have := L17.out.size; omega))))
        clear l18
        go_wp2
        go_ret
        exact ⟨rfl, K18.out⟩
    · have H2 := hide (show lightB n2 gs = false by simpa using h2)
      clear h2
      go_enter Try.func7, Try.ntmps7
      go_wp2_with (fail)
      refine (light_is A n c fs true _ HF.out HN.out HFC.out H1.out).mono ?_
      rintro e v1 ⟨rfl, l1⟩
      have L1 := hide l1
      clear l1
      go_wp2_with (fail)
      refine (light_is A2 n2 c2 gs false _ (HG.out.later L1.out) HN2.out HGC.out H2.out).mono ?_
      rintro e v2 ⟨rfl, l2⟩
      have L2 := hide (L1.out.trans l2)
      clear l2
      go_wp2_with (go_at_call 9; refine (lives_is _).mono ?_; rintro e w2 ⟨rfl, b2⟩)
      go_ret
      exact ⟨rfl, L2.out.trans b2⟩
  · have H1 := hide (show lightB n fs = false by simpa using h1)
    clear h1
    go_enter Try.func7, Try.ntmps7
    go_wp2_with (fail)
    refine (light_is A n c fs false _ HF.out HN.out HFC.out H1.out).mono ?_
    rintro e v1 ⟨rfl, l1⟩
    have L1 := hide l1
    clear l1
    go_wp2_with (go_at_call 9; refine (lives_is _).mono ?_; rintro e w2 ⟨rfl, b2⟩)
    go_ret
    exact ⟨rfl, L1.out.trans b2⟩
end Go.Proofs.Ytjfcakpglbpeaaa
