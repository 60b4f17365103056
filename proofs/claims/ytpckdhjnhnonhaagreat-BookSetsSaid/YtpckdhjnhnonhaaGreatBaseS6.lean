/- Texts merged: BkRE, BkRF, BkRG, BkRH, BkRI, OrderS, OrderV, SagY, BkRJ, BkRK, BkRL, BkRM, BkRN, BkRO, BkRP. -/
import Derived.Test.YtpckdhjnhnonhaaGreatBaseS1
import Derived.Test.YtpckdhjnhnonhaaGreatBaseS2
import Derived.Test.YtpckdhjnhnonhaaGreatBaseS3
import Derived.Test.YtpckdhjnhnonhaaGreatBaseS4
import Derived.Test.YtpckdhjnhnonhaaGreatBaseS5
/- The document's book: Status, Count, open, New. -/
namespace Go.Proofs.YtpckdhjnhnonhaaGreat
open Go.RowKit Go.Maps
section
variable {F : Nat → Prop} {w : World} {g : Nat} {most : Int} {t : BkS}
set_option maxHeartbeats 4000000 in
set_option maxRecDepth 100000 in
theorem rstatus_any (h : RBookAt F w g most t) (hn : t.L.length ≤ 1000000) {id : Int} : Calls Tryz.prog 15 #[.pointer (some ⟨g, 0, none⟩), .int .i64 id] w (Gives (statusF t.L id).val w) := by
  obtain ⟨W1, hW1⟩ : ∃ W1, W1 = w.alloc (.cells #[.int .i64 0, .int .i64 0, .int .i64 0, .int .i64 0] 44 (0, 0)) := ⟨_, rfl⟩
  obtain ⟨y, hy⟩ : ∃ y, y = w.heap.size := ⟨_, rfl⟩
  have Y1 : Hid (RBox y (errR 0) W1) := by rw [hW1, hy]; exact heap_alloc_new _ _
  have L1 : Hid (Later w W1) := by rw [hW1]; exact (Below.refl _ _).alloc (Nat.le_refl _) _
  have HY : Hid (w.heap.size ≤ y) := Nat.le_of_eq hy.symm
  have C := hide (rsaga_any (id := id) (h.later L1.out) hn)
  rw [status_at t.L t.last id]
  change Calls _ _ _ _ (Gives (if atB t id then (⟨0, id, (atS t id).st, (atS t id).step⟩ : RepD) else errR 8).val w)
  obtain ⟨s, hs⟩ : ∃ s, atS t id = s := ⟨_, rfl⟩
  obtain ⟨l, hl⟩ : ∃ l, atL t id = l := ⟨_, rfl⟩
  obtain ⟨q, hq⟩ : ∃ q, atB t id = q := ⟨_, rfl⟩
  rw [hs, hl, hq] at C
  rw [hs, hq]
  have HW1 := hide hW1.symm
  have HG := hide hy.symm
  clear h hn hW1 hy hs hl hq
  cases q with
  | true =>
    rw [if_pos rfl]
    obtain ⟨st, hst⟩ : ∃ st, s.st = st := ⟨_, rfl⟩
    obtain ⟨sp, hsp⟩ : ∃ sp, s.step = sp := ⟨_, rfl⟩
    rw [hst, hsp]
    have HST := hide hst
    have HSP := hide hsp
    clear hst hsp
    go_enter Tryz.func15, Tryz.ntmps15
    go_wp2_with (fail)
    simp only [HW1.out, HG.out]
    refine C.out.mono ?_
    rintro e w2 ⟨p, n, c, rfl, hs, hl2⟩
    obtain ⟨s2, hs2⟩ : ∃ s2, s.withV p n c = s2 := ⟨_, rfl⟩
    have E2 : Hid (s2.st = st) := by show s2.st = st; rw [← hs2]; exact HST.out
    have E3 : Hid (s2.step = sp) := by show s2.step = sp; rw [← hs2]; exact HSP.out
    rw [hs2]
    have L2a : Later w W1 := L1.out
    have L2 : Hid (Later w w2) := Later.trans L2a hl2
    have Y2 : Hid (RBox y (errR 0) w2) := Y1.out.below hl2
    have T2 : Hid (SBox 39 w2.heap.size SagaD.zero (w2.alloc (.cells #[.string ⟨#[]⟩, .slice none 0 0, .int .i64 0, .int .i64 0, .int .i64 0, .bool false, .bool false, .bool false, .bool false, .bool false, .bool false, .bool false, .bool false] 39 (0, 0)))) := heap_alloc_new _ _
    have L2b : Hid (Later w2 (w2.alloc (.cells #[.string ⟨#[]⟩, .slice none 0 0, .int .i64 0, .int .i64 0, .int .i64 0, .bool false, .bool false, .bool false, .bool false, .bool false, .bool false, .bool false, .bool false] 39 (0, 0)))) := (Below.refl _ _).alloc (Nat.le_refl _) _
    clear hs hl2 C L2a hs2
    go_wp2_with (refine wpList_rstore_saga (s := s2) (by rfl) _ _ (by rfl) (by rfl) T2.out (by rfl) ?_)
    intro w3 X3 G3
    have L3 : Hid (Later w2 w3) := L2b.out.grown G3 (by simp) (fun k hk => by have := Option.some.inj hk; omega)
    have c2 := SBox.c2 X3
    have c3 := SBox.c3 X3
    have Y3 : Hid (RBox y (errR 0) w3) := Y2.out.below L3.out
    have L4a : Later w w2 := L2.out
    have L4b : Later w2 w3 := L3.out
    have L4 : Hid (Later w w3) := Later.trans L4a L4b
    clear X3 G3 L4a L4b
    rw [E2.out] at c2
    rw [E3.out] at c3
    go_wp2_with (refine wpList_store_rep (r := ⟨0, id, st, sp⟩) (by rfl) _ _ (by rfl) (by rfl) Y3.out (by rfl) ?_)
    intro w5 Z5 G5
    have HLF : Hid (Later w w5) := L4.out.grown G5 (Below.size L4.out) (fun k hk => by have := Option.some.inj hk; have := HY.out; omega)
    have HZ5 := hide Z5
    clear Z5 G5
    go_wp2
    refine bodyPost_ret (results_cell_row Tryz.results15 _ _ y 44 _ (0, 0) _ (by rfl) HZ5.out Tryz.underlying44 (by rfl) (by kernel_rfl)) (by rfl) ?_
    exact ⟨rfl, HLF.out⟩
  | false =>
    rw [if_neg (by simp)]
    go_enter Tryz.func15, Tryz.ntmps15
    go_wp2_with (fail)
    simp only [HW1.out, HG.out]
    refine C.out.mono ?_
    rintro e w2 ⟨p, n, c, rfl, hs, hl2⟩
    obtain ⟨s2, hs2⟩ : ∃ s2, s.withV p n c = s2 := ⟨_, rfl⟩
    rw [hs2]
    have L2a : Later w W1 := L1.out
    have L2 : Hid (Later w w2) := Later.trans L2a hl2
    have Y2 : Hid (RBox y (errR 0) w2) := Y1.out.below hl2
    have T2 : Hid (SBox 39 w2.heap.size SagaD.zero (w2.alloc (.cells #[.string ⟨#[]⟩, .slice none 0 0, .int .i64 0, .int .i64 0, .int .i64 0, .bool false, .bool false, .bool false, .bool false, .bool false, .bool false, .bool false, .bool false] 39 (0, 0)))) := heap_alloc_new _ _
    have L2b : Hid (Later w2 (w2.alloc (.cells #[.string ⟨#[]⟩, .slice none 0 0, .int .i64 0, .int .i64 0, .int .i64 0, .bool false, .bool false, .bool false, .bool false, .bool false, .bool false, .bool false, .bool false] 39 (0, 0)))) := (Below.refl _ _).alloc (Nat.le_refl _) _
    clear hs hl2 C L2a hs2
    go_wp2_with (refine wpList_rstore_saga (s := s2) (by rfl) _ _ (by rfl) (by rfl) T2.out (by rfl) ?_)
    intro w3 X3 G3
    have L3 : Hid (Later w2 w3) := L2b.out.grown G3 (by simp) (fun k hk => by have := Option.some.inj hk; omega)
    have Y3 : Hid (RBox y (errR 0) w3) := Y2.out.below L3.out
    have L4a : Later w w2 := L2.out
    have L4b : Later w2 w3 := L3.out
    have L4 : Hid (Later w w3) := Later.trans L4a L4b
    clear X3 G3 L4a L4b
    go_wp2_with (refine wpList_store_rep (r := errR 8) (by rfl) _ _ (by rfl) (by rfl) Y3.out (by rfl) ?_)
    intro w5 Z5 G5
    have HLF : Hid (Later w w5) := L4.out.grown G5 (Below.size L4.out) (fun k hk => by have := Option.some.inj hk; have := HY.out; omega)
    have HZ5 := hide Z5
    clear Z5 G5
    go_wp2
    refine bodyPost_ret (results_cell_row Tryz.results15 _ _ y 44 _ (0, 0) _ (by rfl) HZ5.out Tryz.underlying44 (by rfl) (by kernel_rfl)) (by rfl) ?_
    exact ⟨rfl, HLF.out⟩
theorem count_take (p : Ent → Bool) (L : List Ent) {q : Nat} {y : Ent} (hy : L[q]? = some y) : (L.take (q + 1)).countP p = (L.take q).countP p + (if p y then 1 else 0) := by
  rw [List.take_add_one, hy, List.countP_append]
  simp [List.countP_cons]
set_option maxHeartbeats 8000000 in
set_option maxRecDepth 100000 in
theorem rcount_any (st : Int) (h : RBookAt F w g most t) (hn : t.L.length ≤ 1000000) : Calls Tryz.prog 17 #[.pointer (some ⟨g, 0, none⟩), .int .i64 st] w (Gives (.int .i64 ((stateN t.L st : Nat) : Int)) w) := by
  obtain ⟨A, c, f, hc, hf, _⟩ := h.body
  have c2 := cell_of_row w g 2 _ _ _ hc
  simp only [List.getElem?_toArray, List.getElem?_cons_succ, List.getElem?_cons_zero] at c2
  have HF := hide hf
  obtain ⟨n, hn2⟩ : ∃ n, t.L.length = n := ⟨_, rfl⟩
  rw [hn2] at c2 HF hn
  have HN := hide hn2
  clear h hc hf hn2
  go_enter Tryz.func17, Tryz.ntmps17
  go_wp2
  go_loopw [5, 13] (fun s5 i wr => ∃ q k : Nat, q ≤ n ∧ k ≤ q ∧ i = .int .i64 (q : Int) ∧ s5 = .int .i64 (k : Int) ∧ Hid (k = (t.L.take q).countP fun x => x.s.st == st) ∧ Hid (Later w wr)) (fun _ i _ => n - (Go.RowKit.intOf i).toNat)
  case atStart => exact ⟨0, 0, by omega, by omega, rfl, rfl, rfl, Later.refl _⟩
  case round =>
    obtain ⟨q, k, hq, hkq, rfl, rfl, HB, LR⟩ := hrel
    by_cases hqn : q < n
    · obtain ⟨b, off, c', hv, _, _, hb, hr⟩ := FlatAt.elem (HF.out.kept (Kept.of_below LR.out F)) hqn
      obtain ⟨rfl, rfl⟩ : A = some ⟨b, off, none⟩ ∧ c = c' := by injection hv with e1 _ e3; exact ⟨e1, e3⟩
      obtain ⟨y, hy⟩ : ∃ y, t.L[q]? = some y := ⟨t.L[q]'(by rw [HN.out]; exact hqn), List.getElem?_eq_getElem _⟩
      rw [flat_get (itemC f) 14 t.L q y (fun z _ => itemC_len f z) hy] at hr
      have HR := hide hr
      have HCT := hide (count_take (fun x => x.s.st == st) t.L hy)
      have I5 : Hid (IBox wr.heap.size (.int .i64 0 :: SagaD.zero.cells) (wr.alloc (.cells #[.int .i64 0, .string ⟨#[]⟩, .slice none 0 0, .int .i64 0, .int .i64 0, .int .i64 0, .bool false, .bool false, .bool false, .bool false, .bool false, .bool false, .bool false, .bool false] 73 (0, 0)))) := heap_alloc_new _ _
      have L5a : Hid (Later wr (wr.alloc (.cells #[.int .i64 0, .string ⟨#[]⟩, .slice none 0 0, .int .i64 0, .int .i64 0, .int .i64 0, .bool false, .bool false, .bool false, .bool false, .bool false, .bool false, .bool false, .bool false] 73 (0, 0)))) := (Below.refl _ _).alloc (Nat.le_refl _) _
      clear hv hr hy
      go_wp2_with (first | (refine wpList_val rfl (by rfl) (exec_load_item _ (by rfl) (by rfl) HR.out) ?_) | (refine wpList_store_item (f := f) (y := y) (by rfl) _ _ (by rfl) (by rfl) I5.out (by rfl) ?_))
      intro w5 Z5 G5
      have L5 : Hid (Later wr w5) := L5a.out.grown G5 (by simp) (fun k hk => by have b1 := Option.some.inj hk; omega)
      have L6 : Hid (Later w w5) := Later.trans (show Later w wr from LR.out) L5.out
      have c3 : w5.cell? ⟨wr.heap.size, 3, none⟩ = some (.int .i64 y.s.st) := cell_of_row w5 _ 3 _ _ _ Z5
      obtain ⟨q1, hq1⟩ : ∃ q, (y.s.st == st) = q := ⟨_, rfl⟩
      have HQ1 := hide hq1
      have t1 := hq1
      generalize y.s.st = u1 at c3 t1
      clear Z5 G5 I5 L5a hq1
      cases q1 with
      | true =>
        go_wp2
        go_roundw
        case rel => exact ⟨q + 1, k + 1, by omega, by omega, by go_num, by go_num, (by
          show k + 1 = _
          rw [HCT.out, HQ1.out, ← HB.out]
          rfl), L6⟩
        case measure => simp [Go.RowKit.intOf]; omega
      | false =>
        go_wp2
        go_roundw
        case rel => exact ⟨q + 1, k, by omega, by omega, by go_num, rfl, (by
          show k = _
          rw [HCT.out, HQ1.out, ← HB.out]
          rfl), L6⟩
        case measure => simp [Go.RowKit.intOf]; omega
    · obtain rfl : q = n := by omega
      have HK : Hid (stateN t.L st = k) := by
        show stateN t.L st = k
        have b1 := HB.out
        rw [List.take_of_length_le (by rw [HN.out]; omega)] at b1
        exact b1.symm
      go_wp2
      go_ret
      exact ⟨by rw [HK.out]; rfl, LR.out⟩
theorem open_two (L : List Ent) : openN L = stateN L 1 + stateN L 2 := by
  unfold openN stateN
  induction L with
  | nil => rfl
  | cons x r ih =>
    rw [List.countP_cons, List.countP_cons, List.countP_cons, ih]
    unfold Ent.isOpen
    by_cases h1 : x.s.st = 1
    · simp [h1]; omega
    · by_cases h2 : x.s.st = 2
      · simp [h2]; omega
      · simp [h1, h2]
set_option maxHeartbeats 4000000 in
set_option maxRecDepth 100000 in
theorem ropen_any (h : RBookAt F w g most t) (hn : t.L.length ≤ 1000000) : Calls Tryz.prog 49 #[.pointer (some ⟨g, 0, none⟩)] w (Gives (.int .i64 ((openN t.L : Nat) : Int)) w) := by
  have C1 := hide (rcount_any 1 h hn)
  have C2 : Hid (∀ W, Later w W → Calls Tryz.prog 17 #[.pointer (some ⟨g, 0, none⟩), .int .i64 2] W (Gives (.int .i64 ((stateN t.L 2 : Nat) : Int)) W)) := fun W hW => rcount_any 2 (h.later hW) hn
  have h1 : stateN t.L 1 ≤ t.L.length := List.countP_le_length
  have h2 : stateN t.L 2 ≤ t.L.length := List.countP_le_length
  rw [open_two]
  obtain ⟨a, ha⟩ : ∃ a, stateN t.L 1 = a := ⟨_, rfl⟩
  obtain ⟨b, hb⟩ : ∃ b, stateN t.L 2 = b := ⟨_, rfl⟩
  rw [ha] at C1 h1 ⊢
  rw [hb] at C2 h2 ⊢
  have a9 : a ≤ 1000000 := by omega
  have b9 : b ≤ 1000000 := by omega
  clear h hn h1 h2 ha hb
  go_enter Tryz.func49, Tryz.ntmps49
  go_wp2_with (fail)
  refine C1.out.mono ?_
  rintro e w2 ⟨rfl, hl⟩
  have L2 : Hid (Later w w2) := hl
  clear hl C1
  go_wp2_with (fail)
  refine (C2.out _ L2.out).mono ?_
  rintro e w3 ⟨rfl, hl⟩
  have L3 : Hid (Later w w3) := Later.trans (show Later w w2 from L2.out) hl
  clear hl C2
  go_wp2
  go_ret
  exact ⟨by rw [Int.natCast_add]; rfl, L3.out⟩
set_option maxHeartbeats 400000 in
theorem rnew_no (most : Int) (w : World) (h : most < 0 ∨ 32 < most) : Calls Tryz.prog 8 #[.int .i64 most] w fun e w' => e = .returned (.pointer none) ∧ w = w' := by
  by_cases h0 : most < 0
  · clear h
    go_enter Tryz.func8, Tryz.ntmps8
    go_wp2
    go_ret
    exact ⟨rfl, rfl⟩
  · have h1 : 32 < most := by omega
    clear h
    go_enter Tryz.func8, Tryz.ntmps8
    go_wp2
    go_ret
    exact ⟨rfl, rfl⟩
def RNewBook (w : World) (most : Int) (e : Ending) (w' : World) : Prop := ∃ g, e = .returned (.pointer (some ⟨g, 0, none⟩)) ∧ w.heap.size ≤ g ∧ Later w w' ∧ ∀ F : Nat → Prop, ¬ F g → RBookAt F w' g most ⟨0, []⟩
set_option maxHeartbeats 400000 in
theorem rnew_yes (most : Int) (w : World) (h0 : 0 ≤ most) (h1 : most ≤ 32) : Calls Tryz.prog 8 #[.int .i64 most] w (RNewBook w most) := by
  go_enter Tryz.func8, Tryz.ntmps8
  go_wp2
  go_ret
  exact ⟨w.heap.size, rfl, by omega, (Below.refl _ _).alloc (Nat.le_refl _) _, fun F hg => ⟨⟨none, 0, fun _ => ⟨none, 0, 0⟩, heap_alloc_new w _, FlatAt.nil_ _ _ _, by simp⟩, ⟨.nil, by simp, by decide, by decide⟩, hg⟩⟩
end
end Go.Proofs.YtpckdhjnhnonhaaGreat
/- The document's book: put. -/
namespace Go.Proofs.YtpckdhjnhnonhaaGreat
open Go.RowKit Go.Maps
theorem putE_app (x y : Ent) : ∀ (M : List Ent), RiseE (M ++ [y]) → (∃ z ∈ M, x.id ≤ z.id) → putE x (M ++ [y]) = putE x M ++ [y]
  | [], _, h => by obtain ⟨z, hz, _⟩ := h; cases hz
  | z :: r, hr, h => by
    obtain ⟨h1, h2⟩ := List.pairwise_cons.1 (show RiseE (z :: (r ++ [y])) from hr)
    rw [List.cons_append]
    unfold putE
    by_cases a : z.id < x.id
    · rw [if_pos a, if_pos a, List.cons_append]
      congr 1
      refine putE_app x y r h2 ?_
      obtain ⟨v, hv, hv2⟩ := h
      rcases List.mem_cons.1 hv with rfl | hv
      · omega
      · exact ⟨v, hv, hv2⟩
    · rw [if_neg a, if_neg a]
      by_cases b : z.id = x.id
      · rw [if_pos b, if_pos b, List.cons_append]
      · rw [if_neg b, if_neg b, List.cons_append, List.cons_append]
theorem putE_first (x y : Ent) : ∀ (M : List Ent), (∀ z ∈ M, z.id < x.id) → x.id ≤ y.id → putE x (M ++ [y]) = M ++ [x] ++ (if y.id = x.id then [] else [y])
  | [], _, h => by
    rw [List.nil_append]
    unfold putE
    rw [if_neg (by omega)]
    by_cases b : y.id = x.id
    · rw [if_pos b, if_pos b]; rfl
    · rw [if_neg b, if_neg b]; rfl
  | z :: r, h, hy => by
    rw [List.cons_append]
    unfold putE
    rw [if_pos (h z (by simp)), putE_first x y r (fun v hv => h v (by simp [hv])) hy]
    rfl
def PutSo (x : Ent) (L : List Ent) (q : Nat) (done : Bool) (M : List Ent) : Prop :=
  if done then M = putE x (L.take q) ∧ ∃ z ∈ L.take q, x.id ≤ z.id else M = L.take q ∧ ∀ z ∈ L.take q, z.id < x.id
theorem take_rise {L : List Ent} (h : RiseE L) (q : Nat) : RiseE (L.take q) := h.sublist (List.take_sublist q L)
theorem PutSo.on {x : Ent} {L : List Ent} {q : Nat} {M : List Ent} {y : Ent} (h : PutSo x L q true M) (hr : RiseE L) (hy : L[q]? = some y) : PutSo x L (q + 1) true (M ++ [y]) ∧ y.id ≠ x.id := by
  obtain ⟨h1, z, hz, hzx⟩ := h
  have ht : L.take (q + 1) = L.take q ++ [y] := by rw [List.take_add_one, hy]; rfl
  have hr2 := take_rise hr (q + 1)
  rw [ht] at hr2
  refine ⟨⟨?_, z, by rw [ht]; simp [hz], hzx⟩, ?_⟩
  · rw [ht, putE_app x y _ hr2 ⟨z, hz, hzx⟩, h1]
  · have := (List.pairwise_append.1 hr2).2.2 z hz y (by simp)
    omega
theorem PutSo.hit {x : Ent} {L : List Ent} {q : Nat} {M : List Ent} {y : Ent} (h : PutSo x L q false M) (hy : L[q]? = some y) (hge : x.id ≤ y.id) : PutSo x L (q + 1) true (M ++ [x] ++ (if y.id = x.id then [] else [y])) := by
  obtain ⟨h1, h2⟩ := h
  have ht : L.take (q + 1) = L.take q ++ [y] := by rw [List.take_add_one, hy]; rfl
  refine ⟨?_, y, by rw [ht]; simp, hge⟩
  rw [ht, putE_first x y _ h2 hge, h1]
theorem PutSo.below {x : Ent} {L : List Ent} {q : Nat} {M : List Ent} {y : Ent} (h : PutSo x L q false M) (hy : L[q]? = some y) (hlt : y.id < x.id) : PutSo x L (q + 1) false (M ++ [y]) := by
  obtain ⟨h1, h2⟩ := h
  have ht : L.take (q + 1) = L.take q ++ [y] := by rw [List.take_add_one, hy]; rfl
  refine ⟨by rw [ht, h1], fun z hz => ?_⟩
  rw [ht] at hz
  rcases List.mem_append.1 hz with hz | hz
  · exact h2 z hz
  · obtain rfl : z = y := by simpa using hz
    exact hlt
theorem PutSo.end_ {x : Ent} {L : List Ent} {q : Nat} {M : List Ent} (hq : L.length ≤ q) : (PutSo x L q true M → M = putE x L) ∧ (PutSo x L q false M → M ++ [x] = putE x L) := by
  have ht : L.take q = L := List.take_of_length_le hq
  constructor
  · rintro ⟨h1, _⟩
    rw [h1, ht]
  · rintro ⟨h1, h2⟩
    rw [ht] at h1 h2
    rw [h1, putE_last x h2]
theorem itemC_other {f : Int → Loc} {y : Ent} {id : Int} {p : Option Addr} {n c : Nat} (h : y.id ≠ id) : itemC (setLoc f id p n c) y = itemC f y := by
  unfold itemC Ent.sd setLoc
  rw [if_neg h]
theorem itemC_self {f : Int → Loc} {x : Ent} {p : Option Addr} {n c : Nat} : itemC (setLoc f x.id p n c) x = .int .i64 x.id :: (x.s.withV p n c).cells := by
  unfold itemC Ent.sd setLoc
  simp
section
variable {ops : Array Oper} {rest : List Oper} {op : Oper} {a : Act} {W : World} {Q : Exit → Act → World → Prop} {cs : List Value}
theorem exec_buildSlice_item {i0 : TypeInfo} {zv : Value} {x : Operand} (hi : Tryz.prog.info? 73 = some i0) (hz0 : i0.zero = some zv) (hz1 : i0.size = 14) (ho : op.op = .buildSlice 56 1 #[(0, x)]) (hx : a.eval x = .agg cs.toArray) (hc : cs.length = 14) :
    (execOp a.eval op).run Tryz.prog W = .ok (.value (.slice (some ⟨W.heap.size, 0, none⟩) 1 1)) (W.alloc (.cells cs.toArray 73 (0, 0))) := by
  have hr := run_buildSlice_one (P := Tryz.prog) (w := W) 56 73 i0 zv 14 Tryz.underlying56 hi hz0 hz1 (by decide) (by decide) cs.toArray (by simpa using hc)
  unfold execOp
  simp [ho, hx, hr, Result.andThen]
end
theorem wpList_append_item {ops : Array Oper} {rest : List Oper} {o : Oper} {a : Act} {Q : Exit → Act → World → Prop} {w : World} (hgd : o.guard = none) (s x : Operand)
    (ho : o.op = .call { callee := .builtin .append, args := #[s, x], argTypes := #[56, 56] }) (base : Nat) (i : TypeInfo) (z : Value) (hi : Tryz.prog.info? 73 = some i) (hz : i.zero = some z) (hsize : i.size = 14) (hby : i.bytes = 80) (hzs : z.cells.size = 14)
    (v : Value) (n : Nat) (xs : List Value) (hs : a.eval s = v) (hown : w.ownsRow base 73 14 v n xs) (B : Nat) (cs : List Value) (hx : a.eval x = .slice (some ⟨B, 0, none⟩) 1 1) (hB : w.heap[B]? = some (.cells cs.toArray 73 (0, 0))) (hcs : cs.length = 14) (h1 : ∀ u ∈ cs, u.oneCell' = true) (hn : n ≤ 1000) (hbase : base ≤ w.heap.size)
    (h : ∀ v' w', w'.ownsRow base 73 14 v' (n + 1) (xs ++ cs) → w.grownBy w' v.ownBlock → wpList Tryz.prog ops Q rest (a.put o.dst v') w') : wpList Tryz.prog ops Q (o :: rest) a w :=
  wpList_append_flat w hgd s x 56 ho base 73 i z 14 80 Tryz.underlying56 hi hz hsize hby hzs (by decide) v n xs hs hown (fun _ => True) (some ⟨B, 0, none⟩) 1 1 cs hx
    ⟨by rw [hcs], h1, some ⟨B, 0, none⟩, 1, rfl, Nat.le_refl _, by unfold maxLen; omega, (fun h => by cases h), fun _ => ⟨B, 0, rfl, trivial, lt_of_block hB, fun j u hj => by
      rw [cell_of_row _ _ _ _ _ _ hB, Nat.zero_add]
      simpa using hj⟩⟩ (by unfold maxLen; omega) (by omega) hbase h
end Go.Proofs.YtpckdhjnhnonhaaGreat
/- The document's put. -/
namespace Go.Proofs.YtpckdhjnhnonhaaGreat
open Go.RowKit Go.Maps
theorem rown_later {w w' : World} {base e k n : Nat} {v : Value} {xs : List Value} (h : w.ownsRow base e k v n xs) (hl : Later w w') : w'.ownsRow base e k v n xs := by
  refine ⟨h.1, ?_⟩
  rcases h.2 with hn | ⟨g, cap, cur, rfl, hb, hg, rest⟩
  · exact .inl hn
  · exact .inr ⟨g, cap, cur, rfl, hb, (Below.block hl g (lt_of_block hg)).trans hg, rest⟩
theorem range_box {w : World} {g : Nat} {cs : List Value} (h : IBox g cs w) : w.rangeAt g 0 cs := fun j u hj => by
  rw [cell_of_row _ _ _ _ _ _ h, Nat.zero_add]
  simpa using hj
theorem info_item : (Tryz.prog.info? 73).map (fun i => (i.zero, i.size, i.bytes)) = some (some (.agg #[.int .i64 0, .string ⟨#[]⟩, .slice none 0 0, .int .i64 0, .int .i64 0, .int .i64 0, .bool false, .bool false, .bool false, .bool false, .bool false, .bool false, .bool false, .bool false]), 14, 80) := by kernel_rfl
theorem PutSo.len {x : Ent} {L : List Ent} {q : Nat} {d : Bool} {M : List Ent} (h : PutSo x L q d M) : M.length ≤ q + 1 := by
  have h1 : (L.take q).length ≤ q := by rw [List.length_take]; omega
  cases d with
  | true =>
    obtain ⟨e, _⟩ := h
    rw [e]
    have := putE_len x (L.take q)
    omega
  | false =>
    obtain ⟨e, _⟩ := h
    rw [e]
    omega
theorem items_one (f : Int → Loc) (M : List Ent) : ∀ u ∈ M.flatMap (itemC f), u.oneCell' = true := by
  intro u hu
  obtain ⟨y, _, hy⟩ := List.mem_flatMap.1 hu
  exact itemC_one f y u hy
theorem items_snoc (f : Int → Loc) (M : List Ent) (y : Ent) : (M ++ [y]).flatMap (itemC f) = M.flatMap (itemC f) ++ itemC f y := by simp
structure PutRel (b : Nat) (W1 wr : World) (x : Ent) (f : Int → Loc) (L : List Ent) (q : Nat) (d : Bool) (M : List Ent) (v : Value) : Prop where
  so : PutSo x L q d M
  own : wr.ownsRow b 73 14 v M.length (M.flatMap (itemC f))
  lat : Below b W1 wr
section
variable {b q : Nat} {W1 wr w5 w6 wb : World} {x y : Ent} {f : Int → Loc} {L M : List Ent} {d d' : Bool} {v v' : Value} {C : Obj}
theorem put_own (ho : wr.ownsRow b 73 14 v M.length (M.flatMap (itemC f))) (ha : w6.ownsRow b 73 14 v' (M.length + 1) (M.flatMap (itemC f) ++ itemC f y)) : w6.ownsRow b 73 14 v' (M ++ [y]).length ((M ++ [y]).flatMap (itemC f)) := by
  rw [items_snoc, List.length_append]
  exact ha
theorem put_lat (hl : Below b W1 wr) (hb : b ≤ W1.heap.size) (h5 : Later wr w5) (ho : wr.ownsRow b 73 14 v M.length (M.flatMap (itemC f))) (hg : (w5.alloc C).grownBy w6 v.ownBlock) : Below b W1 w6 := by
  have h1 : Later wr (w5.alloc C) := Later.trans h5 ((Below.refl _ _).alloc (Nat.le_refl _) _)
  have h2 := Below.size hl
  have h3 := Below.size h1
  exact Below.trans hl (Below.trans (Below.mono h1 (by omega)) (later_own (rown_later ho h1) (by omega) hg))
theorem put_box {g : Nat} {cs : List Value} (ho : wr.ownsRow b 73 14 v M.length (M.flatMap (itemC f))) (hgr : wr.heap.size ≤ g) (hB : IBox g cs w5) (hg : (w5.alloc C).grownBy w6 v.ownBlock) : IBox g cs w6 := by
  have h1 : IBox g cs (w5.alloc C) := (heap_alloc_old _ _ (lt_of_block hB)).trans hB
  refine (hg.block g (lt_of_block h1) (fun e => ?_)).trans h1
  have := (ho.lt g e.symm).2
  omega
end
section
variable {F : Nat → Prop} {w : World} {g : Nat} {most : Int} {t : BkS}
theorem put_done {w6 : World} {A A6 : Option Addr} {c c6 : Nat} {f : Int → Loc} {x : Ent} {p : Option Addr} {n9 c9 : Nat} {b : Nat} (hb : b = w.heap.size + 1) (hc : w.heap[g]? = some (.cells #[.int .i64 most, .int .i64 t.last, .slice A t.L.length c] 58 (0, 0)))
    (hst : ∀ z ∈ t.L, StepsAt F w (f z.id).v z.l) (hok : BkOk t) (hap : ¬ F g) (hs : StepsAt F w (.slice p n9 c9) x.l) (hx : EntOk x ∧ x.id ≤ 4611686018427387904) (hF : ∀ i, w.heap.size ≤ i → F i)
    (hl : Later w w6) (ho : w6.ownsRow b 73 14 (.slice A6 (putE x t.L).length c6) (putE x t.L).length ((putE x t.L).flatMap (itemC (setLoc f x.id p n9 c9)))) :
    RBookAt F (w6.setCell ⟨g, 2, none⟩ (.slice A6 (putE x t.L).length c6)) g most ⟨t.last, putE x t.L⟩ ∧ Turned (· = g) w (w6.setCell ⟨g, 2, none⟩ (.slice A6 (putE x t.L).length c6)) := by
  have hgw := lt_of_block hc
  have hc6 : w6.heap[g]? = some (.cells #[.int .i64 most, .int .i64 t.last, .slice A t.L.length c] 58 (0, 0)) := (Below.block hl g hgw).trans hc
  have hgr := grown_set w6 g 2 (.slice A6 (putE x t.L).length c6)
  have T : Turned (· = g) w (w6.setCell ⟨g, 2, none⟩ (.slice A6 (putE x t.L).length c6)) := Turned.trans (Turned.of_below hl _) (Turned.of_grown hgr fun k e => (Option.some.inj e).symm)
  have hk : Kept F w (w6.setCell ⟨g, 2, none⟩ (.slice A6 (putE x t.L).length c6)) := T.kept fun i hi e => hap (e ▸ hi)
  have hg6 : Kept F w6 (w6.setCell ⟨g, 2, none⟩ (.slice A6 (putE x t.L).length c6)) := (Turned.of_grown (S := (· = g)) hgr fun k e => (Option.some.inj e).symm).kept fun i hi e => hap (e ▸ hi)
  refine ⟨⟨⟨A6, c6, setLoc f x.id p n9 c9, ?_, ?_, fun z hz => ?_⟩, ⟨putE_rise x hok.1, fun z hz => ?_, hok.2.2⟩, hap⟩, T⟩
  · exact heap_setCell_same w6 g 2 _ _ _ hc6
  · exact FlatAt.kept (FlatAt.mono (FlatAt.of_own ho (items_one _ _)) fun i _ hi => hF i (by omega)) hg6
  · by_cases e : z.id = x.id
    · have hz3 : z = x := rise_one (putE_rise x hok.1) hz (putE_mem x t.L) e
      subst hz3
      unfold setLoc
      rw [if_pos rfl]
      exact hs.kept hk
    · rcases mem_putE hz with rfl | hz2
      · exact absurd rfl e
      · unfold setLoc
        rw [if_neg e]
        exact (hst z hz2).kept hk
  · rcases mem_putE hz with rfl | hz2
    · exact hx
    · exact hok.2.1 z hz2
end
end Go.Proofs.YtpckdhjnhnonhaaGreat
/- The document's put, walked. -/
namespace Go.Proofs.YtpckdhjnhnonhaaGreat
open Go.RowKit Go.Maps
theorem range_boxS {w : World} {g : Nat} {T : TypeId} {cs : List Value} (h : w.heap[g]? = some (.cells cs.toArray T (0, 0))) : w.rangeAt g 0 cs := fun j u hj => by
  rw [cell_of_row _ _ _ _ _ _ h, Nat.zero_add]
  simpa using hj
theorem ritem_one (id : Int) (s : SagaD) : ∀ u ∈ Value.int .i64 id :: s.cells, u.oneCell' = true := by
  intro u hu
  rcases List.mem_cons.1 hu with rfl | hu
  · rfl
  · exact s.one u hu
theorem built_ritem (id : Int) (s : SagaD) : Tryz.prog.built 73 [(0, .int .i64 id), (1, s.val)] = some (Value.int .i64 id :: s.cells).toArray := by kernel_rfl
theorem exec_build_ritem {op : Oper} {a : Act} {w : World} (x y : Operand) (ho : op.op = .build 73 #[(0, x), (1, y)]) (id : Int) (s : SagaD) (hx : a.eval x = .int .i64 id) (hy : a.eval y = s.val) :
    (execOp a.eval op).run Tryz.prog w = .ok (.value (.agg (Value.int .i64 id :: s.cells).toArray)) w := by
  unfold execOp
  simp only [ho, hx, hy, List.map_toArray, List.map_cons, List.map_nil, Sem.run_bind, run_build w _ _ _ (built_ritem id s), Result.andThen_ok]
  rfl
theorem PutSo.gt {x y : Ent} {L M : List Ent} {q : Nat} (h : PutSo x L q true M) (hr : RiseE L) (hy : L[q]? = some y) : x.id < y.id := by
  obtain ⟨_, z, hz, hzx⟩ := h
  have ht : L.take (q + 1) = L.take q ++ [y] := by rw [List.take_add_one, hy]; rfl
  have hr2 := take_rise hr (q + 1)
  rw [ht] at hr2
  have := (List.pairwise_append.1 hr2).2.2 z hz y (by simp)
  omega
theorem putSo_zero (x : Ent) (L : List Ent) : PutSo x L 0 false [] := by
  show _ ∧ _
  simp
section
variable {F : Nat → Prop} {w : World} {g : Nat} {most : Int} {t : BkS}
set_option maxHeartbeats 8000000 in
set_option maxRecDepth 100000 in
theorem rput_any {x : Ent} {p : Option Addr} {n9 c9 : Nat} (h : RBookAt F w g most t) (hs : StepsAt F w (.slice p n9 c9) x.l) (hx : EntOk x ∧ x.id ≤ 4611686018427387904) (hF : ∀ i, w.heap.size ≤ i → F i) (hn : t.L.length ≤ 900) :
    Calls Tryz.prog 36 #[.pointer (some ⟨g, 0, none⟩), .int .i64 x.id, (x.s.withV p n9 c9).val] w fun e w' => e = .returned (.tuple #[]) ∧ RBookAt F w' g most ⟨t.last, putE x t.L⟩ ∧ Turned (· = g) w w' := by
  obtain ⟨A, c, f, hc, hf, hst⟩ := h.body
  have hok := h.ok
  have hap := h.apart
  obtain ⟨W1, hW1⟩ : ∃ W1, W1 = w.alloc (.cells (x.s.withV p n9 c9).cells.toArray 39 (0, 0)) := ⟨_, rfl⟩
  obtain ⟨b, hb⟩ : ∃ b, b = w.heap.size + 1 := ⟨_, rfl⟩
  obtain ⟨r, hr⟩ : ∃ r, r = w.heap.size := ⟨_, rfl⟩
  have L1 : Hid (Later w W1) := by rw [hW1]; exact (Below.refl _ _).alloc (Nat.le_refl _) _
  have X1 : Hid (W1.heap[r]? = some (.cells (x.s.withV p n9 c9).cells.toArray 39 (0, 0))) := by rw [hW1, hr]; exact heap_alloc_new _ _
  have HB : Hid (b = W1.heap.size) := by show b = _; rw [hW1, hb]; simp
  have HBW : Hid (b = w.heap.size + 1) := hb
  have HRB : Hid (r + 1 = b) := by show r + 1 = b; omega
  have hcW := (Below.block L1.out g (lt_of_block hc)).trans hc
  have c2 := cell_of_row W1 g 2 _ _ _ hcW
  simp only [List.getElem?_toArray, List.getElem?_cons_succ, List.getElem?_cons_zero] at c2
  have HF1 := hide (hf.kept (Kept.of_below L1.out F))
  have HC := hide hc
  have HCW := hide hcW
  have HGB : Hid (g < b) := by show g < b; have := lt_of_block hc; omega
  have HFIN : Hid (∀ (w6 : World) (A6 : Option Addr) (k c6 : Nat), k = (putE x t.L).length → Later w w6 → w6.ownsRow b 73 14 (.slice A6 k c6) k ((putE x t.L).flatMap (itemC (setLoc f x.id p n9 c9))) → RBookAt F (w6.setCell ⟨g, 2, none⟩ (.slice A6 k c6)) g most ⟨t.last, putE x t.L⟩ ∧ Turned (· = g) w (w6.setCell ⟨g, 2, none⟩ (.slice A6 k c6))) := by
    intro w6 A6 k c6 hk hl ho
    subst hk
    exact put_done hb hc hst hok hap hs hx hF hl ho
  obtain ⟨i0, hi, hz0, hz1, hz2⟩ := info_parts info_item
  have HI := hide hi
  have HZ0 := hide hz0
  have HZ1 := hide hz1
  have HZ2 := hide hz2
  have HOK := hide hok.1
  obtain ⟨n, hn2⟩ : ∃ n, t.L.length = n := ⟨_, rfl⟩
  rw [hn2] at c2 HF1 hn
  have HN := hide hn2
  have HW1 := hide hW1.symm
  have HR := hide hr.symm
  unfold SagaD.cells SagaD.withV at hW1
  have HW2 := hide hW1.symm
  obtain ⟨id, hid⟩ : ∃ id, x.id = id := ⟨_, rfl⟩
  have HID := hide hid
  have XC : Hid (itemC (setLoc f x.id p n9 c9) x = .int .i64 id :: (x.s.withV p n9 c9).cells) := itemC_self.trans (by rw [hid])
  clear h hc hf hst hok hap hs hx hF hi hz0 hz1 hz2 hn2 hW1 hb hr hcW
  rw [hid]
  clear hid
  unfold SagaD.val SagaD.cells SagaD.withV
  go_enter Tryz.func36, Tryz.ntmps36
  rw [← HW2.out] at c2
  go_wp2
  simp only [HW2.out, HR.out] at c2 ⊢
  go_loopw [6, 7, 15] (fun s6 s7 i wr => ∃ (q : Nat) (d : Bool) (M : List Ent) (v : Value), q ≤ n ∧ i = .int .i64 (q : Int) ∧ s7 = .bool d ∧ v = s6 ∧ Hid (PutRel b W1 wr x (setLoc f x.id p n9 c9) t.L q d M v)) (fun _ _ i _ => n - (Go.RowKit.intOf i).toNat)
  case atStart => exact ⟨0, false, [], .slice none 0 0, by omega, rfl, rfl, rfl, ⟨putSo_zero _ _, ⟨by simp, .inl ⟨rfl, rfl⟩⟩, Below.refl _ _⟩⟩
  case round =>
    obtain ⟨q, d, M, v, hq, rfl, rfl, rfl, HR0⟩ := hrel
    have LR : Hid (Later W1 wr) := by
      show Below _ _ _
      rw [← HB.out]
      exact HR0.out.lat
    have HLM := PutSo.len HR0.out.so
    by_cases hqn : q < n
    · obtain ⟨b9, off, c', hv, _, _, hb9, hr⟩ := FlatAt.elem (HF1.out.kept (Kept.of_below LR.out F)) hqn
      obtain ⟨rfl, rfl⟩ : A = some ⟨b9, off, none⟩ ∧ c = c' := by injection hv with e1 _ e3; exact ⟨e1, e3⟩
      obtain ⟨y, hy⟩ : ∃ y, t.L[q]? = some y := ⟨t.L[q]'(by rw [HN.out]; exact hqn), List.getElem?_eq_getElem _⟩
      rw [flat_get (itemC f) 14 t.L q y (fun z _ => itemC_len f z) hy] at hr
      have HRG := hide hr
      have HY := hide hy
      have I5 : Hid (IBox wr.heap.size (.int .i64 0 :: SagaD.zero.cells) (wr.alloc (.cells #[.int .i64 0, .string ⟨#[]⟩, .slice none 0 0, .int .i64 0, .int .i64 0, .int .i64 0, .bool false, .bool false, .bool false, .bool false, .bool false, .bool false, .bool false, .bool false] 73 (0, 0)))) := heap_alloc_new _ _
      have L5a : Hid (Later wr (wr.alloc (.cells #[.int .i64 0, .string ⟨#[]⟩, .slice none 0 0, .int .i64 0, .int .i64 0, .int .i64 0, .bool false, .bool false, .bool false, .bool false, .bool false, .bool false, .bool false, .bool false] 73 (0, 0)))) := (Below.refl _ _).alloc (Nat.le_refl _) _
      clear hv hr hy
      go_wp2_with (first | (refine wpList_val rfl (by rfl) (exec_load_item _ (by rfl) (by rfl) HRG.out) ?_) | (refine wpList_store_item (f := f) (y := y) (by rfl) _ _ (by rfl) (by rfl) I5.out (by rfl) ?_))
      intro w5 Z5 G5
      have L5 : Hid (Later wr w5) := L5a.out.grown G5 (by simp) (fun k hk => by have b1 := Option.some.inj hk; omega)
      have HO5 := hide (rown_later HR0.out.own L5.out)
      have HB5 : Hid (b ≤ w5.heap.size) := Nat.le_trans (Nat.le_of_eq HB.out) (Nat.le_trans (Below.size LR.out) (Below.size L5.out))
      have ZB := hide Z5
      have RG5 := hide (range_box Z5)
      have XR := hide (range_boxS ((Below.block L5.out r (by have := HRB.out; have := HB.out; have := Below.size LR.out; omega)).trans ((Below.block LR.out r (by have := HRB.out; have := HB.out; omega)).trans X1.out)))
      have c0 : w5.cell? ⟨wr.heap.size, 0, none⟩ = some (.int .i64 y.id) := cell_of_row w5 _ 0 _ _ _ Z5
      obtain ⟨yi, hyi⟩ : ∃ i, y.id = i := ⟨_, rfl⟩
      rw [hyi] at c0
      have HYI := hide hyi
      clear Z5 G5 I5 L5a hyi
      cases d with
      | true =>
        have hgt : id < yi := by have := HR0.out.so.gt HOK.out HY.out; rw [HID.out, HYI.out] at this; exact this
        have SO := hide (HR0.out.so.on HOK.out HY.out).1
        have NE : Hid (itemC (setLoc f x.id p n9 c9) y = itemC f y) := itemC_other (HR0.out.so.on HOK.out HY.out).2
        have hge : id ≤ yi := by omega
        have hne : (yi == id) = false := by simp; omega
        go_wp2_with (first
          | (refine wpList_val rfl (by rfl) (exec_load_item _ (by rfl) (by rfl) RG5.out) ?_)
          | (refine wpList_val rfl (by rfl) (exec_buildSlice_item (cs := itemC f y) HI.out HZ0.out HZ1.out (by rfl) (by rfl) (by rfl)) ?_)
          | (at_builtin; refine wpList_append_item (by rfl) (.tmp 37) (.tmp 39) (by rfl) b i0 _ HI.out HZ0.out HZ1.out HZ2.out (by rfl) v M.length (M.flatMap (itemC (setLoc f x.id p n9 c9))) (by rfl) (rown_later HO5.out ((Below.refl _ _).alloc (Nat.le_refl _) _)) _ (itemC f y) (by rfl) (heap_alloc_new _ _) (by rfl) (itemC_one f y) (by omega) (Nat.le_trans HB5.out (Below.size ((Below.refl _ _).alloc (Nat.le_refl _) _))) ?_; intro v6 w6 ow6 gw6; have R6 : Hid (PutRel b W1 w6 x (setLoc f x.id p n9 c9) t.L (q + 1) true (M ++ [y]) v6) := ⟨SO.out, put_own HR0.out.own (by rw [NE.out]; exact ow6), put_lat HR0.out.lat (Nat.le_of_eq HB.out) L5.out HR0.out.own gw6⟩; clear ow6 gw6))
        go_roundw
        case rel => exact ⟨q + 1, true, M ++ [y], _, by omega, by go_num, rfl, rfl, R6.out⟩
        case measure => simp [Go.RowKit.intOf]; omega
      | false =>
        by_cases hge : id ≤ yi
        · have SO0 := hide (HR0.out.so.hit HY.out (by rw [HID.out, HYI.out]; exact hge))
          by_cases he : yi = id
          · have SO : Hid (PutSo x t.L (q + 1) true (M ++ [x])) := by
              have := SO0.out
              rw [if_pos (by rw [HID.out, HYI.out]; exact he), List.append_nil] at this
              exact this
            have he2 : id = yi := he.symm
            clear he
            subst he2
            go_wp2_with (first
          | (refine wpList_val rfl (by rfl) (exec_load_ritem (s := x.s.withV p n9 c9) _ (by rfl) (by rfl) XR.out) ?_)
          | (refine wpList_val rfl (by rfl) (exec_build_ritem _ _ (by rfl) id (x.s.withV p n9 c9) (by rfl) (by rfl)) ?_)
          | (refine wpList_val rfl (by rfl) (exec_buildSlice_item (cs := Value.int .i64 id :: (x.s.withV p n9 c9).cells) HI.out HZ0.out HZ1.out (by rfl) (by rfl) (by rfl)) ?_)
          | (at_builtin; refine wpList_append_item (by rfl) (.tmp 27) (.tmp 31) (by rfl) b i0 _ HI.out HZ0.out HZ1.out HZ2.out (by rfl) v M.length (M.flatMap (itemC (setLoc f x.id p n9 c9))) (by rfl) (rown_later HO5.out ((Below.refl _ _).alloc (Nat.le_refl _) _)) _ (Value.int .i64 id :: (x.s.withV p n9 c9).cells) (by rfl) (heap_alloc_new _ _) (by rfl) (ritem_one _ _) (by omega) (Nat.le_trans HB5.out (Below.size ((Below.refl _ _).alloc (Nat.le_refl _) _))) ?_; intro v6 w6 ow6 gw6; have R6 : Hid (PutRel b W1 w6 x (setLoc f x.id p n9 c9) t.L (q + 1) true (M ++ [x]) v6) := ⟨SO.out, put_own HR0.out.own (by rw [XC.out]; exact ow6), put_lat HR0.out.lat (Nat.le_of_eq HB.out) L5.out HR0.out.own gw6⟩; have Z6 : Hid (IBox wr.heap.size (itemC f y) w6) := put_box HR0.out.own (Nat.le_refl _) ZB.out gw6; have c6 : w6.cell? ⟨wr.heap.size, 0, none⟩ = some (.int .i64 id) := (cell_of_row w6 _ 0 _ _ _ Z6.out).trans (congrArg (fun i => some (Value.int .i64 i)) HYI.out); clear ow6 gw6))
            go_roundw
            case rel => exact ⟨q + 1, true, M ++ [x], _, by omega, by go_num, rfl, rfl, R6.out⟩
            case measure => simp [Go.RowKit.intOf]; omega
          · have SO : Hid (PutSo x t.L (q + 1) true (M ++ [x] ++ [y])) := by
              have := SO0.out
              rw [if_neg (by rw [HID.out, HYI.out]; exact he)] at this
              exact this
            have NE : Hid (itemC (setLoc f x.id p n9 c9) y = itemC f y) := itemC_other (by rw [HID.out, HYI.out]; exact he)
            have HLM2 : Hid ((M ++ [x]).length ≤ q + 2) := by show _ ≤ _; rw [List.length_append]; simp; omega
            have hne : (yi == id) = false := by simpa using he
            go_wp2_with (first
          | (refine wpList_val rfl (by rfl) (exec_load_ritem (s := x.s.withV p n9 c9) _ (by rfl) (by rfl) XR.out) ?_)
          | (refine wpList_val rfl (by rfl) (exec_build_ritem _ _ (by rfl) id (x.s.withV p n9 c9) (by rfl) (by rfl)) ?_)
          | (refine wpList_val rfl (by rfl) (exec_load_item _ (by rfl) (by rfl) RG6.out) ?_)
          | (refine wpList_val rfl (by rfl) (exec_buildSlice_item (cs := Value.int .i64 id :: (x.s.withV p n9 c9).cells) HI.out HZ0.out HZ1.out (by rfl) (by rfl) (by rfl)) ?_)
          | (at_builtin; refine wpList_append_item (by rfl) (.tmp 27) (.tmp 31) (by rfl) b i0 _ HI.out HZ0.out HZ1.out HZ2.out (by rfl) v M.length (M.flatMap (itemC (setLoc f x.id p n9 c9))) (by rfl) (rown_later HO5.out ((Below.refl _ _).alloc (Nat.le_refl _) _)) _ (Value.int .i64 id :: (x.s.withV p n9 c9).cells) (by rfl) (heap_alloc_new _ _) (by rfl) (ritem_one _ _) (by omega) (Nat.le_trans HB5.out (Below.size ((Below.refl _ _).alloc (Nat.le_refl _) _))) ?_; intro v6 w6 ow6 gw6; have OW6 : Hid (w6.ownsRow b 73 14 v6 (M ++ [x]).length ((M ++ [x]).flatMap (itemC (setLoc f x.id p n9 c9)))) := put_own HR0.out.own (by rw [XC.out]; exact ow6); have LT6 : Hid (Below b W1 w6) := put_lat HR0.out.lat (Nat.le_of_eq HB.out) L5.out HR0.out.own gw6; have Z6 : Hid (IBox wr.heap.size (itemC f y) w6) := put_box HR0.out.own (Nat.le_refl _) ZB.out gw6; have c6 : w6.cell? ⟨wr.heap.size, 0, none⟩ = some (.int .i64 yi) := (cell_of_row w6 _ 0 _ _ _ Z6.out).trans (congrArg (fun i => some (Value.int .i64 i)) HYI.out); have RG6 := hide (range_box Z6.out); have HB6 : Hid (b ≤ w6.heap.size) := Nat.le_trans (Nat.le_of_eq HB.out) (Below.size LT6.out); have HLM : (M ++ [x]).length ≤ q + 2 := HLM2.out; clear ow6 gw6)
          | (refine wpList_val rfl (by rfl) (exec_buildSlice_item (cs := itemC f y) HI.out HZ0.out HZ1.out (by rfl) (by rfl) (by rfl)) ?_)
          | (at_builtin; refine wpList_append_item (by rfl) (.tmp 37) (.tmp 39) (by rfl) b i0 _ HI.out HZ0.out HZ1.out HZ2.out (by rfl) v6 (M ++ [x]).length ((M ++ [x]).flatMap (itemC (setLoc f x.id p n9 c9))) (by rfl) (rown_later OW6.out ((Below.refl _ _).alloc (Nat.le_refl _) _)) _ (itemC f y) (by rfl) (heap_alloc_new _ _) (by rfl) (itemC_one f y) (by omega) (Nat.le_trans HB6.out (Below.size ((Below.refl _ _).alloc (Nat.le_refl _) _))) ?_; intro v7 w7 ow7 gw7; have R6 : Hid (PutRel b W1 w7 x (setLoc f x.id p n9 c9) t.L (q + 1) true (M ++ [x] ++ [y]) v7) := ⟨SO.out, put_own OW6.out (by rw [NE.out]; exact ow7), put_lat LT6.out (Nat.le_of_eq HB.out) (Later.refl _) OW6.out gw7⟩; clear ow7 gw7))
            go_roundw
            case rel => exact ⟨q + 1, true, M ++ [x] ++ [y], _, by omega, by go_num, rfl, rfl, R6.out⟩
            case measure => simp [Go.RowKit.intOf]; omega
        · have SO := hide (HR0.out.so.below HY.out (by rw [HID.out, HYI.out]; omega))
          have NE : Hid (itemC (setLoc f x.id p n9 c9) y = itemC f y) := itemC_other (by rw [HID.out, HYI.out]; omega)
          have hne : (yi == id) = false := by simp; omega
          go_wp2_with (first
          | (refine wpList_val rfl (by rfl) (exec_load_item _ (by rfl) (by rfl) RG5.out) ?_)
          | (refine wpList_val rfl (by rfl) (exec_buildSlice_item (cs := itemC f y) HI.out HZ0.out HZ1.out (by rfl) (by rfl) (by rfl)) ?_)
          | (at_builtin; refine wpList_append_item (by rfl) (.tmp 37) (.tmp 39) (by rfl) b i0 _ HI.out HZ0.out HZ1.out HZ2.out (by rfl) v M.length (M.flatMap (itemC (setLoc f x.id p n9 c9))) (by rfl) (rown_later HO5.out ((Below.refl _ _).alloc (Nat.le_refl _) _)) _ (itemC f y) (by rfl) (heap_alloc_new _ _) (by rfl) (itemC_one f y) (by omega) (Nat.le_trans HB5.out (Below.size ((Below.refl _ _).alloc (Nat.le_refl _) _))) ?_; intro v6 w6 ow6 gw6; have R6 : Hid (PutRel b W1 w6 x (setLoc f x.id p n9 c9) t.L (q + 1) false (M ++ [y]) v6) := ⟨SO.out, put_own HR0.out.own (by rw [NE.out]; exact ow6), put_lat HR0.out.lat (Nat.le_of_eq HB.out) L5.out HR0.out.own gw6⟩; clear ow6 gw6))
          go_roundw
          case rel => exact ⟨q + 1, false, M ++ [y], _, by omega, by go_num, rfl, rfl, R6.out⟩
          case measure => simp [Go.RowKit.intOf]; omega
    · obtain rfl : q = n := by omega
      have HBR : Hid (b ≤ wr.heap.size) := Nat.le_trans (Nat.le_of_eq HB.out) (Below.size LR.out)
      cases d with
      | true =>
        have hM : M = putE x t.L := (PutSo.end_ (Nat.le_of_eq HN.out)).1 HR0.out.so
        subst hM
        obtain ⟨A6, c6, hv6, _, _, _⟩ := FlatAt.shape (FlatAt.of_own HR0.out.own (items_one _ _))
        subst hv6
        have hcg := (Below.block LR.out g (by have := HGB.out; have := HB.out; omega)).trans HCW.out
        have d2 := cell_of_row wr g 2 _ _ _ hcg
        simp only [List.getElem?_toArray, List.getElem?_cons_succ, List.getElem?_cons_zero] at d2
        have d3 := frozen_of_row wr g 2 _ _ hcg
        clear hcg
        have LW : Hid (Later w wr) := Later.trans (show Later w W1 from L1.out) LR.out
        go_wp2
        refine bodyPost_end (results_none rfl _ _ _) rfl ?_
        exact ⟨rfl, HFIN.out wr A6 _ c6 rfl LW.out HR0.out.own⟩
      | false =>
        have hM : M ++ [x] = putE x t.L := (PutSo.end_ (Nat.le_of_eq HN.out)).2 HR0.out.so
        have HM := hide hM
        have XR := hide (range_boxS ((Below.block LR.out r (by have := HRB.out; have := HB.out; omega)).trans X1.out))
        clear hM
        go_wp2_with (first
          | (refine wpList_val rfl (by rfl) (exec_load_ritem (s := x.s.withV p n9 c9) _ (by rfl) (by rfl) XR.out) ?_)
          | (refine wpList_val rfl (by rfl) (exec_build_ritem _ _ (by rfl) id (x.s.withV p n9 c9) (by rfl) (by rfl)) ?_)
          | (refine wpList_val rfl (by rfl) (exec_buildSlice_item (cs := Value.int .i64 id :: (x.s.withV p n9 c9).cells) HI.out HZ0.out HZ1.out (by rfl) (by rfl) (by rfl)) ?_)
          | (at_builtin; refine wpList_append_item (by rfl) (.tmp 44) (.tmp 48) (by rfl) b i0 _ HI.out HZ0.out HZ1.out HZ2.out (by rfl) v M.length (M.flatMap (itemC (setLoc f x.id p n9 c9))) (by rfl) (rown_later HR0.out.own ((Below.refl _ _).alloc (Nat.le_refl _) _)) _ (Value.int .i64 id :: (x.s.withV p n9 c9).cells) (by rfl) (heap_alloc_new _ _) (by rfl) (ritem_one _ _) (by omega) (Nat.le_trans HBR.out (Below.size ((Below.refl _ _).alloc (Nat.le_refl _) _))) ?_; intro v6 w6 ow6 gw6; have OW6 : Hid (w6.ownsRow b 73 14 v6 (M ++ [x]).length ((M ++ [x]).flatMap (itemC (setLoc f x.id p n9 c9)))) := put_own HR0.out.own (by rw [XC.out]; exact ow6); have LT6 : Hid (Below b W1 w6) := put_lat HR0.out.lat (Nat.le_of_eq HB.out) (Later.refl _) HR0.out.own gw6; obtain ⟨A6, c6, hv6, _, _, _⟩ := FlatAt.shape (FlatAt.of_own OW6.out (items_one _ _)); subst hv6; have hcg := (Below.block LT6.out g HGB.out).trans HCW.out; have d2 := cell_of_row w6 g 2 _ _ _ hcg; simp only [List.getElem?_toArray, List.getElem?_cons_succ, List.getElem?_cons_zero] at d2; have d3 := frozen_of_row w6 g 2 _ _ hcg; clear hcg; clear ow6 gw6))
        refine bodyPost_end (results_none rfl _ _ _) rfl ?_
        have LW : Later w w6 := Later.trans (show Later w W1 from L1.out) (show Below W1.heap.size W1 w6 from HB.out ▸ LT6.out)
        have o9 := OW6.out
        have hk : M.length + 1 = (putE x t.L).length := by rw [← HM.out]; simp
        rw [HM.out, ← hk] at o9
        exact ⟨rfl, HFIN.out w6 A6 _ c6 hk LW o9⟩
end
end Go.Proofs.YtpckdhjnhnonhaaGreat
/- The document's Open, Ids. -/
namespace Go.Proofs.YtpckdhjnhnonhaaGreat
open Go.RowKit Go.Maps
theorem one_set {A : Array Value} (h : A.size = 1) (v : Value) : A.setIfInBounds 0 v = #[v] := by
  apply Array.ext
  · simp [h]
  · intro i h1 h2
    have h3 : i = 0 := by simp at h2; omega
    subst h3
    simp
section
variable {ops : Array Oper} {rest : List Oper} {op : Oper} {a : Act} {W : World} {Q : Exit → Act → World → Prop} {i0 : TypeInfo}
theorem exec_buildSlice_int {x : Operand} {n : Int} (hi : Tryz.prog.info? 3 = some i0) (hz0 : i0.zero = some (.int .i64 0)) (hz1 : i0.size = 1) (ho : op.op = .buildSlice 63 1 #[(0, x)]) (hx : a.eval x = .int .i64 n) :
    (execOp a.eval op).run Tryz.prog W = .ok (.value (.slice (some ⟨W.heap.size, 0, none⟩) 1 1)) (W.alloc (.cells #[.int .i64 n] 3 (0, 0))) := by
  have hr : (Instr.buildSlice 63 1 #[(0, .int .i64 n)]).run Tryz.prog W = .ok (.slice (some ⟨W.heap.size, 0, none⟩) 1 1) (W.alloc (.cells #[.int .i64 n] 3 (0, 0))) := by
    simp [Instr.buildSlice, run_underlying Tryz.underlying63, sizeOf, typeInfo, hi, hz1, zeroValue, hz0, Instr.fill, Value.cells, newRow]
    rw [one_set (by simp)]
  unfold execOp
  simp [ho, hx, hr, Result.andThen]
theorem wpList_append_int1 {w : World} (hgd : op.guard = none) (s x : Operand)
    (ho : op.op = .call { callee := .builtin .append, args := #[s, x], argTypes := #[63, 63] }) (base : Nat) (hi : Tryz.prog.info? 3 = some i0) (hz : i0.zero = some (.int .i64 0)) (hsize : i0.size = 1) (hby : i0.bytes = 8)
    (v : Value) (n : Nat) (xs : List Value) (hs : a.eval s = v) (hown : w.ownsRow base 3 1 v n xs) (B : Nat) (z : Int) (hx : a.eval x = .slice (some ⟨B, 0, none⟩) 1 1) (hB : w.heap[B]? = some (.cells #[.int .i64 z] 3 (0, 0))) (hn : n ≤ 1000) (hbase : base ≤ w.heap.size)
    (h : ∀ v' w', w'.ownsRow base 3 1 v' (n + 1) (xs ++ [.int .i64 z]) → w.grownBy w' v.ownBlock → wpList Tryz.prog ops Q rest (a.put op.dst v') w') : wpList Tryz.prog ops Q (op :: rest) a w :=
  wpList_append_flat w hgd s x 63 ho base 3 i0 _ 1 8 Tryz.underlying63 hi hz hsize hby (by rfl) (by decide) v n xs hs hown (fun _ => True) (some ⟨B, 0, none⟩) 1 1 [.int .i64 z] hx
    ⟨rfl, (fun u hu => by obtain rfl : u = _ := (by simpa using hu); rfl), some ⟨B, 0, none⟩, 1, rfl, Nat.le_refl _, by unfold maxLen; omega, (fun h => by cases h), fun _ => ⟨B, 0, rfl, trivial, lt_of_block hB, fun j u hj => by
      rw [cell_of_row _ _ _ _ _ _ hB, Nat.zero_add]
      simpa using hj⟩⟩ (by unfold maxLen; omega) (by omega) hbase h
end
set_option maxHeartbeats 400000 in
theorem ropen1_any (s : SagaD) (w : World) : Calls Tryz.prog 50 #[s.val] w (Gives (.bool (decide (s.st = 1) || decide (s.st = 2))) w) := by
  unfold SagaD.val SagaD.cells
  by_cases h1 : s.st = 1
  · have H : Hid ((decide (s.st = 1) || decide (s.st = 2)) = true) := by show _ = _; simp [h1]
    go_enter Tryz.func50, Tryz.ntmps50
    go_wp2
    go_ret
    exact ⟨ret_bool H.out.symm, (Below.refl _ _).alloc (Nat.le_refl _) _⟩
  · by_cases h2 : s.st = 2
    · have H : Hid ((decide (s.st = 1) || decide (s.st = 2)) = true) := by show _ = _; simp [h2]
      have e1 : (s.st == 1) = false := by simpa using h1
      go_enter Tryz.func50, Tryz.ntmps50
      go_wp2
      go_ret
      exact ⟨ret_bool H.out.symm, (Below.refl _ _).alloc (Nat.le_refl _) _⟩
    · have H : Hid ((decide (s.st = 1) || decide (s.st = 2)) = false) := by show _ = _; simp [h1, h2]
      have e1 : (s.st == 1) = false := by simpa using h1
      have e2 : (s.st == 2) = false := by simpa using h2
      go_enter Tryz.func50, Tryz.ntmps50
      go_wp2
      go_ret
      exact ⟨ret_bool H.out.symm, (Below.refl _ _).alloc (Nat.le_refl _) _⟩
section
variable {F : Nat → Prop} {w : World} {g : Nat} {most : Int} {t : BkS}
set_option maxHeartbeats 4000000 in
set_option maxRecDepth 100000 in
theorem rids_any (h : RBookAt F w g most t) (hn : t.L.length ≤ 900) (hfit : Fit (idsOf t.L)) : Calls Tryz.prog 41 #[.pointer (some ⟨g, 0, none⟩)] w (NewInts w (idsOf t.L)) := by
  obtain ⟨A, c, f, hc, hf, _⟩ := h.body
  have c2 := cell_of_row w g 2 _ _ _ hc
  simp only [List.getElem?_toArray, List.getElem?_cons_succ, List.getElem?_cons_zero] at c2
  have HF := hide hf
  obtain ⟨i0, hi, hz0, hz1, hz2⟩ := info_parts Tryz.infoI64
  have HI := hide hi
  have HZ0 := hide hz0
  have HZ1 := hide hz1
  have HZ2 := hide hz2
  have HFIT := hide hfit
  obtain ⟨n, hn2⟩ : ∃ n, t.L.length = n := ⟨_, rfl⟩
  rw [hn2] at c2 HF hn
  have HN := hide hn2
  clear h hc hf hn2 hi hz0 hz1 hz2 hfit
  go_enter Tryz.func41, Tryz.ntmps41
  go_wp2
  go_loopw [3, 11] (fun s3 i wr => ∃ (q : Nat) (v : Value), q ≤ n ∧ i = .int .i64 (q : Int) ∧ v = s3 ∧ Hid (wr.ownsRow w.heap.size 3 1 v q (ivs (idsOf (t.L.take q)))) ∧ Hid (Later w wr)) (fun _ i _ => n - (Go.RowKit.intOf i).toNat)
  case atStart => exact ⟨0, .slice none 0 0, by omega, rfl, rfl, ⟨by simp [ivs, idsOf], .inl ⟨rfl, rfl⟩⟩, Later.refl _⟩
  case round =>
    obtain ⟨q, v, hq, rfl, rfl, HO, LR⟩ := hrel
    by_cases hqn : q < n
    · obtain ⟨b, off, c', hv, _, _, hb, hr⟩ := FlatAt.elem (HF.out.kept (Kept.of_below LR.out F)) hqn
      obtain ⟨rfl, rfl⟩ : A = some ⟨b, off, none⟩ ∧ c = c' := by injection hv with e1 _ e3; exact ⟨e1, e3⟩
      obtain ⟨y, hy⟩ : ∃ y, t.L[q]? = some y := ⟨t.L[q]'(by rw [HN.out]; exact hqn), List.getElem?_eq_getElem _⟩
      rw [flat_get (itemC f) 14 t.L q y (fun z _ => itemC_len f z) hy] at hr
      have HR := hide hr
      have HT : Hid (ivs (idsOf (t.L.take (q + 1))) = ivs (idsOf (t.L.take q)) ++ [.int .i64 y.id]) := by
        show _ = _
        rw [List.take_add_one, hy]
        simp [ivs, idsOf, iv]
      have I5 : Hid (IBox wr.heap.size (.int .i64 0 :: SagaD.zero.cells) (wr.alloc (.cells #[.int .i64 0, .string ⟨#[]⟩, .slice none 0 0, .int .i64 0, .int .i64 0, .int .i64 0, .bool false, .bool false, .bool false, .bool false, .bool false, .bool false, .bool false, .bool false] 73 (0, 0)))) := heap_alloc_new _ _
      have L5a : Hid (Later wr (wr.alloc (.cells #[.int .i64 0, .string ⟨#[]⟩, .slice none 0 0, .int .i64 0, .int .i64 0, .int .i64 0, .bool false, .bool false, .bool false, .bool false, .bool false, .bool false, .bool false, .bool false] 73 (0, 0)))) := (Below.refl _ _).alloc (Nat.le_refl _) _
      clear hv hr hy
      go_wp2_with (first | (refine wpList_val rfl (by rfl) (exec_load_item _ (by rfl) (by rfl) HR.out) ?_) | (refine wpList_store_item (f := f) (y := y) (by rfl) _ _ (by rfl) (by rfl) I5.out (by rfl) ?_))
      intro w5 Z5 G5
      have L5 : Hid (Later wr w5) := L5a.out.grown G5 (by simp) (fun k hk => by have b1 := Option.some.inj hk; omega)
      have L6 : Hid (Later w w5) := Later.trans (show Later w wr from LR.out) L5.out
      have HO5 := hide (rown_later HO.out L5.out)
      have HB5 : Hid (w.heap.size ≤ w5.heap.size) := Below.size L6.out
      have c0 : w5.cell? ⟨wr.heap.size, 0, none⟩ = some (.int .i64 y.id) := cell_of_row w5 _ 0 _ _ _ Z5
      clear Z5 G5 I5 L5a
      go_wp2_with (first
        | (refine wpList_val rfl (by rfl) (exec_buildSlice_int (n := y.id) HI.out HZ0.out HZ1.out (by rfl) (by rfl)) ?_)
        | (at_builtin; refine wpList_append_int1 (by rfl) (.tmp 15) (.tmp 18) (by rfl) w.heap.size HI.out HZ0.out HZ1.out HZ2.out v q (ivs (idsOf (t.L.take q))) (by rfl) (rown_later HO5.out ((Below.refl _ _).alloc (Nat.le_refl _) _)) _ y.id (by rfl) (heap_alloc_new _ _) (by omega) (Nat.le_trans HB5.out (Below.size ((Below.refl _ _).alloc (Nat.le_refl _) _))) ?_; intro v6 w6 o6 g6; have O6 : Hid (w6.ownsRow w.heap.size 3 1 v6 (q + 1) (ivs (idsOf (t.L.take (q + 1))))) := (by show World.ownsRow _ _ _ _ _ _ _; rw [HT.out]; exact o6); have L7 : Hid (Later w w6) := Below.trans L6.out (Below.trans (Below.mono ((Below.refl _ _).alloc (Nat.le_refl _) _) HB5.out) (later_own (rown_later HO5.out ((Below.refl _ _).alloc (Nat.le_refl _) _)) (Nat.le_trans HB5.out (Below.size ((Below.refl _ _).alloc (Nat.le_refl _) _))) g6)); clear o6 g6))
      go_roundw
      case rel => exact ⟨q + 1, _, by omega, by go_num, rfl, O6.out, L7.out⟩
      case measure => simp [Go.RowKit.intOf]; omega
    · obtain rfl : q = n := by omega
      have O : Hid (wr.ownsRow w.heap.size 3 1 v q (ivs (idsOf t.L))) := by
        have := HO.out
        rw [List.take_of_length_le (by rw [HN.out]; omega)] at this
        exact this
      go_wp2
      go_ret
      obtain ⟨A6, c6, rfl, h1, _, h2⟩ := IHolds.of_own O.out HFIT.out
      exact ⟨A6, q, c6, rfl, O.out, h2, h1, LR.out⟩
end
end Go.Proofs.YtpckdhjnhnonhaaGreat
/- A region whose order is open, some of whose operations write what others read: the writers wait for those; what reads the same in all worlds may come up at once, and so may what all writers wait for. -/
namespace Go.Proofs.YtpckdhjnhnonhaaGreat
open Go.RowKit

section
variable {P : Program} {ops : Array Oper} {Q : Exit → Act → World → Prop} {md : Region.Mode} {S : Nat → Bool}

def wpAnyS (S : Nat → Bool) (P : Program) (md : Region.Mode) (ops : Array Oper) (Q : Exit → Act → World → Prop) : Nat → Array Bool → Act → World → Prop
  | 0, listed, a, w => Region.ready md ops listed = [] ∧ Q .normal a w
  | fuel + 1, listed, a, w =>
    (Region.ready md ops listed = [] → Q .normal a w) ∧
    ∀ i ∈ Region.ready md ops listed, wpOp P ops Q i (fun a' w' => (S i = false → Later w w') ∧ wpAnyS S P md ops Q fuel (listed.setIfInBounds i true) a' w') a w

theorem wpAny_of_S : ∀ (fuel : Nat) (listed : Array Bool) (a : Act) (w : World), wpAnyS S P md ops Q fuel listed a w → wpAny P md ops Q fuel listed a w
  | 0, _, _, _, h => h
  | fuel + 1, _, _, _, h => ⟨h.1, fun i hi => wpOp_mono (fun a' w' h' => wpAny_of_S fuel _ a' w' h'.2) (h.2 i hi)⟩

def Closed (md : Region.Mode) (ops : Array Oper) (listed : Array Bool) : Prop := ∀ m om, ops[m]? = some om → listed.getD m false = true → ∀ e ∈ om.after, Region.binds md e = true → listed.getD e.on false = true
def closedB (md : Region.Mode) (ops : Array Oper) (listed : Array Bool) : Bool :=
  (List.range ops.size).all fun m => !listed.getD m false || (match ops[m]? with | some o => o.after.all (fun e => !Region.binds md e || listed.getD e.on false) | none => true)
theorem closed_spec {listed : Array Bool} (h : closedB md ops listed = true) : Closed md ops listed := by
  intro m om hm hl e he hb
  unfold closedB at h
  rw [List.all_eq_true] at h
  have h1 := h m (by rw [List.mem_range]; exact (Array.getElem?_eq_some_iff.1 hm).1)
  rw [hm, hl] at h1
  simp only [Bool.not_true, Bool.false_or] at h1
  rw [Array.all_eq_true] at h1
  obtain ⟨k, hk, rfl⟩ := Array.mem_iff_getElem.1 he
  have h2 := h1 k hk
  rw [hb] at h2
  simpa using h2
theorem getD_set_listed {listed : Array Bool} {j k : Nat} (h : (listed.setIfInBounds j true).getD k false = true) : k = j ∨ listed.getD k false = true := by
  by_cases e : j = k
  · exact .inl e.symm
  · rw [getD_set_ne false e] at h
    exact .inr h
theorem getD_set_more {listed : Array Bool} {j k : Nat} (h : listed.getD k false = true) : (listed.setIfInBounds j true).getD k false = true := by
  by_cases e : j = k
  · subst e
    have hj : j < listed.size := by
      rcases Nat.lt_or_ge j listed.size with h' | h'
      · exact h'
      · simp [Array.getElem?_eq_none h'] at h
    simp [hj]
  · rw [getD_set_ne false e]
    exact h
theorem Closed.next {listed : Array Bool} (h : Closed md ops listed) {j : Nat} (hj : j ∈ Region.ready md ops listed) : Closed md ops (listed.setIfInBounds j true) := by
  obtain ⟨_, oj, hoj, hall⟩ := mem_ready.1 hj
  intro m om hm hl e he hb
  rcases getD_set_listed hl with rfl | hl
  · rw [hoj] at hm
    obtain rfl := Option.some.inj hm
    exact getD_set_more (hall e he hb)
  · exact getD_set_more (h m om hm hl e he hb)
def reaches (md : Region.Mode) (ops : Array Oper) : Nat → Nat → Nat → Bool
  | 0, _, _ => false
  | f + 1, j, i => match ops[j]? with | some o => o.after.any (fun e => Region.binds md e && (e.on == i || reaches md ops f e.on i)) | none => false
theorem reaches_spec {listed : Array Bool} (hc : Closed md ops listed) {i : Nat} : ∀ (f j : Nat) (oj : Oper), ops[j]? = some oj → (∀ e ∈ oj.after, Region.binds md e = true → listed.getD e.on false = true) → reaches md ops f j i = true → listed.getD i false = true
  | 0, _, _, _, _, h => by simp [reaches] at h
  | f + 1, j, oj, hj, hall, h => by
    unfold reaches at h
    rw [hj] at h
    simp only at h
    rw [Array.any_eq_true] at h
    obtain ⟨k, hk, h2⟩ := h
    simp only [Bool.and_eq_true, Bool.or_eq_true, beq_iff_eq] at h2
    have hl := hall _ (Array.getElem_mem hk) h2.1
    rcases h2.2 with h3 | h3
    · rw [← h3]; exact hl
    · rcases hm : ops[oj.after[k].on]? with _ | om
      · cases f with
        | zero => simp [reaches] at h3
        | succ f => unfold reaches at h3; rw [hm] at h3; cases h3
      · exact reaches_spec hc f _ om hm (fun e he hb => hc _ om hm hl e he hb) h3

theorem wpAnyS_first (T : World → World → Prop) (hT : Pre T) {i : Nat} {oi : Oper} {v : Value} (hi : ops[i]? = some oi) (hsel : ∀ (j : Nat) (o : Oper) cs b, ops[j]? = some o → o.op ≠ .select cs b)
    (hQ : ∀ c a w, Q (.panic c) (a.put oi.dst v) w → Q (.panic c) a w)
    (hst : ∀ (listed : Array Bool) (j : Nat), Closed md ops listed → i ∈ Region.ready md ops listed → j ∈ Region.ready md ops listed → ∀ w w' : World, (S j = false → Later w w') → T w w') :
    ∀ (fuel : Nat) (listed : Array Bool) (a : Act) (w : World), Closed md ops listed →
      (∀ j oj, ops[j]? = some oj → j ≠ i → listed.getD j true = false → (∀ e ∈ oj.after, Region.binds md e = true → e.on ≠ i) → oi.apart ops oj = true) →
      i ∈ Region.ready md ops listed → YieldsIf P ops (T w) oi v a →
      wpAnyS S P md ops Q fuel (listed.setIfInBounds i true) (a.put oi.dst v) w → wpAnyS S P md ops Q (fuel + 1) listed a w := by
  intro fuel
  induction fuel with
  | zero =>
    intro listed a w _ _ hr hy H
    refine ⟨fun h => (by rw [h] at hr; cases hr), fun j hj => ?_⟩
    by_cases hji : j = i
    · subst hji
      exact hy.wpOp hi (hT.1 w) ⟨fun _ => Later.refl w, H⟩
    · have := ready_mono hj hji
      rw [H.1] at this
      cases this
  | succ fuel ih =>
    intro listed a w hcl hfree hr hy H
    refine ⟨fun h => (by rw [h] at hr; cases hr), fun j hj => ?_⟩
    by_cases hji : j = i
    · subst hji
      exact hy.wpOp hi (hT.1 w) ⟨fun _ => Later.refl w, H⟩
    · have h1 := H.2 j (ready_mono hj hji)
      obtain ⟨hjun, oj, hoj, hall⟩ := mem_ready.1 hj
      have hnot : ∀ e ∈ oj.after, Region.binds md e = true → e.on ≠ i := fun e he hb heq => by
        have q1 := hall e he hb
        have q0 := (mem_ready.1 hr).1
        rw [heq] at q1
        rcases Nat.lt_or_ge i listed.size with h' | h'
        · simp [h'] at q0 q1
          rw [q0] at q1
          cases q1
        · simp [Array.getElem?_eq_none h'] at q1
      have h2 := wpOp_putIf hoj (hfree j oj hoj hji hjun hnot) (fun cs b => hsel i oi cs b hi) (fun cs b => hsel j oj cs b hoj) hQ hy h1
      have hfree' : ∀ k ok, ops[k]? = some ok → k ≠ i → (listed.setIfInBounds j true).getD k true = false →
          (∀ e ∈ ok.after, Region.binds md e = true → e.on ≠ i) → oi.apart ops ok = true := fun k ok hk hki hun hno => by
        refine hfree k ok hk hki ?_ hno
        by_cases hjk : j = k
        · subst hjk; exact hjun
        · rw [getD_set_ne true hjk] at hun; exact hun
      refine wpOp_mono (fun a' w' h3 => ⟨h3.2.1, ih (listed.setIfInBounds j true) a' w' (hcl.next hj) hfree' (ready_mono hr (Ne.symm hji)) (yields_rel h3.1 hT (hst listed j hcl hr hj w w' h3.2.1)) ?_⟩) h2
      rw [Array.setIfInBounds_comm _ _ hji]
      exact h3.2.2

def waited (S : Nat → Bool) (md : Region.Mode) (ops : Array Oper) (i : Nat) : Bool := (List.range ops.size).all fun j => !S j || reaches md ops ops.size j i
theorem waited_spec {i : Nat} (h : waited S md ops i = true) {listed : Array Bool} (hc : Closed md ops listed) (hi : i ∈ Region.ready md ops listed) {j : Nat} (hj : j ∈ Region.ready md ops listed) : S j = false := by
  obtain ⟨_, oj, hoj, hall⟩ := mem_ready.1 hj
  have hun := (mem_ready.1 hi).1
  unfold waited at h
  rw [List.all_eq_true] at h
  have h1 := h j (by rw [List.mem_range]; exact (Array.getElem?_eq_some_iff.1 hoj).1)
  simp only [Bool.or_eq_true, Bool.not_eq_true'] at h1
  rcases h1 with h1 | h1
  · exact h1
  · have h2 := reaches_spec hc _ j oj hoj hall h1
    rcases Nat.lt_or_ge i listed.size with h' | h'
    · simp [h'] at hun h2
      rw [hun] at h2
      cases h2
    · simp [Array.getElem?_eq_none h'] at h2

theorem pre_later : Pre Later := ⟨Later.refl, fun h k => Later.trans h k⟩
theorem pre_all : Pre (fun _ _ => True) := ⟨fun _ => trivial, fun _ _ => trivial⟩

theorem wpAnyS_take {i : Nat} {oi : Oper} {d : Option Tmp} {v : Value} {fuel : Nat} {listed : Array Bool} {a : Act} {w : World} (hi : ops[i]? = some oi) (hd : oi.dst = d)
    (hs : Region.noSelect ops = true) (hcl : closedB md ops listed = true) (hwt : waited S md ops i = true) (hf : Region.free md ops listed i = true) (hr : (Region.ready md ops listed).contains i = true)
    (hQ : ∀ c a w, Q (.panic c) (a.put d v) w → Q (.panic c) a w) (hw : Region.wanted oi (yielded ops a.tmps) = true) (hy : ∀ w', Later w w' → (execOp a.eval oi).run P w' = .ok (.value v) w')
    (h : wpAnyS S P md ops Q fuel (listed.setIfInBounds i true) (a.put d v) w) : wpAnyS S P md ops Q (fuel + 1) listed a w := by
  subst hd
  exact wpAnyS_first Later pre_later hi (Region.noSelect_spec hs) hQ (fun _ _ hc h1 h2 _ _ hl => hl (waited_spec hwt hc h1 h2)) fuel listed a w (closed_spec hcl) (Region.free_spec hi hf) (by simpa using hr) (.inl ⟨hw, hy⟩) h
theorem wpAnyS_write {i : Nat} {o : Oper} {fuel : Nat} {listed : Array Bool} {a : Act} {w : World} (ho : ops[i]? = some o) (hS : S i = true) (hr : Region.ready md ops listed = [i]) (hw : Region.wanted o (yielded ops a.tmps) = true)
    (h : ∀ K' : Act → World → Prop, Hid (∀ a' w', wpAnyS S P md ops Q fuel (listed.setIfInBounds i true) a' w' → K' a' w') → Oper.wp P o a w K' Q) : wpAnyS S P md ops Q (fuel + 1) listed a w := by
  refine ⟨fun h0 => absurd (hr ▸ h0) (by simp), fun j hj => ?_⟩
  rw [hr] at hj
  obtain rfl : j = i := by simpa using hj
  refine wpOp_step ho fun K' hK => ?_
  rw [if_pos hw]
  exact h K' fun a' w' hn => hK a' w' ⟨(fun h0 => by rw [hS] at h0; cases h0), hn⟩
theorem wpAnyS_done {listed : Array Bool} {a : Act} {w : World} (hr : Region.ready md ops listed = []) (h : Q .normal a w) : ∀ fuel, wpAnyS S P md ops Q fuel listed a w
  | 0 => ⟨hr, h⟩
  | _ + 1 => ⟨fun _ => h, by rw [hr]; simp⟩
theorem wp_region_S (S : Nat → Bool) {id : Nat} {a : Act} {w : World} (hm : P.follows .mixedOrders = true)
    (h : wpAnyS S P .any ops Q ops.size (Array.replicate ops.size false) a w.drew) : (Code.region id ops true).wp P Q a w :=
  wp_region_any hm (wpAny_of_S _ _ _ _ h)
end

end Go.Proofs.YtpckdhjnhnonhaaGreat
/- As text OrderS, over whatever relation of worlds that goes on: operations that are no writers leave a world of that relation. -/
namespace Go.Proofs.YtpckdhjnhnonhaaGreat
open Go.RowKit

section
variable {P : Program} {ops : Array Oper} {Q : Exit → Act → World → Prop} {md : Region.Mode} {S : Nat → Bool} {R : World → World → Prop}

def wpAnyV (R : World → World → Prop) (S : Nat → Bool) (P : Program) (md : Region.Mode) (ops : Array Oper) (Q : Exit → Act → World → Prop) : Nat → Array Bool → Act → World → Prop
  | 0, listed, a, w => Region.ready md ops listed = [] ∧ Q .normal a w
  | fuel + 1, listed, a, w =>
    (Region.ready md ops listed = [] → Q .normal a w) ∧
    ∀ i ∈ Region.ready md ops listed, wpOp P ops Q i (fun a' w' => (S i = false → R w w') ∧ wpAnyV R S P md ops Q fuel (listed.setIfInBounds i true) a' w') a w

theorem wpAny_of_V : ∀ (fuel : Nat) (listed : Array Bool) (a : Act) (w : World), wpAnyV R S P md ops Q fuel listed a w → wpAny P md ops Q fuel listed a w
  | 0, _, _, _, h => h
  | fuel + 1, _, _, _, h => ⟨h.1, fun i hi => wpOp_mono (fun a' w' h' => wpAny_of_V fuel _ a' w' h'.2) (h.2 i hi)⟩

theorem wpAnyV_first (hR : Pre R) (T : World → World → Prop) (hT : Pre T) {i : Nat} {oi : Oper} {v : Value} (hi : ops[i]? = some oi) (hsel : ∀ (j : Nat) (o : Oper) cs b, ops[j]? = some o → o.op ≠ .select cs b)
    (hQ : ∀ c a w, Q (.panic c) (a.put oi.dst v) w → Q (.panic c) a w)
    (hst : ∀ (listed : Array Bool) (j : Nat), Closed md ops listed → i ∈ Region.ready md ops listed → j ∈ Region.ready md ops listed → ∀ w w' : World, (S j = false → R w w') → T w w') :
    ∀ (fuel : Nat) (listed : Array Bool) (a : Act) (w : World), Closed md ops listed →
      (∀ j oj, ops[j]? = some oj → j ≠ i → listed.getD j true = false → (∀ e ∈ oj.after, Region.binds md e = true → e.on ≠ i) → oi.apart ops oj = true) →
      i ∈ Region.ready md ops listed → YieldsIf P ops (T w) oi v a →
      wpAnyV R S P md ops Q fuel (listed.setIfInBounds i true) (a.put oi.dst v) w → wpAnyV R S P md ops Q (fuel + 1) listed a w := by
  intro fuel
  induction fuel with
  | zero =>
    intro listed a w _ _ hr hy H
    refine ⟨fun h => (by rw [h] at hr; cases hr), fun j hj => ?_⟩
    by_cases hji : j = i
    · subst hji
      exact hy.wpOp hi (hT.1 w) ⟨fun _ => hR.1 w, H⟩
    · have := ready_mono hj hji
      rw [H.1] at this
      cases this
  | succ fuel ih =>
    intro listed a w hcl hfree hr hy H
    refine ⟨fun h => (by rw [h] at hr; cases hr), fun j hj => ?_⟩
    by_cases hji : j = i
    · subst hji
      exact hy.wpOp hi (hT.1 w) ⟨fun _ => hR.1 w, H⟩
    · have h1 := H.2 j (ready_mono hj hji)
      obtain ⟨hjun, oj, hoj, hall⟩ := mem_ready.1 hj
      have hnot : ∀ e ∈ oj.after, Region.binds md e = true → e.on ≠ i := fun e he hb heq => by
        have q1 := hall e he hb
        have q0 := (mem_ready.1 hr).1
        rw [heq] at q1
        rcases Nat.lt_or_ge i listed.size with h' | h'
        · simp [h'] at q0 q1
          rw [q0] at q1
          cases q1
        · simp [Array.getElem?_eq_none h'] at q1
      have h2 := wpOp_putIf hoj (hfree j oj hoj hji hjun hnot) (fun cs b => hsel i oi cs b hi) (fun cs b => hsel j oj cs b hoj) hQ hy h1
      have hfree' : ∀ k ok, ops[k]? = some ok → k ≠ i → (listed.setIfInBounds j true).getD k true = false →
          (∀ e ∈ ok.after, Region.binds md e = true → e.on ≠ i) → oi.apart ops ok = true := fun k ok hk hki hun hno => by
        refine hfree k ok hk hki ?_ hno
        by_cases hjk : j = k
        · subst hjk; exact hjun
        · rw [getD_set_ne true hjk] at hun; exact hun
      refine wpOp_mono (fun a' w' h3 => ⟨h3.2.1, ih (listed.setIfInBounds j true) a' w' (hcl.next hj) hfree' (ready_mono hr (Ne.symm hji)) (yields_rel h3.1 hT (hst listed j hcl hr hj w w' h3.2.1)) ?_⟩) h2
      rw [Array.setIfInBounds_comm _ _ hji]
      exact h3.2.2

theorem wpAnyV_take (hR : Pre R) {i : Nat} {oi : Oper} {d : Option Tmp} {v : Value} {fuel : Nat} {listed : Array Bool} {a : Act} {w : World} (hi : ops[i]? = some oi) (hd : oi.dst = d)
    (hs : Region.noSelect ops = true) (hcl : closedB md ops listed = true) (hwt : waited S md ops i = true) (hf : Region.free md ops listed i = true) (hr : (Region.ready md ops listed).contains i = true)
    (hQ : ∀ c a w, Q (.panic c) (a.put d v) w → Q (.panic c) a w) (hw : Region.wanted oi (yielded ops a.tmps) = true) (hy : ∀ w', R w w' → (execOp a.eval oi).run P w' = .ok (.value v) w')
    (h : wpAnyV R S P md ops Q fuel (listed.setIfInBounds i true) (a.put d v) w) : wpAnyV R S P md ops Q (fuel + 1) listed a w := by
  subst hd
  exact wpAnyV_first hR R hR hi (Region.noSelect_spec hs) hQ (fun _ _ hc h1 h2 _ _ hl => hl (waited_spec hwt hc h1 h2)) fuel listed a w (closed_spec hcl) (Region.free_spec hi hf) (by simpa using hr) (.inl ⟨hw, hy⟩) h
theorem wpAnyV_pure (hR : Pre R) {i : Nat} {oi : Oper} {d : Option Tmp} {v : Value} {fuel : Nat} {listed : Array Bool} {a : Act} {w : World} (hi : ops[i]? = some oi) (hd : oi.dst = d)
    (hs : Region.noSelect ops = true) (hcl : closedB md ops listed = true) (hf : Region.free md ops listed i = true) (hr : (Region.ready md ops listed).contains i = true)
    (hQ : ∀ c a w, Q (.panic c) (a.put d v) w → Q (.panic c) a w) (hw : Region.wanted oi (yielded ops a.tmps) = true) (hy : ∀ w', (execOp a.eval oi).run P w' = .ok (.value v) w')
    (h : wpAnyV R S P md ops Q fuel (listed.setIfInBounds i true) (a.put d v) w) : wpAnyV R S P md ops Q (fuel + 1) listed a w := by
  subst hd
  exact wpAnyV_first hR (fun _ _ => True) pre_all hi (Region.noSelect_spec hs) hQ (fun _ _ _ _ _ _ _ _ => trivial) fuel listed a w (closed_spec hcl) (Region.free_spec hi hf) (by simpa using hr) (.inl ⟨hw, fun w' _ => hy w'⟩) h
theorem wpAnyV_only (_ : Pre R) {i : Nat} {o : Oper} {fuel : Nat} {listed : Array Bool} {a : Act} {w : World} (ho : ops[i]? = some o) (hr : Region.ready md ops listed = [i]) (hw : Region.wanted o (yielded ops a.tmps) = true)
    (h : ∀ K' : Act → World → Prop, Hid (∀ a' w', R w w' → wpAnyV R S P md ops Q fuel (listed.setIfInBounds i true) a' w' → K' a' w') → Oper.wp P o a w K' Q) : wpAnyV R S P md ops Q (fuel + 1) listed a w := by
  refine ⟨fun h0 => absurd (hr ▸ h0) (by simp), fun j hj => ?_⟩
  rw [hr] at hj
  obtain rfl : j = i := by simpa using hj
  refine wpOp_step ho fun K' hK => ?_
  rw [if_pos hw]
  exact h K' fun a' w' hl hn => hK a' w' ⟨fun _ => hl, hn⟩
theorem wpAnyV_write {i : Nat} {o : Oper} {fuel : Nat} {listed : Array Bool} {a : Act} {w : World} (ho : ops[i]? = some o) (hS : S i = true) (hr : Region.ready md ops listed = [i]) (hw : Region.wanted o (yielded ops a.tmps) = true)
    (h : ∀ K' : Act → World → Prop, Hid (∀ a' w', wpAnyV R S P md ops Q fuel (listed.setIfInBounds i true) a' w' → K' a' w') → Oper.wp P o a w K' Q) : wpAnyV R S P md ops Q (fuel + 1) listed a w := by
  refine ⟨fun h0 => absurd (hr ▸ h0) (by simp), fun j hj => ?_⟩
  rw [hr] at hj
  obtain rfl : j = i := by simpa using hj
  refine wpOp_step ho fun K' hK => ?_
  rw [if_pos hw]
  exact h K' fun a' w' hn => hK a' w' ⟨(fun h0 => by rw [hS] at h0; cases h0), hn⟩
theorem wpAnyV_done {listed : Array Bool} {a : Act} {w : World} (hr : Region.ready md ops listed = []) (h : Q .normal a w) : ∀ fuel, wpAnyV R S P md ops Q fuel listed a w
  | 0 => ⟨hr, h⟩
  | _ + 1 => ⟨fun _ => h, by rw [hr]; simp⟩
theorem wp_region_V (R : World → World → Prop) (S : Nat → Bool) {id : Nat} {a : Act} {w : World} (hm : P.follows .mixedOrders = true)
    (h : wpAnyV R S P .any ops Q ops.size (Array.replicate ops.size false) a w.drew) : (Code.region id ops true).wp P Q a w :=
  wp_region_any hm (wpAny_of_V _ _ _ _ h)
end

end Go.Proofs.YtpckdhjnhnonhaaGreat
/- How a saga begins, by the document; whether two are alike. -/
namespace Go.Proofs.YtpckdhjnhnonhaaGreat
open Go.RowKit
theorem run_buildSlice_none {P : Program} {w : World} (t e : TypeId) (i : TypeInfo) (ht : P.underlying t = some (.slice e)) (hi : P.info? e = some i) :
    (Instr.buildSlice t 0 #[]).run P w = .ok (.slice (some ⟨w.heap.size, 0, none⟩) 0 0) (w.alloc (.cells #[] e (0, 0))) := by
  simp [Instr.buildSlice, run_underlying ht, sizeOf, typeInfo, hi, Instr.fill, newRow]
  congr 2
  exact Array.ext (by simp) (fun i h1 _ => by simp at h1)
theorem pre_below (B : Nat) : Pre (Below B) := ⟨fun w => Below.refl B w, fun h k => Below.trans h k⟩
section
variable {op : Oper} {a : Act} {w : World} {Q : Exit → Act → World → Prop} {K : Act → World → Prop}
theorem wp_none (ho : op.op = .buildSlice 29 0 #[]) (h : K (a.put op.dst (.slice (some ⟨w.heap.size, 0, none⟩) 0 0)) (w.alloc (.cells #[] 67 (0, 0)))) : op.wp Tryz.prog a w K Q := by
  obtain ⟨i0, hi, _⟩ := info_parts Sd.Tryz.infoStep
  have hr := run_buildSlice_none (P := Tryz.prog) (w := w) 29 67 i0 Tryz.underlying29 hi
  unfold Oper.wp
  simp only [execOp, ho, List.map_toArray, List.map_nil, Sem.run_bind, Sem.run_pure, hr, Result.andThen_ok]
  exact h
theorem wp_app_steps (s x : Operand) (ho : op.op = .call { callee := .builtin .append, args := #[s, x], argTypes := #[29, 29] }) (base : Nat) (v : Value) (hs : a.eval s = v) (hown : w.ownsRow base 67 6 v 0 [])
    (F : Nat → Prop) (A : Option Addr) (c : Nat) (l : List StepD) (m : Nat) (hm : l.length = m) (hx : a.eval x = .slice A m c) (hl : StepsAt F w (.slice A m c) l) (hn : m ≤ 1000) (hb : base ≤ w.heap.size)
    (h : ∀ v' w', w'.ownsRow base 67 6 v' m (l.flatMap StepD.cells) → w.grownBy w' v.ownBlock → K (a.put op.dst v') w') : op.wp Tryz.prog a w K Q := by
  obtain ⟨i0, hi, hz0, hz1, hz2⟩ := info_parts Sd.Tryz.infoStep
  obtain ⟨v', w', hr, h2, h3⟩ := run_append_flat (P := Tryz.prog) w base 29 op.type 67 i0 _ 6 48 Tryz.underlying29 hi hz0 hz1 hz2 rfl (by omega) v 0 [] hown F A m c (l.flatMap StepD.cells) (by rw [← hm]; rw [← hm] at hl; exact hl) (by unfold maxLen; omega) (by omega) hb
  unfold Oper.wp execOp
  simp only [ho, resolve, invoke, builtin, Sem.run_bind, Sem.run_pure, Result.andThen_ok, List.map_toArray, List.map_cons, List.map_nil, hs, hx, hr]
  exact h v' w' (by simpa using h2) h3
end
section
variable {w : World}
set_option maxHeartbeats 2000000 in
theorem rsame13_any {F G : Nat → Prop} {a1 a2 : ByteArray} {v v2 : Value} {l m : List StepD} (hl : StepsAt F w v l) (hm : StepsAt G w v2 m) :
    Calls Tryz.prog 74 #[.agg #[.string a1, v], .agg #[.string a2, v2]] w fun e w' => e = .returned (.bool (decide (a1 = a2 ∧ l = m))) ∧ Later w w' := by
  obtain ⟨A, c, rfl, h1, h2, _⟩ := FlatAt.shape hl
  obtain ⟨A2, c2, rfl, h3, h4, _⟩ := FlatAt.shape hm
  obtain ⟨n, hn⟩ : ∃ n, l.length = n := ⟨_, rfl⟩
  obtain ⟨n2, hn2⟩ : ∃ n2, m.length = n2 := ⟨_, rfl⟩
  rw [hn] at h1 hl ⊢
  rw [hn2] at h3 hm ⊢
  have hbw : Later w ((w.alloc (.cells #[.string a1, .slice A n c] 31 (0, 0))).alloc (.cells #[.string a2, .slice A2 n2 c2] 31 (0, 0))) := ((Below.refl _ _).alloc (Nat.le_refl _) _).alloc (by simp) _
  have CE := hide (Sd.same_def F G a1 a2 (.slice A n c) (.slice A2 n2 c2) l m _ (hl.kept (Kept.of_below hbw F)) (hm.kept (Kept.of_below hbw G)))
  have HBW := hide hbw
  clear hl hm hbw hn hn2 h1 h2 h3 h4
  obtain ⟨q, hq⟩ : ∃ q, decide (a1 = a2 ∧ l = m) = q := ⟨_, rfl⟩
  rw [hq] at CE ⊢
  clear hq
  go_enter Tryz.func74, Tryz.ntmps74
  go_wp2_with (fail)
  refine CE.out.mono ?_
  rintro e w1 ⟨rfl, hl1⟩
  have HL := hide (HBW.out.trans hl1)
  clear hl1 CE
  go_wp2
  go_ret
  exact ⟨rfl, HL.out⟩

set_option maxHeartbeats 4000000 in
theorem rbegin_err {F : Nat → Prop} {name : ByteArray} {A : Option Addr} {n c : Nat} {l : List StepD} (h : StepsAt F w (.slice A n c) l) (he : (checkF name l).2 ≠ 0) : Calls Tryz.prog 66 #[.agg #[.string name, .slice A n c]] w fun e w' => e = .returned (.tuple #[SagaD.zero.val, .int .i64 (((checkF name l).2 : Nat) : Int)]) ∧ Later w w' := by
  obtain ⟨W1, hW1⟩ : ∃ W1, W1 = (w.alloc (.cells #[.string name, .slice A n c] 31 (0, 0))).alloc (.cells #[.string ⟨#[]⟩, .slice none 0 0, .int .i64 0, .int .i64 0, .int .i64 0, .bool false, .bool false, .bool false, .bool false, .bool false, .bool false, .bool false, .bool false] 39 (0, 0)) := ⟨_, rfl⟩
  obtain ⟨g, hg⟩ : ∃ g, g = w.heap.size := ⟨_, rfl⟩
  have X1 : Hid (DefBox g name (.slice A n c) W1) := by rw [hW1, hg]; exact (heap_alloc_old _ _ (by simp)).trans (heap_alloc_new _ _)
  have Y1 : Hid (SBox 39 (g + 1) SagaD.zero W1) := by rw [hW1, hg]; exact heap_second _ _ _
  have L1 : Hid (Later w W1) := by rw [hW1]; exact ((Below.refl _ _).alloc (Nat.le_refl _) _).alloc (by simp) _
  have HG0 : Hid (w.heap.size ≤ g) := Nat.le_of_eq hg.symm
  have CC : Hid (Calls Tryz.prog 80 #[.agg #[.string name, .slice A n c]] W1 fun e w' => e = .returned (.tuple #[.int .i64 (((checkF name l).1 : Nat) : Int), .int .i64 (((checkF name l).2 : Nat) : Int)]) ∧ Later W1 w') := rcheck_any (StepsAt.kept h (Kept.of_below L1.out _))
  obtain ⟨k1, hk1⟩ : ∃ k1, (checkF name l).1 = k1 := ⟨_, rfl⟩
  obtain ⟨k2, hk2⟩ : ∃ k2, (checkF name l).2 = k2 := ⟨_, rfl⟩
  rw [hk1, hk2] at CC
  have e0 := X1.out.name_
  have e1 := X1.out.steps
  rw [hW1, hg] at e0 e1
  rw [hk2]
  have hb : ((k2 : Int) != 0) = true := by simpa using (show ¬ (k2 : Int) = 0 by omega)
  have HW1 := hide hW1.symm
  have HG := hide hg.symm
  clear hW1 hg h he hk1 hk2
  go_enter Tryz.func66, Tryz.ntmps66
  go_wp2_with (fail)
  simp only [HW1.out, HG.out]
  refine CC.out.mono ?_
  rintro e w2 ⟨rfl, hl⟩
  have L12 := hide hl
  have L2 := hide (L1.out.trans hl)
  have X2 := hide (X1.out.below hl)
  have Y2 := hide (Y1.out.below hl)
  clear hl CC e0 e1
  go_wp2_with (refine wpList_rstore_saga (s := SagaD.zero) (by rfl) _ _ (by rfl) (by rfl) Y2.out (by rfl) ?_; intro w3 Z3 G3)
  have HLF : Hid (Later w _) := L2.out.grown G3 (Below.size L2.out) (fun k hk => by have := Option.some.inj hk; have := HG0.out; omega)
  refine bodyPost_ret (results_box2 Tryz.results66 _ _ (g + 1) 39 _ _ (by rfl) Z3 Tryz.underlying39 (by rfl) (by kernel_rfl) (.int .i64 (k2 : Int)) (by rfl)) (by rfl) ?_
  exact ⟨rfl, HLF.out⟩
set_option maxRecDepth 100000 in
set_option maxHeartbeats 8000000 in
theorem rbegin_ok {F : Nat → Prop} {name : ByteArray} {A : Option Addr} {n c : Nat} {l : List StepD} (h : StepsAt F w (.slice A n c) l) (he : (checkF name l).2 = 0) : Calls Tryz.prog 66 #[.agg #[.string name, .slice A n c]] w (Begun name l w) := by
  obtain ⟨W1, hW1⟩ : ∃ W1, W1 = (w.alloc (.cells #[.string name, .slice A n c] 31 (0, 0))).alloc (.cells #[.string ⟨#[]⟩, .slice none 0 0, .int .i64 0, .int .i64 0, .int .i64 0, .bool false, .bool false, .bool false, .bool false, .bool false, .bool false, .bool false, .bool false] 39 (0, 0)) := ⟨_, rfl⟩
  obtain ⟨g, hg⟩ : ∃ g, g = w.heap.size := ⟨_, rfl⟩
  have X1 : Hid (DefBox g name (.slice A n c) W1) := by rw [hW1, hg]; exact (heap_alloc_old _ _ (by simp)).trans (heap_alloc_new _ _)
  have Y1 : Hid (SBox 39 (g + 1) SagaD.zero W1) := by rw [hW1, hg]; exact heap_second _ _ _
  have L1 : Hid (Later w W1) := by rw [hW1]; exact ((Below.refl _ _).alloc (Nat.le_refl _) _).alloc (by simp) _
  have HG0 : Hid (w.heap.size ≤ g) := Nat.le_of_eq hg.symm
  have CC : Hid (Calls Tryz.prog 80 #[.agg #[.string name, .slice A n c]] W1 fun e w' => e = .returned (.tuple #[.int .i64 (((checkF name l).1 : Nat) : Int), .int .i64 (((checkF name l).2 : Nat) : Int)]) ∧ Later W1 w') := rcheck_any (StepsAt.kept h (Kept.of_below L1.out _))
  obtain ⟨k1, hk1⟩ : ∃ k1, (checkF name l).1 = k1 := ⟨_, rfl⟩
  obtain ⟨k2, hk2⟩ : ∃ k2, (checkF name l).2 = k2 := ⟨_, rfl⟩
  rw [hk1, hk2] at CC
  have e0 := X1.out.name_
  have e1 := X1.out.steps
  rw [hW1, hg] at e0 e1
  obtain rfl : k2 = 0 := by rw [← hk2]; exact he
  have hnl : n = l.length := by
    obtain ⟨A', c', hv, _, _, _⟩ := FlatAt.shape h
    injection hv
  have HN := hide hnl
  have HE := hide he
  have HS := hide (fun (W : World) (hW : Later W1 W) => StepsAt.kept h (Kept.of_below (L1.out.trans hW) _))
  have HW1 := hide hW1.symm
  have HG := hide hg.symm
  clear hW1 hg h he hk1 hk2 hnl
  go_enter Tryz.func66, Tryz.ntmps66
  go_wp2_with (fail)
  simp only [HW1.out, HG.out]
  refine CC.out.mono ?_
  rintro e w2 ⟨rfl, hl⟩
  have L12 := hide hl
  have L2 := hide (L1.out.trans hl)
  have X2 := hide (X1.out.below hl)
  have Y2 := hide (Y1.out.below hl)
  clear hl CC e0 e1
  have d0 := X2.out.name_
  have d1 := X2.out.steps
  have hx2 := lt_of_block X2.out
  go_wp2_with (fail)
  refine wp_region_V (Below w2.heap.size) (fun j => j == 8) (by kernel_rfl) ?_
  refine wpAnyV_take (pre_below w2.heap.size) (i := 0) (d := some 15) (v := ?vaa0) rfl rfl (by kernel_rfl) (by kernel_rfl) (by kernel_rfl) (by kernel_rfl) (by kernel_rfl) (fun _ _ _ h => h) (by rfl) ?yaa0 ?_
  case yaa0 => (intro w' hw'; go_simp; try (with_reducible rfl))
  simp only [Act.put]; try simp only [sA_, sZ_, sS_]
  refine wpAnyV_take (pre_below w2.heap.size) (i := 1) (d := some 16) (v := ?vaa1) rfl rfl (by kernel_rfl) (by kernel_rfl) (by kernel_rfl) (by kernel_rfl) (by kernel_rfl) (fun _ _ _ h => h) (by rfl) ?yaa1 ?_
  case yaa1 => (intro w' hw'; have y := (Below.cell hw' (p := ⟨g, 0, none⟩) hx2).trans (show w2.drew.cell? ⟨g, 0, none⟩ = some (.string name) from d0); go_simp; try (with_reducible rfl))
  simp only [Act.put]; try simp only [sA_, sZ_, sS_]
  refine wpAnyV_take (pre_below w2.heap.size) (i := 3) (d := some 18) (v := ?vaa3) rfl rfl (by kernel_rfl) (by kernel_rfl) (by kernel_rfl) (by kernel_rfl) (by kernel_rfl) (fun _ _ _ h => h) (by rfl) ?yaa3 ?_
  case yaa3 => (intro w' hw'; go_simp; try (with_reducible rfl))
  simp only [Act.put]; try simp only [sA_, sZ_, sS_]
  refine wpAnyV_take (pre_below w2.heap.size) (i := 4) (d := some 19) (v := ?vaa4) rfl rfl (by kernel_rfl) (by kernel_rfl) (by kernel_rfl) (by kernel_rfl) (by kernel_rfl) (fun _ _ _ h => h) (by rfl) ?yaa4 ?_
  case yaa4 => (intro w' hw'; have y := (Below.cell hw' (p := ⟨g, 1, none⟩) hx2).trans (show w2.drew.cell? ⟨g, 1, none⟩ = some (.slice A n c) from d1); go_simp; try (with_reducible rfl))
  simp only [Act.put]; try simp only [sA_, sZ_, sS_]
  refine wpAnyV_only (pre_below w2.heap.size) (i := 2) rfl (by kernel_rfl) (by rfl) fun K hK => ?_
  refine wp_none (by rfl) ?_
  refine hK.out _ _ ((Below.refl _ _).alloc (by exact Nat.le_refl _) _) (?_ : wpAnyV _ _ _ _ _ _ _ _ (Act.put _ (some 17) _) _)
  clear hK K
  try (simp only [Act.put]; try simp only [sA_, sZ_, sS_])
  refine wpAnyV_only (pre_below w2.heap.size) (i := 5) rfl (by kernel_rfl) (by rfl) fun K hK => ?_
  refine wp_app_steps _ _ (by rfl) w2.heap.size (.slice (some ⟨w2.heap.size, 0, none⟩) 0 0) (by rfl) (ownsRow_lit w2.drew _ 6) F A c l n HN.out.symm (by rfl) (HS.out _ (L12.out.trans ((Later.drew w2).trans ((Below.refl _ _).alloc (Nat.le_refl _) _)))) (by have := (check_good HE.out).1; have := HN.out; omega) (by simp) ?_
  intro v5 w5 ho5 hg5
  have M5 : Hid (Below w2.heap.size (w2.drew.alloc (.cells #[] 67 (0, 0))) w5) := (Below.refl _ _).grown hg5 (by simp) (fun k hk => by have : w2.heap.size = k := Option.some.inj hk; omega)
  have M25 : Hid (Below w2.heap.size w2 w5) := Below.trans ((Later.drew w2).trans ((Below.refl _ _).alloc (Nat.le_refl _) _)) M5.out
  have S5 : StepsAt (w2.heap.size ≤ ·) w5 v5 l := by
      have h5 := FlatAt.of_own ho5 (cells_one l)
      rwa [HN.out] at h5
  obtain ⟨P, K0, rfl, _, _, _⟩ := FlatAt.shape S5
  have HS5 := hide S5
  have Y5 : Hid (SBox 39 (g + 1) SagaD.zero w5) := (Below.block M25.out (g + 1) (SBox.lt Y2.out)).trans Y2.out
  have L5 : Hid (Later w w5) := Below.trans L2.out (Below.mono M25.out (Below.size L2.out))
  refine hK.out _ _ M5.out (?_ : wpAnyV _ _ _ _ _ _ _ _ (Act.put _ (some 20) _) _)
  clear ho5 hg5 S5
  clear hK K
  try (simp only [Act.put]; try simp only [sA_, sZ_, sS_])
  refine wpAnyV_take (pre_below w2.heap.size) (i := 6) (d := some 21) (v := .agg #[.string name, .slice P l.length K0]) rfl rfl (by kernel_rfl) (by kernel_rfl) (by kernel_rfl) (by kernel_rfl) (by kernel_rfl) (fun _ _ _ h => h) (by rfl) ?yaa6 ?_
  case yaa6 => (intro w' hw'; exact exec_build_parts 31 _ (by rfl) [(0, .string name), (1, .slice P l.length K0)] (by rfl) #[.string name, .slice P l.length K0] (by kernel_rfl))
  simp only [Act.put]; try simp only [sA_, sZ_, sS_]
  refine wpAnyV_take (pre_below w2.heap.size) (i := 7) (d := some 22) (v := (SagaD.mk name P l.length K0 1 1 1 (upH 0)).val) rfl rfl (by kernel_rfl) (by kernel_rfl) (by kernel_rfl) (by kernel_rfl) (by kernel_rfl) (fun _ _ _ h => h) (by rfl) ?yaa7 ?_
  case yaa7 => (intro w' hw'; exact exec_build_parts 39 _ (by rfl) [(0, .agg #[.string name, .slice P l.length K0]), (1, .int .i64 1), (2, .int .i64 1), (3, .int .i64 1)] (by rfl) (SagaD.mk name P l.length K0 1 1 1 (upH 0)).cells.toArray (by kernel_rfl))
  simp only [Act.put]; try simp only [sA_, sZ_, sS_]
  refine wpAnyV_write (i := 8) rfl rfl (by kernel_rfl) (by rfl) fun K hK => ?_
  refine wp_rstore_saga (s := SagaD.mk name P l.length K0 1 1 1 (upH 0)) _ _ (by rfl) (by rfl) Y5.out (by rfl) ?_
  intro w6 hb6 hg6
  have Z6 := hide hb6
  have G6 := hide hg6
  clear hb6 hg6
  refine hK.out _ _ ?_
  clear hK K
  try simp only [Act.put]
  refine wpAnyV_pure (pre_below w2.heap.size) (i := 9) (d := some 3) (v := ?vaa9) rfl rfl (by kernel_rfl) (by kernel_rfl) (by kernel_rfl) (by kernel_rfl) (fun _ _ _ h => h) (by rfl) ?yaa9 ?_
  case yaa9 => (intro w'; go_simp; try (with_reducible rfl))
  simp only [Act.put]; try simp only [sA_, sZ_, sS_]
  refine wpAnyV_done (by kernel_rfl) ?_ _
  have S9 : Hid (StepsAt (w.heap.size ≤ ·) w6 (.slice P l.length K0) l) := by
    have h9 := own_kept HS5.out (SBox.lt Y2.out) G6.out
    exact FlatAt.mono h9 (fun i _ hf => Nat.le_trans (Below.size L2.out) hf)
  have HLF : Hid (Later w w6) := L5.out.grown G6.out (Below.size L5.out) (fun k hk => by have := Option.some.inj hk; have := HG0.out; omega)
  go_wp2
  refine bodyPost_ret (results_box2 Tryz.results66 _ _ (g + 1) 39 _ _ (by rfl) Z6.out Tryz.underlying39 (by rfl) (by kernel_rfl) (.int .i64 0) (by rfl)) (by rfl) ?_
  exact ⟨P, l.length, K0, rfl, S9.out, HLF.out⟩
end
end Go.Proofs.YtpckdhjnhnonhaaGreat
/- The document's start where nothing begins. -/
namespace Go.Proofs.YtpckdhjnhnonhaaGreat
open Go.RowKit Go.Maps
def RDid (F : Nat → Prop) (g : Nat) (most : Int) (r : RepD) (t : BkS) (w : World) (e : Ending) (w' : World) : Prop := e = .returned r.val ∧ RBookAt F w' g most t ∧ Turned (fun i => i = g) w w'
section
variable {F : Nat → Prop} {w : World} {g : Nat} {most : Int} {t : BkS}
set_option maxHeartbeats 4000000 in
set_option maxRecDepth 100000 in
theorem rstart_err {F0 : Nat → Prop} {name : ByteArray} {A : Option Addr} {n c : Nat} {l : List StepD} (h : RBookAt F w g most t) (hst : StepsAt F0 w (.slice A n c) l) (he : (checkF name l).2 ≠ 0) :
    Calls Tryz.prog 34 #[.pointer (some ⟨g, 0, none⟩), .agg #[.string name, .slice A n c]] w (RDid F g most (errR ((checkF name l).2 : Nat)) t w) := by
  have hlt := h.lt
  obtain ⟨W1, hW1⟩ : ∃ W1, W1 = (w.alloc (.cells #[.string name, .slice A n c] 31 (0, 0))).alloc (.cells #[.int .i64 0, .int .i64 0, .int .i64 0, .int .i64 0] 44 (0, 0)) := ⟨_, rfl⟩
  obtain ⟨d, hd⟩ : ∃ d, d = w.heap.size := ⟨_, rfl⟩
  have X1 : Hid (DefBox d name (.slice A n c) W1) := by rw [hW1, hd]; exact (heap_alloc_old _ _ (by simp)).trans (heap_alloc_new _ _)
  have Y1 : Hid (RBox (d + 1) (errR 0) W1) := by rw [hW1, hd]; exact heap_second _ _ _
  have L1 : Hid (Later w W1) := by rw [hW1]; exact ((Below.refl _ _).alloc (Nat.le_refl _) _).alloc (by simp) _
  have HYG : Hid (g < d + 1) := by rw [hd]; show g < _; omega
  have HY : Hid (w.heap.size ≤ d + 1) := by rw [hd]; exact Nat.le_succ _
  have HYW : Hid (d + 1 < W1.heap.size) := lt_of_block Y1.out
  have h1 : RBookAt (fun i => F i ∧ i ≠ d + 1) W1 g most t := (h.mono (G := fun i => F i ∧ i ≠ d + 1) (fun i hi hf => ⟨hf, by omega⟩) (fun e => h.apart e.1)).later L1.out
  have H1 := hide h1
  have HA := hide h.apart
  have hst1 := StepsAt.kept hst (Kept.of_below L1.out _)
  have c0 : W1.cell? ⟨d, 0, none⟩ = some (.string name) := X1.out.name_
  have c1 : W1.cell? ⟨d, 1, none⟩ = some (.slice A n c) := X1.out.steps
  rw [hW1, hd] at c0 c1
  have C := hide (rbegin_err hst1 he)
  obtain ⟨e9, he9⟩ : ∃ e9 : Int, (((checkF name l).2 : Nat) : Int) = e9 := ⟨_, rfl⟩
  have ne9 : (e9 != 0) = true := by simp; omega
  rw [he9] at C ⊢
  clear he he9
  have HW1 := hide hW1.symm
  have HG := hide hd.symm
  clear h hst hst1 hW1 hd h1 hlt
  go_enter Tryz.func34, Tryz.ntmps34
  go_wp2_with (fail)
  simp only [HW1.out, HG.out]
  refine C.out.mono ?_
  rintro e w2 ⟨rfl, hl2⟩
  have T2 : Hid (SBox 39 w2.heap.size SagaD.zero (w2.alloc (.cells #[.string ⟨#[]⟩, .slice none 0 0, .int .i64 0, .int .i64 0, .int .i64 0, .bool false, .bool false, .bool false, .bool false, .bool false, .bool false, .bool false, .bool false] 39 (0, 0)))) := heap_alloc_new _ _
  have L2b : Hid (Later w2 (w2.alloc (.cells #[.string ⟨#[]⟩, .slice none 0 0, .int .i64 0, .int .i64 0, .int .i64 0, .bool false, .bool false, .bool false, .bool false, .bool false, .bool false, .bool false, .bool false] 39 (0, 0)))) := (Below.refl _ _).alloc (Nat.le_refl _) _
  have L2 : Hid (Later W1 w2) := hl2
  clear hl2 C
  go_wp2_with (refine wpList_rstore_saga (s := SagaD.zero) (by rfl) _ _ (by rfl) (by rfl) T2.out (by rfl) ?_)
  intro w3 X3 G3
  have L3a : Later w2 w3 := L2b.out.grown G3 (by simp) (fun k hk => by have := Option.some.inj hk; omega)
  have L3b : Later W1 w2 := L2.out
  have L3 : Hid (Later W1 w3) := Later.trans L3b L3a
  have Y3 : Hid (RBox (d + 1) (errR 0) w3) := Y1.out.below L3.out
  clear X3 G3 L3a L3b
  go_wp2_with (refine wpList_store_rep (r := errR e9) (by rfl) _ _ (by rfl) (by rfl) Y3.out (by rfl) ?_)
  intro w9 Z9 G9
  have HZ := hide Z9
  have T9 : Hid (Turned (fun i => i = d + 1) w3 w9) := Turned.of_grown G9 (fun g e => (Option.some.inj e).symm)
  clear Z9 G9
  go_wp2
  refine bodyPost_ret (results_cell_row Tryz.results34 _ _ (d + 1) 44 _ (0, 0) _ (by rfl) HZ.out Tryz.underlying44 (by rfl) (by kernel_rfl)) (by rfl) ?_
  have B9 := (H1.out.later L3.out).turned T9.out (by have := HYG.out; omega) (fun i hi => hi.2)
  have La : Later w W1 := L1.out
  have Lb : Later w w3 := Later.trans La L3.out
  exact ⟨rfl, B9.mono (fun i _ hf => hf.1) HA.out, (Turned.of_below Lb _).onto T9.out (fun i hi => .inr (by have := HY.out; omega))⟩
end
end Go.Proofs.YtpckdhjnhnonhaaGreat
/- The document's start at a full book. -/
namespace Go.Proofs.YtpckdhjnhnonhaaGreat
open Go.RowKit Go.Maps
section
variable {F : Nat → Prop} {w : World} {g : Nat} {most : Int} {t : BkS}
set_option maxHeartbeats 4000000 in
set_option maxRecDepth 100000 in
theorem rstart_full {F0 : Nat → Prop} {name : ByteArray} {A : Option Addr} {n c : Nat} {l : List StepD} (h : RBookAt F w g most t) (hn : t.L.length ≤ 1000000) (hst : StepsAt F0 w (.slice A n c) l) (he : (checkF name l).2 = 0) (hfu : most ≤ (openN t.L : Int)) :
    Calls Tryz.prog 34 #[.pointer (some ⟨g, 0, none⟩), .agg #[.string name, .slice A n c]] w (RDid F g most (errR 7) t w) := by
  have hlt := h.lt
  obtain ⟨W1, hW1⟩ : ∃ W1, W1 = (w.alloc (.cells #[.string name, .slice A n c] 31 (0, 0))).alloc (.cells #[.int .i64 0, .int .i64 0, .int .i64 0, .int .i64 0] 44 (0, 0)) := ⟨_, rfl⟩
  obtain ⟨d, hd⟩ : ∃ d, d = w.heap.size := ⟨_, rfl⟩
  have X1 : Hid (DefBox d name (.slice A n c) W1) := by rw [hW1, hd]; exact (heap_alloc_old _ _ (by simp)).trans (heap_alloc_new _ _)
  have Y1 : Hid (RBox (d + 1) (errR 0) W1) := by rw [hW1, hd]; exact heap_second _ _ _
  have L1 : Hid (Later w W1) := by rw [hW1]; exact ((Below.refl _ _).alloc (Nat.le_refl _) _).alloc (by simp) _
  have HYG : Hid (g < d + 1) := by rw [hd]; show g < _; omega
  have HY : Hid (w.heap.size ≤ d + 1) := by rw [hd]; exact Nat.le_succ _
  have HYW : Hid (d + 1 < W1.heap.size) := lt_of_block Y1.out
  have h1 : RBookAt (fun i => F i ∧ i ≠ d + 1) W1 g most t := (h.mono (G := fun i => F i ∧ i ≠ d + 1) (fun i hi hf => ⟨hf, by omega⟩) (fun e => h.apart e.1)).later L1.out
  have H1 := hide h1
  have HA := hide h.apart
  have hst1 := StepsAt.kept hst (Kept.of_below L1.out _)
  have c0 : W1.cell? ⟨d, 0, none⟩ = some (.string name) := X1.out.name_
  have c1 : W1.cell? ⟨d, 1, none⟩ = some (.slice A n c) := X1.out.steps
  rw [hW1, hd] at c0 c1
  have C := hide (rbegin_ok hst1 he)
  have HE := hide he
  clear he
  have HW1 := hide hW1.symm
  have HG := hide hd.symm
  clear h hst hst1 hW1 hd h1 hlt
  go_enter Tryz.func34, Tryz.ntmps34
  go_wp2_with (fail)
  simp only [HW1.out, HG.out]
  refine C.out.mono ?_
  rintro e w2 ⟨p, m, q, rfl, hs, hl2⟩
  obtain ⟨s2, hs2⟩ : ∃ s2, SagaD.mk name p m q 1 1 1 (upH 0) = s2 := ⟨_, rfl⟩
  rw [hs2]
  have HS2 := hide hs2
  have HS := hide hs
  have T2 : Hid (SBox 39 w2.heap.size SagaD.zero (w2.alloc (.cells #[.string ⟨#[]⟩, .slice none 0 0, .int .i64 0, .int .i64 0, .int .i64 0, .bool false, .bool false, .bool false, .bool false, .bool false, .bool false, .bool false, .bool false] 39 (0, 0)))) := heap_alloc_new _ _
  have L2b : Hid (Later w2 (w2.alloc (.cells #[.string ⟨#[]⟩, .slice none 0 0, .int .i64 0, .int .i64 0, .int .i64 0, .bool false, .bool false, .bool false, .bool false, .bool false, .bool false, .bool false, .bool false] 39 (0, 0)))) := (Below.refl _ _).alloc (Nat.le_refl _) _
  have L2 : Hid (Later W1 w2) := hl2
  clear hl2 C hs hs2
  go_wp2_with (refine wpList_rstore_saga (s := s2) (by rfl) _ _ (by rfl) (by rfl) T2.out (by rfl) ?_)
  intro w3 X3 G3
  have HX3 := hide X3
  have L3a : Later w2 w3 := L2b.out.grown G3 (by simp) (fun k hk => by have := Option.some.inj hk; omega)
  have L3b : Later W1 w2 := L2.out
  have L3 : Hid (Later W1 w3) := Later.trans L3b L3a
  have L23 : Hid (Later w2 w3) := L3a
  have Y3 : Hid (RBox (d + 1) (errR 0) w3) := Y1.out.below L3.out
  have H3 := hide (H1.out.later L3.out)
  have CO : Hid (∀ W, Later w3 W → Calls Tryz.prog 49 #[.pointer (some ⟨g, 0, none⟩)] W (Gives (.int .i64 ((openN t.L : Nat) : Int)) W)) := fun W hW => ropen_any (H3.out.later hW) hn
  have CM : Hid (∀ W, Later w3 W → W.cell? ⟨g, 0, none⟩ = some (.int .i64 most)) := fun W hW => by
    obtain ⟨_, _, _, hb, _⟩ := (H3.out.later hW).body
    exact cell_of_row W g 0 _ _ _ hb
  obtain ⟨o, ho⟩ : ∃ o : Int, ((openN t.L : Nat) : Int) = o := ⟨_, rfl⟩
  rw [ho] at CO hfu
  clear ho
  clear X3 G3 L3a L3b
  go_wp2_with (fail)
  refine wp_region_L (by kernel_rfl) ?_
  refine wpAnyL_take (i := 0) (d := some 18) (v := ?vaa0) rfl rfl (by kernel_rfl) (by kernel_rfl) (by kernel_rfl) (fun _ _ _ h => h) (by rfl) ?yaa0 ?_
  case yaa0 => (intro w' hw'; go_simp; try (with_reducible rfl))
  simp only [Act.put]; try simp only [sA_, sZ_, sS_]
  refine wpAnyL_take (i := 2) (d := some 20) (v := ?vaa2) rfl rfl (by kernel_rfl) (by kernel_rfl) (by kernel_rfl) (fun _ _ _ h => h) (by rfl) ?yaa2 ?_
  case yaa2 => (intro w' hw'; go_simp; try (with_reducible rfl))
  simp only [Act.put]; try simp only [sA_, sZ_, sS_]
  refine wpAnyL_take (i := 3) (d := some 21) (v := ?vaa3) rfl rfl (by kernel_rfl) (by kernel_rfl) (by kernel_rfl) (fun _ _ _ h => h) (by rfl) ?yaa3 ?_
  case yaa3 => (intro w' hw'; go_simp; try (with_reducible rfl))
  simp only [Act.put]; try simp only [sA_, sZ_, sS_]
  refine wpAnyL_take (i := 4) (d := some 22) (v := ?vaa4) rfl rfl (by kernel_rfl) (by kernel_rfl) (by kernel_rfl) (fun _ _ _ h => h) (by rfl) ?yaa4 ?_
  case yaa4 => (intro w' hw'; go_simp; try (with_reducible rfl))
  simp only [Act.put]; try simp only [sA_, sZ_, sS_]
  refine wpAnyL_take (i := 5) (d := some 23) (v := ?vaa5) rfl rfl (by kernel_rfl) (by kernel_rfl) (by kernel_rfl) (fun _ _ _ h => h) (by rfl) ?yaa5 ?_
  case yaa5 => (intro w' hw'; have hd1 : Later w3 w3.drew := Later.drew _; have cc := CM.out _ (Later.trans hd1 hw'); clear hd1; go_simp; try (with_reducible rfl))
  simp only [Act.put]; try simp only [sA_, sZ_, sS_]
  refine wpAnyL_only (i := 1) rfl (by kernel_rfl) (by rfl) fun K hK => ?_
  go_simp
  refine (CO.out _ (Later.drew _)).mono ?_
  rintro e w4 ⟨rfl, hl4⟩
  have hd1 : Later w3 w3.drew := Later.drew _
  have L34 : Hid (Later w3 w4) := Later.trans hd1 hl4
  clear hd1
  refine hK.out _ _ hl4 ?_
  clear hl4
  clear hK K
  try (simp only [Act.put]; try simp only [sA_, sZ_, sS_])
  refine wpAnyL_take (i := 6) (d := some 24) (v := ?vaa6) rfl rfl (by kernel_rfl) (by kernel_rfl) (by kernel_rfl) (fun _ _ _ h => h) (by rfl) ?yaa6 ?_
  case yaa6 => (intro w' hw'; go_simp; try (with_reducible rfl))
  simp only [Act.put]; try simp only [sA_, sZ_, sS_]
  refine wpAnyL_done (by kernel_rfl) ?_ _
  have L4a : Later W1 w3 := L3.out
  have L4 : Hid (Later W1 w4) := Later.trans L4a L34.out
  have Y4 : Hid (RBox (d + 1) (errR 0) w4) := Y1.out.below L4.out
  clear L4a CO CM
  go_wp2_with (refine wpList_store_rep (r := errR 7) (by rfl) _ _ (by rfl) (by rfl) Y4.out (by rfl) ?_)
  intro w9 Z9 G9
  have HZ := hide Z9
  have T9 : Hid (Turned (fun i => i = d + 1) w4 w9) := Turned.of_grown G9 (fun g e => (Option.some.inj e).symm)
  clear Z9 G9
  go_wp2
  refine bodyPost_ret (results_cell_row Tryz.results34 _ _ (d + 1) 44 _ (0, 0) _ (by rfl) HZ.out Tryz.underlying44 (by rfl) (by kernel_rfl)) (by rfl) ?_
  have B9 := (H1.out.later L4.out).turned T9.out (by have := HYG.out; omega) (fun i hi => hi.2)
  have La : Later w W1 := L1.out
  have Lb : Later w w4 := Later.trans La L4.out
  exact ⟨rfl, B9.mono (fun i _ hf => hf.1) HA.out, (Turned.of_below Lb _).onto T9.out (fun i hi => .inr (by have := HY.out; omega))⟩
end
end Go.Proofs.YtpckdhjnhnonhaaGreat
/- The document's start with room. -/
namespace Go.Proofs.YtpckdhjnhnonhaaGreat
open Go.RowKit Go.Maps
section
variable {F : Nat → Prop} {w : World} {g : Nat} {most : Int} {t : BkS}
theorem RBookAt.setLast (h : RBookAt F w g most t) (v : Int) (h0 : 0 ≤ v) (h1 : v ≤ 4611686018427387904) : RBookAt F (w.setCell ⟨g, 1, none⟩ (.int .i64 v)) g most ⟨v, t.L⟩ := by
  have hk : Kept F w (w.setCell ⟨g, 1, none⟩ (.int .i64 v)) := ⟨by simp, fun i _ hf => heap_setCell_other _ _ _ _ (fun e => h.apart ((show i = g from e) ▸ hf))⟩
  obtain ⟨A, c, f, a1, a2, a3⟩ := h.body
  exact ⟨⟨A, c, f, heap_setCell_same w g 1 _ _ _ a1, a2.kept hk, fun x hx => (a3 x hx).kept hk⟩, ⟨h.ok.1, h.ok.2.1, h0, h1⟩, h.apart⟩
set_option maxHeartbeats 8000000 in
set_option maxRecDepth 100000 in
theorem rstart_few {F0 : Nat → Prop} {name : ByteArray} {A : Option Addr} {n c : Nat} {l : List StepD} (h : RBookAt F w g most t) (hn : t.L.length < 32) (hst : StepsAt F0 w (.slice A n c) l) (he : (checkF name l).2 = 0) (hw : ∀ a ∈ l, a.wf) (hfu : (openN t.L : Int) < most)
    (hla : t.last < 4611686018427387904) (hF : ∀ i, w.heap.size ≤ i → F i) :
    Calls Tryz.prog 34 #[.pointer (some ⟨g, 0, none⟩), .agg #[.string name, .slice A n c]] w (RDid F g most ⟨0, t.last + 1, 1, 1⟩ ⟨t.last + 1, putE (newE (t.last + 1) name l) t.L⟩ w) := by
  have HOK := hide (newE_ok (id := t.last + 1) he hw (by have := h.ok.2.2.1; omega))
  have HIX : Hid ((newE (t.last + 1) name l).id ≤ 4611686018427387904) := by show t.last + 1 ≤ _; omega
  have hl0 := h.ok.2.2.1
  have HF := hide hF
  have HRISE := hide h.ok.1
  clear hF hw
  obtain ⟨la, hlast⟩ : ∃ la, t.last = la := ⟨_, rfl⟩
  rw [hlast] at HOK HIX hla hl0 ⊢
  have HLA := hide hlast
  clear hlast
  have hlt := h.lt
  obtain ⟨W1, hW1⟩ : ∃ W1, W1 = (w.alloc (.cells #[.string name, .slice A n c] 31 (0, 0))).alloc (.cells #[.int .i64 0, .int .i64 0, .int .i64 0, .int .i64 0] 44 (0, 0)) := ⟨_, rfl⟩
  obtain ⟨d, hd⟩ : ∃ d, d = w.heap.size := ⟨_, rfl⟩
  have X1 : Hid (DefBox d name (.slice A n c) W1) := by rw [hW1, hd]; exact (heap_alloc_old _ _ (by simp)).trans (heap_alloc_new _ _)
  have Y1 : Hid (RBox (d + 1) (errR 0) W1) := by rw [hW1, hd]; exact heap_second _ _ _
  have L1 : Hid (Later w W1) := by rw [hW1]; exact ((Below.refl _ _).alloc (Nat.le_refl _) _).alloc (by simp) _
  have HYG : Hid (g < d + 1) := by rw [hd]; show g < _; omega
  have HY : Hid (w.heap.size ≤ d + 1) := by rw [hd]; exact Nat.le_succ _
  have HYW : Hid (d + 1 < W1.heap.size) := lt_of_block Y1.out
  have h1 : RBookAt (fun i => F i ∧ i ≠ d + 1) W1 g most t := (h.mono (G := fun i => F i ∧ i ≠ d + 1) (fun i hi hf => ⟨hf, by omega⟩) (fun e => h.apart e.1)).later L1.out
  have H1 := hide h1
  have HA := hide h.apart
  have hst1 := StepsAt.kept hst (Kept.of_below L1.out _)
  have c0 : W1.cell? ⟨d, 0, none⟩ = some (.string name) := X1.out.name_
  have c1 : W1.cell? ⟨d, 1, none⟩ = some (.slice A n c) := X1.out.steps
  rw [hW1, hd] at c0 c1
  have C := hide (rbegin_ok hst1 he)
  have HE := hide he
  clear he
  have HW1 := hide hW1.symm
  have HG := hide hd.symm
  clear h hst hst1 hW1 hd h1 hlt
  go_enter Tryz.func34, Tryz.ntmps34
  go_wp2_with (fail)
  simp only [HW1.out, HG.out]
  refine C.out.mono ?_
  rintro e w2 ⟨p, m, q, rfl, hs, hl2⟩
  obtain ⟨s2, hs2⟩ : ∃ s2, SagaD.mk name p m q 1 1 1 (upH 0) = s2 := ⟨_, rfl⟩
  rw [hs2]
  have HS2 := hide hs2
  have HS := hide hs
  have T2 : Hid (SBox 39 w2.heap.size SagaD.zero (w2.alloc (.cells #[.string ⟨#[]⟩, .slice none 0 0, .int .i64 0, .int .i64 0, .int .i64 0, .bool false, .bool false, .bool false, .bool false, .bool false, .bool false, .bool false, .bool false] 39 (0, 0)))) := heap_alloc_new _ _
  have L2b : Hid (Later w2 (w2.alloc (.cells #[.string ⟨#[]⟩, .slice none 0 0, .int .i64 0, .int .i64 0, .int .i64 0, .bool false, .bool false, .bool false, .bool false, .bool false, .bool false, .bool false, .bool false] 39 (0, 0)))) := (Below.refl _ _).alloc (Nat.le_refl _) _
  have L2 : Hid (Later W1 w2) := hl2
  clear hl2 C hs hs2
  go_wp2_with (refine wpList_rstore_saga (s := s2) (by rfl) _ _ (by rfl) (by rfl) T2.out (by rfl) ?_)
  intro w3 X3 G3
  have HX3 := hide X3
  have L3a : Later w2 w3 := L2b.out.grown G3 (by simp) (fun k hk => by have := Option.some.inj hk; omega)
  have L3b : Later W1 w2 := L2.out
  have L3 : Hid (Later W1 w3) := Later.trans L3b L3a
  have L23 : Hid (Later w2 w3) := L3a
  have Y3 : Hid (RBox (d + 1) (errR 0) w3) := Y1.out.below L3.out
  have H3 := hide (H1.out.later L3.out)
  have CO : Hid (∀ W, Later w3 W → Calls Tryz.prog 49 #[.pointer (some ⟨g, 0, none⟩)] W (Gives (.int .i64 ((openN t.L : Nat) : Int)) W)) := fun W hW => ropen_any (H3.out.later hW) (by omega)
  have CM : Hid (∀ W, Later w3 W → W.cell? ⟨g, 0, none⟩ = some (.int .i64 most)) := fun W hW => by
    obtain ⟨_, _, _, hb, _⟩ := (H3.out.later hW).body
    exact cell_of_row W g 0 _ _ _ hb
  obtain ⟨o, ho⟩ : ∃ o : Int, ((openN t.L : Nat) : Int) = o := ⟨_, rfl⟩
  rw [ho] at CO hfu
  have hfu2 : decide (most ≤ o) = false := by simp; omega
  clear ho
  clear X3 G3 L3a L3b
  go_wp2_with (fail)
  refine wp_region_L (by kernel_rfl) ?_
  refine wpAnyL_take (i := 0) (d := some 18) (v := ?vaa0) rfl rfl (by kernel_rfl) (by kernel_rfl) (by kernel_rfl) (fun _ _ _ h => h) (by rfl) ?yaa0 ?_
  case yaa0 => (intro w' hw'; go_simp; try (with_reducible rfl))
  simp only [Act.put]; try simp only [sA_, sZ_, sS_]
  refine wpAnyL_take (i := 2) (d := some 20) (v := ?vaa2) rfl rfl (by kernel_rfl) (by kernel_rfl) (by kernel_rfl) (fun _ _ _ h => h) (by rfl) ?yaa2 ?_
  case yaa2 => (intro w' hw'; go_simp; try (with_reducible rfl))
  simp only [Act.put]; try simp only [sA_, sZ_, sS_]
  refine wpAnyL_take (i := 3) (d := some 21) (v := ?vaa3) rfl rfl (by kernel_rfl) (by kernel_rfl) (by kernel_rfl) (fun _ _ _ h => h) (by rfl) ?yaa3 ?_
  case yaa3 => (intro w' hw'; go_simp; try (with_reducible rfl))
  simp only [Act.put]; try simp only [sA_, sZ_, sS_]
  refine wpAnyL_take (i := 4) (d := some 22) (v := ?vaa4) rfl rfl (by kernel_rfl) (by kernel_rfl) (by kernel_rfl) (fun _ _ _ h => h) (by rfl) ?yaa4 ?_
  case yaa4 => (intro w' hw'; go_simp; try (with_reducible rfl))
  simp only [Act.put]; try simp only [sA_, sZ_, sS_]
  refine wpAnyL_take (i := 5) (d := some 23) (v := ?vaa5) rfl rfl (by kernel_rfl) (by kernel_rfl) (by kernel_rfl) (fun _ _ _ h => h) (by rfl) ?yaa5 ?_
  case yaa5 => (intro w' hw'; have hd1 : Later w3 w3.drew := Later.drew _; have cc := CM.out _ (Later.trans hd1 hw'); clear hd1; go_simp; try (with_reducible rfl))
  simp only [Act.put]; try simp only [sA_, sZ_, sS_]
  refine wpAnyL_only (i := 1) rfl (by kernel_rfl) (by rfl) fun K hK => ?_
  go_simp
  refine (CO.out _ (Later.drew _)).mono ?_
  rintro e w4 ⟨rfl, hl4⟩
  have hd1 : Later w3 w3.drew := Later.drew _
  have L34 : Hid (Later w3 w4) := Later.trans hd1 hl4
  clear hd1
  refine hK.out _ _ hl4 ?_
  clear hl4
  clear hK K
  try (simp only [Act.put]; try simp only [sA_, sZ_, sS_])
  refine wpAnyL_take (i := 6) (d := some 24) (v := ?vaa6) rfl rfl (by kernel_rfl) (by kernel_rfl) (by kernel_rfl) (fun _ _ _ h => h) (by rfl) ?yaa6 ?_
  case yaa6 => (intro w' hw'; go_simp; try (with_reducible rfl))
  simp only [Act.put]; try simp only [sA_, sZ_, sS_]
  refine wpAnyL_done (by kernel_rfl) ?_ _
  have L4a : Later W1 w3 := L3.out
  have L4 : Hid (Later W1 w4) := Later.trans L4a L34.out
  have H4 := hide (H1.out.later L4.out)
  clear L4a CO CM
  obtain ⟨A3, c3, f3, hb3, _, _⟩ := H4.out.body
  have d2 := cell_of_row w4 g 2 _ _ _ hb3
  simp only [List.getElem?_toArray, List.getElem?_cons_succ, List.getElem?_cons_zero] at d2
  obtain ⟨n3, hn3⟩ : ∃ n3, t.L.length = n3 := ⟨_, rfl⟩
  rw [hn3] at d2 hn
  have HN3 := hide hn3
  have hlen : ¬ ((32 : Int) ≤ (n3 : Int)) := by omega
  clear hb3 hn3
  have H5 := hide H4.out
  have X5 : Hid (w4.heap[w2.heap.size]? = some (.cells s2.cells.toArray 39 (0, 0))) := HX3.out.below L34.out
  have HS5 : Hid (StepsAt (fun i => W1.heap.size ≤ i ∧ i ≠ g) w4 (.slice p m q) l) := by
    have g1 : StepsAt (fun i => W1.heap.size ≤ i ∧ i ≠ g) w2 (.slice p m q) l := StepsAt.mono HS.out fun i _ hi => by
      have a1 : W1.heap.size ≤ i := hi
      have a2 := H1.out.lt
      exact ⟨a1, by omega⟩
    exact StepsAt.kept (StepsAt.kept g1 (Kept.of_below L23.out _)) (Kept.of_below L34.out _)
  have HSZ5 : Hid (W1.heap.size ≤ w4.heap.size) := Below.size L4.out
  have Y5 : Hid (RBox (d + 1) (errR 0) w4) := Y1.out.below L4.out
  have TW5 : Hid (Turned (fun i => i = g) W1 w4) := Turned.of_below L4.out _
  have HLEN : Hid (t.L.length ≤ 900) := by show _ ≤ _; rw [HN3.out]; omega
  obtain ⟨A5, c5, f5, hb5, _, _⟩ := H5.out.body
  have hc1 := cell_of_row w4 g 1 _ _ _ hb5
  simp only [List.getElem?_toArray, List.getElem?_cons_succ, List.getElem?_cons_zero] at hc1
  rw [HLA.out] at hc1
  have hf1 := frozen_of_row w4 g 1 _ _ hb5
  obtain ⟨W6, hW6⟩ : ∃ W6, W6 = w4.setCell ⟨g, 1, none⟩ (.int .i64 (la + 1)) := ⟨_, rfl⟩
  have H6 : Hid (RBookAt (fun i => F i ∧ i ≠ d + 1) W6 g most ⟨la + 1, t.L⟩) := by rw [hW6]; exact H5.out.setLast (la + 1) (by omega) (by omega)
  have T6 : Hid (Turned (fun i => i = g) w4 W6) := by rw [hW6]; exact turned_setCell _ _ _ _
  have HG2 : Hid (g < w2.heap.size) := (H1.out.later L2.out).lt
  have X6 : Hid (W6.heap[w2.heap.size]? = some (.cells s2.cells.toArray 39 (0, 0))) := (T6.out.block w2.heap.size (lt_of_block X5.out) (fun e => by have := HG2.out; omega)).trans X5.out
  have HS6 : Hid (StepsAt (fun i => F i ∧ i ≠ d + 1) W6.drew (.slice p m q) l) := by
    have g4 := StepsAt.kept (StepsAt.kept HS5.out (T6.out.kept fun i hi e => hi.2 e)) (Kept.drew _ _)
    refine StepsAt.mono g4 fun i _ hi => ?_
    have a2 : W1.heap.size ≤ i := hi.1
    have a3 := HYW.out
    have a4 := Below.size L1.out
    exact ⟨HF.out i (by omega), by omega⟩
  have HF6 : Hid (∀ i, W6.drew.heap.size ≤ i → F i ∧ i ≠ d + 1) := fun i hi => by
    have a1 : W6.heap.size ≤ i := hi
    have a2 := T6.out.size
    have a3 := HSZ5.out
    have a4 := HYW.out
    have a5 := Below.size L1.out
    exact ⟨HF.out i (by omega), by omega⟩
  have C61 : Hid (W6.drew.cell? ⟨g, 1, none⟩ = some (.int .i64 (la + 1))) := by
    obtain ⟨_, _, _, hb, _⟩ := H6.out.body
    exact cell_of_row W6 g 1 _ _ _ hb
  have HGW : Hid (g < W6.drew.heap.size) := H6.out.lt
  have HV2 : ((newE (la + 1) name l).s.withV p m q).val = s2.val := by rw [← HS2.out]; rfl
  have CP : Hid (Calls Tryz.prog 36 #[.pointer (some ⟨g, 0, none⟩), .int .i64 (la + 1), s2.val] W6.drew fun e w' => e = .returned (.tuple #[]) ∧ RBookAt (fun i => F i ∧ i ≠ d + 1) w' g most ⟨la + 1, putE (newE (la + 1) name l) t.L⟩ ∧ Turned (· = g) W6.drew w') := by
    rw [← HV2]
    exact rput_any (x := newE (la + 1) name l) (H6.out.later (Later.drew _)) HS6.out ⟨HOK.out, HIX.out⟩ HF6.out (HLEN.out)
  have HW6 := hide hW6.symm
  clear hW6 hb5 HV2
  go_wp2_with (fail)
  rw [HW6.out]
  clear hc1 hf1
  refine wp_region_S (fun j => j == 6) (by kernel_rfl) ?_
  refine wpAnyS_take (i := 0) (d := some 73) (v := ?vab0) rfl rfl (by kernel_rfl) (by kernel_rfl) (by kernel_rfl) (by kernel_rfl) (by kernel_rfl) (fun _ _ _ h => h) (by rfl) ?yab0 ?_
  case yab0 => (intro w' hw'; go_simp; try (with_reducible rfl))
  simp only [Act.put]; try simp only [sA_, sZ_, sS_]
  refine wpAnyS_take (i := 1) (d := some 74) (v := ?vab1) rfl rfl (by kernel_rfl) (by kernel_rfl) (by kernel_rfl) (by kernel_rfl) (by kernel_rfl) (fun _ _ _ h => h) (by rfl) ?yab1 ?_
  case yab1 => (intro w' hw'; go_simp; try (with_reducible rfl))
  simp only [Act.put]; try simp only [sA_, sZ_, sS_]
  refine wpAnyS_take (i := 2) (d := some 75) (v := ?vab2) rfl rfl (by kernel_rfl) (by kernel_rfl) (by kernel_rfl) (by kernel_rfl) (by kernel_rfl) (fun _ _ _ h => h) (by rfl) ?yab2 ?_
  case yab2 => (intro w' hw'; go_simp; try (with_reducible rfl))
  simp only [Act.put]; try simp only [sA_, sZ_, sS_]
  refine wpAnyS_take (i := 3) (d := some 76) (v := ?vab3) rfl rfl (by kernel_rfl) (by kernel_rfl) (by kernel_rfl) (by kernel_rfl) (by kernel_rfl) (fun _ _ _ h => h) (by rfl) ?yab3 ?_
  case yab3 => (intro w' hw'; go_simp; try (with_reducible rfl))
  simp only [Act.put]; try simp only [sA_, sZ_, sS_]
  refine wpAnyS_take (i := 4) (d := some 77) (v := ?vab4) rfl rfl (by kernel_rfl) (by kernel_rfl) (by kernel_rfl) (by kernel_rfl) (by kernel_rfl) (fun _ _ _ h => h) (by rfl) ?yab4 ?_
  case yab4 => (intro w' hw'; have cc : w'.cell? ⟨g, 1, none⟩ = some (.int .i64 (la + 1)) := (Below.cell hw' (p := ⟨g, 1, none⟩) HGW.out).trans C61.out; go_simp; try (with_reducible rfl))
  simp only [Act.put]; try simp only [sA_, sZ_, sS_]
  refine wpAnyS_take (i := 5) (d := some 78) (v := s2.val) rfl rfl (by kernel_rfl) (by kernel_rfl) (by kernel_rfl) (by kernel_rfl) (by kernel_rfl) (fun _ _ _ h => h) (by rfl) ?yab5 ?_
  case yab5 => (intro w' hw'; exact exec_load_ritem (s := s2) _ (by rfl) (by rfl) (range_boxS (show w'.heap[w2.heap.size]? = some (.cells s2.cells.toArray 39 (0, 0)) from (Below.block hw' w2.heap.size (lt_of_block X6.out)).trans X6.out)))
  simp only [Act.put]; try simp only [sA_, sZ_, sS_]
  refine wpAnyS_write (i := 6) rfl rfl (by kernel_rfl) (by rfl) fun K hK => ?_
  go_simp
  refine CP.out.mono ?_
  rintro e w7 ⟨rfl, hp7, ht7⟩
  have HP7 := hide hp7
  have T7 : Hid (Turned (fun i => i = g) W6 w7) := Turned.of_drew ht7
  refine hK.out _ _ ?_
  clear hp7 ht7
  clear hK K
  try (simp only [Act.put]; try simp only [sA_, sZ_, sS_])
  refine wpAnyS_done (by kernel_rfl) ?_ _
  have d1 : w7.cell? ⟨g, 1, none⟩ = some (.int .i64 (la + 1)) := by
    obtain ⟨_, _, _, hb, _⟩ := HP7.out.body
    exact cell_of_row w7 g 1 _ _ _ hb
  have CS := hide (rstatus_any (id := la + 1) HP7.out (by have := putE_len (newE (la + 1) name l) t.L; have := HLEN.out; show (putE _ _).length ≤ _; omega))
  have hsp : statusF (putE (newE (la + 1) name l) t.L) (la + 1) = ⟨0, la + 1, 1, 1⟩ := statusF_put (newE (la + 1) name l) HRISE.out
  simp only at CS
  rw [hsp] at CS
  have Y6 := Y5.out.turned T6.out (by have := HYG.out; omega)
  have Y7 : Hid (RBox (d + 1) (errR 0) w7) := Y6.turned T7.out (by have := HYG.out; omega)
  clear hsp Y6
  go_wp2_with (fail)
  refine CS.out.mono ?_
  rintro e w8 ⟨rfl, hl8⟩
  have HP8 := hide (HP7.out.later hl8)
  have Y8 : Hid (RBox (d + 1) (errR 0) w8) := Y7.out.below hl8
  have T8 : Hid (Turned (fun i => i = g) W6 w8) := T7.out.trans (Turned.of_below hl8 _)
  clear hl8 CS d1
  go_wp2_with (refine wpList_store_rep (r := ⟨0, la + 1, 1, 1⟩) (by rfl) _ _ (by rfl) (by rfl) Y8.out (by rfl) ?_)
  intro w9 Z9 G9
  have HZ := hide Z9
  have T9 : Hid (Turned (fun i => i = d + 1) w8 w9) := Turned.of_grown G9 (fun g e => (Option.some.inj e).symm)
  clear Z9 G9
  go_wp2
  refine bodyPost_ret (results_cell_row Tryz.results34 _ _ (d + 1) 44 _ (0, 0) _ (by rfl) HZ.out Tryz.underlying44 (by rfl) (by kernel_rfl)) (by rfl) ?_
  have B9 := (HP8.out).turned T9.out (by have := HYG.out; omega) (fun i hi => hi.2)
  have La : Later w W1 := L1.out
  have Ta : Turned (fun i => i = g) w W1 := Turned.of_below La _
  have Td : Turned (fun i => i = g) w w8 := ((Ta.trans TW5.out).trans T6.out).trans T8.out
  exact ⟨rfl, B9.mono (fun i _ hf => hf.1) HA.out, Td.onto T9.out (fun i hi => .inr (by have := HY.out; omega))⟩
end
end Go.Proofs.YtpckdhjnhnonhaaGreat
/- Rows of items at single operations: an empty literal, an append. -/
namespace Go.Proofs.YtpckdhjnhnonhaaGreat
open Go.RowKit Go.Maps
theorem owns_no_items (w : World) (B : Nat) (hB : B ≤ w.heap.size) : (w.alloc (.cells #[] 73 (0, 0))).ownsRow B 73 14 (.slice (some ⟨w.heap.size, 0, none⟩) 0 0) 0 [] :=
  ⟨by simp, .inr ⟨w.heap.size, 0, #[], rfl, hB, heap_alloc_new w _, Nat.le_refl _, by unfold maxLen; omega, by simp, by simp⟩⟩
section
variable {op : Oper} {a : Act} {w : World} {K : Act → World → Prop} {Q : Exit → Act → World → Prop}
theorem wp_empty_items (ho : op.op = .buildSlice 56 0 #[])
    (h : ∀ w', w'.ownsRow w.heap.size 73 14 (.slice (some ⟨w.heap.size, 0, none⟩) 0 0) 0 [] → Below w.heap.size w w' → K (a.put op.dst (.slice (some ⟨w.heap.size, 0, none⟩) 0 0)) w') : op.wp Tryz.prog a w K Q := by
  obtain ⟨i0, hi, _⟩ := info_parts info_item
  have hr := run_buildSlice_none (P := Tryz.prog) (w := w) 56 73 i0 Tryz.underlying56 hi
  unfold Oper.wp
  simp only [execOp, ho, List.map_toArray, List.map_nil, Sem.run_bind, Sem.run_pure, hr, Result.andThen_ok]
  exact h _ (owns_no_items w _ (Nat.le_refl _)) ((Below.refl _ _).alloc (Nat.le_refl _) _)
theorem wp_append_items (s x : Operand)
    (ho : op.op = .call { callee := .builtin .append, args := #[s, x], argTypes := #[56, 56] })
    (base : Nat) (v : Value) (n : Nat) (xs : List Value) (hs : a.eval s = v) (hown : w.ownsRow base 73 14 v n xs)
    (F : Nat → Prop) (A : Option Addr) (m c : Nat) (ys : List Value) (hx : a.eval x = .slice A m c) (hl : FlatAt F w 14 (.slice A m c) m ys) (hn : n ≤ 1000) (hm : m ≤ 1000) (hbase : base ≤ w.heap.size)
    (h : ∀ v' w', w'.ownsRow base 73 14 v' (n + m) (xs ++ ys) → w.grownBy w' v.ownBlock → K (a.put op.dst v') w') : op.wp Tryz.prog a w K Q := by
  obtain ⟨i0, hi, hz0, hz1, hz2⟩ := info_parts info_item
  obtain ⟨v', w', hr, h2, h3⟩ := run_append_flat (P := Tryz.prog) w base 56 op.type 73 i0 _ 14 80 Tryz.underlying56 hi hz0 hz1 hz2 (by rfl) (by decide) v n xs hown F A m c ys hl (by unfold maxLen; omega) (by omega) hbase
  unfold Oper.wp execOp
  simp only [ho, resolve, invoke, builtin, Sem.run_bind, Sem.run_pure, Result.andThen_ok, List.map_toArray, List.map_cons, List.map_nil, hs, hx, hr]
  exact h v' w' h2 h3
end
theorem items_drop (f : Int → Loc) (L : List Ent) (i : Nat) (hi : i < L.length) : ((L.flatMap (itemC f)).take (i * 14)).drop (0 * 14) ++ ((L.flatMap (itemC f)).take (L.length * 14)).drop ((i + 1) * 14) = (L.take i ++ L.drop (i + 1)).flatMap (itemC f) := by
  have hk : ∀ z ∈ L, (itemC f z).length = 14 := fun z _ => itemC_len f z
  have hlen : ∀ M : List Ent, (M.flatMap (itemC f)).length = M.length * 14 := fun M => by
    induction M with
    | nil => rfl
    | cons x r ih => rw [List.flatMap_cons, List.length_append, ih, itemC_len, List.length_cons]; omega
  have htake : ∀ j, j ≤ L.length → (L.flatMap (itemC f)).take (j * 14) = (L.take j).flatMap (itemC f) := fun j hj => by
    have e : L.flatMap (itemC f) = (L.take j).flatMap (itemC f) ++ (L.drop j).flatMap (itemC f) := by rw [← List.flatMap_append, List.take_append_drop]
    rw [e, List.take_left' (by rw [hlen, List.length_take, Nat.min_eq_left hj])]
  have hdrop : ∀ j, j ≤ L.length → (L.flatMap (itemC f)).drop (j * 14) = (L.drop j).flatMap (itemC f) := fun j hj => by
    have e : L.flatMap (itemC f) = (L.take j).flatMap (itemC f) ++ (L.drop j).flatMap (itemC f) := by rw [← List.flatMap_append, List.take_append_drop]
    rw [e, List.drop_left' (by rw [hlen, List.length_take, Nat.min_eq_left hj])]
  rw [Nat.zero_mul, List.drop_zero, htake i (by omega), htake L.length (Nat.le_refl _), List.take_length, hdrop (i + 1) (by omega), List.flatMap_append]
end Go.Proofs.YtpckdhjnhnonhaaGreat
/- What lies ahead of an item and behind it. -/
namespace Go.Proofs.YtpckdhjnhnonhaaGreat
open Go.RowKit Go.Maps
theorem dropE_at {x : Ent} : ∀ {L : List Ent} {i : Nat}, RiseE L → L[i]? = some x → dropE L x.id = L.take i ++ L.drop (i + 1)
  | [], i, _, h => by simp at h
  | y :: r, 0, hr, h => by
    obtain rfl : y = x := by simpa using h
    obtain ⟨h1, _⟩ := List.pairwise_cons.1 hr
    unfold dropE
    have e : r.filter (fun z => !(z.id == y.id)) = r := List.filter_eq_self.2 fun z hz => by have := h1 z hz; simp; omega
    rw [List.filter_cons, if_neg (by simp), e]
    rfl
  | y :: r, i + 1, hr, h => by
    obtain ⟨h1, h2⟩ := List.pairwise_cons.1 hr
    have h3 : r[i]? = some x := by simpa using h
    have hlt := h1 x (List.mem_of_getElem? h3)
    have ih := dropE_at (L := r) h2 h3
    unfold dropE at ih ⊢
    have hne : (!(y.id == x.id)) = true := by simp; omega
    rw [List.filter_cons, if_pos hne, ih]
    rfl
section
variable {F : Nat → Prop} {w : World} {n c b off : Nat} {xs : List Value}
theorem FlatAt.upto (h : FlatAt F w 14 (.slice (some ⟨b, off, none⟩) n c) n xs) {q : Nat} (hq : q < n) : FlatAt F w 14 (.slice (some ⟨b, off, none⟩) q c) q ((xs.take (q * 14)).drop (0 * 14)) := by
  obtain ⟨hl, ho, A', c', hv, hc, hm, _, hr⟩ := h
  injection hv with e1 _ e3
  subst e1
  subst e3
  obtain ⟨b', off', e, hF, hb, hr⟩ := hr (by omega)
  injection e with e
  injection e with e2 e3
  subst e2
  subst e3
  refine ⟨by rw [List.length_drop, List.length_take, hl]; omega, fun u hu => ho u (List.mem_of_mem_take (List.mem_of_mem_drop hu)), _, _, rfl, by omega, hm, (fun h => by cases h), fun _ => ⟨b, off, rfl, hF, hb, fun j u hj => ?_⟩⟩
  rw [Nat.zero_mul, List.drop_zero, List.getElem?_take] at hj
  split at hj
  · exact hr j u hj
  · cases hj
theorem FlatAt.behind (h : FlatAt F w 14 (.slice (some ⟨b, off, none⟩) n c) n xs) {q : Nat} (hq : q < n) : FlatAt F w 14 (.slice (some ⟨b, off + (q + 1) * 14, none⟩) (n - (q + 1)) (c - (q + 1))) (n - (q + 1)) ((xs.take (n * 14)).drop ((q + 1) * 14)) := by
  obtain ⟨hl, ho, A', c', hv, hc, hm, _, hr⟩ := h
  injection hv with e1 _ e3
  subst e1
  subst e3
  obtain ⟨b', off', e, hF, hb, hr⟩ := hr (by omega)
  injection e with e
  injection e with e2 e3
  subst e2
  subst e3
  refine ⟨by rw [List.length_drop, List.length_take, hl]; omega, fun u hu => ho u (List.mem_of_mem_take (List.mem_of_mem_drop hu)), _, _, rfl, by omega, by omega, (fun h => by cases h), fun _ => ⟨b, _, rfl, hF, hb, fun j u hj => ?_⟩⟩
  rw [List.getElem?_drop, List.take_of_length_le (by omega)] at hj
  have := hr _ u hj
  rw [← Nat.add_assoc] at this
  exact this
end
end Go.Proofs.YtpckdhjnhnonhaaGreat
/- The document's start with 32 sagas. -/
namespace Go.Proofs.YtpckdhjnhnonhaaGreat
open Go.RowKit Go.Maps
theorem rown_shape {w : World} {base e k n : Nat} {v : Value} {xs : List Value} (h : w.ownsRow base e k v n xs) : ∃ A c, v = .slice A n c := by
  rcases h.2 with ⟨hv, hn⟩ | ⟨g, cap, cur, hv, _⟩
  · exact ⟨none, 0, by rw [hv, hn]⟩
  · exact ⟨_, _, hv⟩
section
variable {F : Nat → Prop} {w : World} {g : Nat} {most : Int} {t : BkS}
theorem room_done {w4 wc : World} {A3 A9 : Option Addr} {c3 c9 base : Nat} {f3 : Int → Loc} {L : List Ent} (hb4 : w4.heap[g]? = some (.cells #[.int .i64 most, .int .i64 t.last, .slice A3 t.L.length c3] 58 (0, 0)))
    (hst : ∀ z ∈ t.L, StepsAt F w4 (f3 z.id).v z.l) (hok : BkOk t) (hap : ¬ F g) (hL : RiseE L) (hsub : ∀ x ∈ L, x ∈ t.L) (hF : ∀ i, base ≤ i → F i) (hl : Later w4 wc)
    (ho : wc.ownsRow base 73 14 (.slice A9 L.length c9) L.length (L.flatMap (itemC f3))) :
    RBookAt F (wc.setCell ⟨g, 2, none⟩ (.slice A9 L.length c9)) g most ⟨t.last, L⟩ ∧ Turned (· = g) w4 (wc.setCell ⟨g, 2, none⟩ (.slice A9 L.length c9)) := by
  have hcc := (Below.block hl g (lt_of_block hb4)).trans hb4
  have hgr := grown_set wc g 2 (.slice A9 L.length c9)
  have T : Turned (· = g) w4 (wc.setCell ⟨g, 2, none⟩ (.slice A9 L.length c9)) := Turned.trans (Turned.of_below hl _) (Turned.of_grown hgr fun k e => (Option.some.inj e).symm)
  have hk : Kept F w4 (wc.setCell ⟨g, 2, none⟩ (.slice A9 L.length c9)) := T.kept fun i hi e => hap (e ▸ hi)
  have hg6 : Kept F wc (wc.setCell ⟨g, 2, none⟩ (.slice A9 L.length c9)) := (Turned.of_grown (S := (· = g)) hgr fun k e => (Option.some.inj e).symm).kept fun i hi e => hap (e ▸ hi)
  refine ⟨⟨⟨A9, c9, f3, heap_setCell_same wc g 2 _ _ _ hcc, FlatAt.kept (FlatAt.mono (FlatAt.of_own ho (items_one _ _)) fun i _ hi => hF i hi) hg6, fun z hz => (hst z (hsub z hz)).kept hk⟩, ⟨hL, fun z hz => hok.2.1 z (hsub z hz), hok.2.2⟩, hap⟩, T⟩
set_option maxHeartbeats 8000000 in
set_option maxRecDepth 100000 in
theorem rstart_many {F0 : Nat → Prop} {name : ByteArray} {A : Option Addr} {n c : Nat} {l : List StepD} (h : RBookAt F w g most t) (hn0 : 32 ≤ t.L.length) (hn : t.L.length ≤ 900) (hst : StepsAt F0 w (.slice A n c) l) (he : (checkF name l).2 = 0) (hw : ∀ a ∈ l, a.wf) (hfu : (openN t.L : Int) < most)
    (hla : t.last < 4611686018427387904) (hF : ∀ i, w.heap.size ≤ i → F i) :
    Calls Tryz.prog 34 #[.pointer (some ⟨g, 0, none⟩), .agg #[.string name, .slice A n c]] w (RDid F g most ⟨0, t.last + 1, 1, 1⟩ ⟨t.last + 1, putE (newE (t.last + 1) name l) (roomF t.L)⟩ w) := by
  have HOK := hide (newE_ok (id := t.last + 1) he hw (by have := h.ok.2.2.1; omega))
  have HIX : Hid ((newE (t.last + 1) name l).id ≤ 4611686018427387904) := by show t.last + 1 ≤ _; omega
  have hl0 := h.ok.2.2.1
  have HF := hide hF
  have HRISE := hide (roomF_rise h.ok.1)
  have HRISE0 := hide h.ok.1
  clear hF hw
  obtain ⟨la, hlast⟩ : ∃ la, t.last = la := ⟨_, rfl⟩
  rw [hlast] at HOK HIX hla hl0 ⊢
  have HLA := hide hlast
  clear hlast
  have hlt := h.lt
  obtain ⟨W1, hW1⟩ : ∃ W1, W1 = (w.alloc (.cells #[.string name, .slice A n c] 31 (0, 0))).alloc (.cells #[.int .i64 0, .int .i64 0, .int .i64 0, .int .i64 0] 44 (0, 0)) := ⟨_, rfl⟩
  obtain ⟨d, hd⟩ : ∃ d, d = w.heap.size := ⟨_, rfl⟩
  have X1 : Hid (DefBox d name (.slice A n c) W1) := by rw [hW1, hd]; exact (heap_alloc_old _ _ (by simp)).trans (heap_alloc_new _ _)
  have Y1 : Hid (RBox (d + 1) (errR 0) W1) := by rw [hW1, hd]; exact heap_second _ _ _
  have L1 : Hid (Later w W1) := by rw [hW1]; exact ((Below.refl _ _).alloc (Nat.le_refl _) _).alloc (by simp) _
  have HYG : Hid (g < d + 1) := by rw [hd]; show g < _; omega
  have HY : Hid (w.heap.size ≤ d + 1) := by rw [hd]; exact Nat.le_succ _
  have HYW : Hid (d + 1 < W1.heap.size) := lt_of_block Y1.out
  have h1 : RBookAt (fun i => F i ∧ i ≠ d + 1) W1 g most t := (h.mono (G := fun i => F i ∧ i ≠ d + 1) (fun i hi hf => ⟨hf, by omega⟩) (fun e => h.apart e.1)).later L1.out
  have H1 := hide h1
  have HA := hide h.apart
  have hst1 := StepsAt.kept hst (Kept.of_below L1.out _)
  have c0 : W1.cell? ⟨d, 0, none⟩ = some (.string name) := X1.out.name_
  have c1 : W1.cell? ⟨d, 1, none⟩ = some (.slice A n c) := X1.out.steps
  rw [hW1, hd] at c0 c1
  have C := hide (rbegin_ok hst1 he)
  have HE := hide he
  clear he
  have HW1 := hide hW1.symm
  have HG := hide hd.symm
  clear h hst hst1 hW1 hd h1 hlt
  go_enter Tryz.func34, Tryz.ntmps34
  go_wp2_with (fail)
  simp only [HW1.out, HG.out]
  refine C.out.mono ?_
  rintro e w2 ⟨p, m, q, rfl, hs, hl2⟩
  obtain ⟨s2, hs2⟩ : ∃ s2, SagaD.mk name p m q 1 1 1 (upH 0) = s2 := ⟨_, rfl⟩
  rw [hs2]
  have HS2 := hide hs2
  have HS := hide hs
  have T2 : Hid (SBox 39 w2.heap.size SagaD.zero (w2.alloc (.cells #[.string ⟨#[]⟩, .slice none 0 0, .int .i64 0, .int .i64 0, .int .i64 0, .bool false, .bool false, .bool false, .bool false, .bool false, .bool false, .bool false, .bool false] 39 (0, 0)))) := heap_alloc_new _ _
  have L2b : Hid (Later w2 (w2.alloc (.cells #[.string ⟨#[]⟩, .slice none 0 0, .int .i64 0, .int .i64 0, .int .i64 0, .bool false, .bool false, .bool false, .bool false, .bool false, .bool false, .bool false, .bool false] 39 (0, 0)))) := (Below.refl _ _).alloc (Nat.le_refl _) _
  have L2 : Hid (Later W1 w2) := hl2
  clear hl2 C hs hs2
  go_wp2_with (refine wpList_rstore_saga (s := s2) (by rfl) _ _ (by rfl) (by rfl) T2.out (by rfl) ?_)
  intro w3 X3 G3
  have HX3 := hide X3
  have L3a : Later w2 w3 := L2b.out.grown G3 (by simp) (fun k hk => by have := Option.some.inj hk; omega)
  have L3b : Later W1 w2 := L2.out
  have L3 : Hid (Later W1 w3) := Later.trans L3b L3a
  have L23 : Hid (Later w2 w3) := L3a
  have Y3 : Hid (RBox (d + 1) (errR 0) w3) := Y1.out.below L3.out
  have H3 := hide (H1.out.later L3.out)
  have CO : Hid (∀ W, Later w3 W → Calls Tryz.prog 49 #[.pointer (some ⟨g, 0, none⟩)] W (Gives (.int .i64 ((openN t.L : Nat) : Int)) W)) := fun W hW => ropen_any (H3.out.later hW) (by omega)
  have CM : Hid (∀ W, Later w3 W → W.cell? ⟨g, 0, none⟩ = some (.int .i64 most)) := fun W hW => by
    obtain ⟨_, _, _, hb, _⟩ := (H3.out.later hW).body
    exact cell_of_row W g 0 _ _ _ hb
  obtain ⟨o, ho⟩ : ∃ o : Int, ((openN t.L : Nat) : Int) = o := ⟨_, rfl⟩
  rw [ho] at CO hfu
  have hfu2 : decide (most ≤ o) = false := by simp; omega
  clear ho
  clear X3 G3 L3a L3b
  go_wp2_with (fail)
  refine wp_region_L (by kernel_rfl) ?_
  refine wpAnyL_take (i := 0) (d := some 18) (v := ?vaa0) rfl rfl (by kernel_rfl) (by kernel_rfl) (by kernel_rfl) (fun _ _ _ h => h) (by rfl) ?yaa0 ?_
  case yaa0 => (intro w' hw'; go_simp; try (with_reducible rfl))
  simp only [Act.put]; try simp only [sA_, sZ_, sS_]
  refine wpAnyL_take (i := 2) (d := some 20) (v := ?vaa2) rfl rfl (by kernel_rfl) (by kernel_rfl) (by kernel_rfl) (fun _ _ _ h => h) (by rfl) ?yaa2 ?_
  case yaa2 => (intro w' hw'; go_simp; try (with_reducible rfl))
  simp only [Act.put]; try simp only [sA_, sZ_, sS_]
  refine wpAnyL_take (i := 3) (d := some 21) (v := ?vaa3) rfl rfl (by kernel_rfl) (by kernel_rfl) (by kernel_rfl) (fun _ _ _ h => h) (by rfl) ?yaa3 ?_
  case yaa3 => (intro w' hw'; go_simp; try (with_reducible rfl))
  simp only [Act.put]; try simp only [sA_, sZ_, sS_]
  refine wpAnyL_take (i := 4) (d := some 22) (v := ?vaa4) rfl rfl (by kernel_rfl) (by kernel_rfl) (by kernel_rfl) (fun _ _ _ h => h) (by rfl) ?yaa4 ?_
  case yaa4 => (intro w' hw'; go_simp; try (with_reducible rfl))
  simp only [Act.put]; try simp only [sA_, sZ_, sS_]
  refine wpAnyL_take (i := 5) (d := some 23) (v := ?vaa5) rfl rfl (by kernel_rfl) (by kernel_rfl) (by kernel_rfl) (fun _ _ _ h => h) (by rfl) ?yaa5 ?_
  case yaa5 => (intro w' hw'; have hd1 : Later w3 w3.drew := Later.drew _; have cc := CM.out _ (Later.trans hd1 hw'); clear hd1; go_simp; try (with_reducible rfl))
  simp only [Act.put]; try simp only [sA_, sZ_, sS_]
  refine wpAnyL_only (i := 1) rfl (by kernel_rfl) (by rfl) fun K hK => ?_
  go_simp
  refine (CO.out _ (Later.drew _)).mono ?_
  rintro e w4 ⟨rfl, hl4⟩
  have hd1 : Later w3 w3.drew := Later.drew _
  have L34 : Hid (Later w3 w4) := Later.trans hd1 hl4
  clear hd1
  refine hK.out _ _ hl4 ?_
  clear hl4
  clear hK K
  try (simp only [Act.put]; try simp only [sA_, sZ_, sS_])
  refine wpAnyL_take (i := 6) (d := some 24) (v := ?vaa6) rfl rfl (by kernel_rfl) (by kernel_rfl) (by kernel_rfl) (fun _ _ _ h => h) (by rfl) ?yaa6 ?_
  case yaa6 => (intro w' hw'; go_simp; try (with_reducible rfl))
  simp only [Act.put]; try simp only [sA_, sZ_, sS_]
  refine wpAnyL_done (by kernel_rfl) ?_ _
  have L4a : Later W1 w3 := L3.out
  have L4 : Hid (Later W1 w4) := Later.trans L4a L34.out
  have H4 := hide (H1.out.later L4.out)
  clear L4a CO CM
  obtain ⟨A3, c3, f3, hb3, hf3, hs3⟩ := H4.out.body
  have d2 := cell_of_row w4 g 2 _ _ _ hb3
  simp only [List.getElem?_toArray, List.getElem?_cons_succ, List.getElem?_cons_zero] at d2
  obtain ⟨n3, hn3⟩ : ∃ n3, t.L.length = n3 := ⟨_, rfl⟩
  rw [hn3] at d2 hn hn0 hf3
  have HFL := hide hf3
  have HB3 := hide hb3
  have HN3 := hide hn3
  have hlen : ((32 : Int) ≤ (n3 : Int)) := by omega
  have HS3 := hide hs3
  clear hb3 hn3 hf3 hs3
  go_wp2
  go_loopw [37] (fun i wr => ∃ q : Nat, q ≤ n3 ∧ i = .int .i64 (q : Int) ∧ Hid (∀ j y, j < q → t.L[j]? = some y → y.isOpen = true) ∧ Hid (Later w4 wr)) (fun i _ => n3 - (Go.RowKit.intOf i).toNat)
  case atStart => exact ⟨0, by omega, rfl, (fun j y hj => by omega), Later.refl _⟩
  case round =>
    obtain ⟨z, hz, rfl, HOP, LR⟩ := hrel
    by_cases hzn : z < n3
    · obtain ⟨b9, off, c', hv, hnc, _, hb, hr⟩ := FlatAt.elem (HFL.out.kept (Kept.of_below LR.out _)) hzn
      obtain ⟨rfl, rfl⟩ : A3 = some ⟨b9, off, none⟩ ∧ c3 = c' := by injection hv with e1 _ e3; exact ⟨e1, e3⟩
      obtain ⟨y, hy⟩ : ∃ y, t.L[z]? = some y := ⟨t.L[z]'(by rw [HN3.out]; exact hzn), List.getElem?_eq_getElem _⟩
      rw [flat_get (itemC f3) 14 t.L z y (fun z _ => itemC_len f3 z) hy] at hr
      have HR := hide hr
      have HY2 := hide hy
      have I5 : Hid (IBox wr.heap.size (.int .i64 0 :: SagaD.zero.cells) (wr.alloc (.cells #[.int .i64 0, .string ⟨#[]⟩, .slice none 0 0, .int .i64 0, .int .i64 0, .int .i64 0, .bool false, .bool false, .bool false, .bool false, .bool false, .bool false, .bool false, .bool false] 73 (0, 0)))) := heap_alloc_new _ _
      have L5a : Hid (Later wr (wr.alloc (.cells #[.int .i64 0, .string ⟨#[]⟩, .slice none 0 0, .int .i64 0, .int .i64 0, .int .i64 0, .bool false, .bool false, .bool false, .bool false, .bool false, .bool false, .bool false, .bool false] 73 (0, 0)))) := (Below.refl _ _).alloc (Nat.le_refl _) _
      clear hv hr hy
      go_wp2_with (first | (refine wpList_val rfl (by rfl) (exec_load_item _ (by rfl) (by rfl) HR.out) ?_) | (refine wpList_store_item (f := f3) (y := y) (by rfl) _ _ (by rfl) (by rfl) I5.out (by rfl) ?_))
      intro w5 Z5 G5
      have L5 : Hid (Later wr w5) := L5a.out.grown G5 (by simp) (fun k hk => by have b1 := Option.some.inj hk; omega)
      have L6 : Hid (Later w4 w5) := Later.trans (show Later w4 wr from LR.out) L5.out
      have HRS := hide (range_item (range_box Z5)).2
      obtain ⟨o1, ho1⟩ : ∃ o1, y.isOpen = o1 := ⟨_, rfl⟩
      have CO1 : Hid (Calls Tryz.prog 50 #[(y.sd f3).val] w5 (Gives (.bool o1) w5)) := by
        rw [← ho1]
        exact ropen1_any (y.sd f3) w5
      have HO1 := hide ho1
      clear Z5 G5 I5 L5a ho1
      go_wp2_with (refine wpList_val rfl (by rfl) (exec_load_ritem (s := y.sd f3) _ (by rfl) (by rfl) HRS.out) ?_)
      refine CO1.out.mono ?_
      rintro e w6 ⟨rfl, hl6⟩
      have L46 : Hid (Later w4 w6) := Later.trans (show Later w4 w5 from L6.out) hl6
      clear hl6 CO1
      cases o1 with
      | true =>
        go_wp2
        go_roundw
        case rel => exact ⟨z + 1, by omega, by go_num, (fun j x hj hx => by
          rcases Nat.lt_or_ge j z with h | h
          · exact HOP.out j x h hx
          · obtain rfl : j = z := by omega
            have e := hx.symm.trans HY2.out
            obtain rfl := Option.some.inj e
            exact HO1.out), L46.out⟩
        case measure => simp [Go.RowKit.intOf]; omega
      | false =>
        have C62 : Hid (∀ W, Below w6.heap.size w6.drew W → W.cell? ⟨g, 2, none⟩ = some (.slice (some ⟨b9, off, none⟩) n3 c3)) := fun W hW => by
          have e1 := (Below.block (Later.trans (show Later w4 w6.drew from Later.trans L46.out (Later.drew _)) (show Later w6.drew W from hW)) g (lt_of_block HB3.out)).trans HB3.out
          have e2 := cell_of_row W g 2 _ _ _ e1
          rw [HN3.out] at e2
          exact e2
        obtain ⟨z1, hz0⟩ : ∃ z1, z + 1 = z1 := ⟨_, rfl⟩
        have hz1 : z1 ≤ n3 := by omega
        have hz1c : z1 ≤ c3 := by omega
        have HG6 : Hid (w6.drew.heap[g]? = some (.cells #[.int .i64 most, .int .i64 t.last, .slice (some ⟨b9, off, none⟩) t.L.length c3] 58 (0, 0))) := (Below.block L46.out g (lt_of_block HB3.out)).trans HB3.out
        have HGW6 : Hid (g < w6.heap.size) := lt_of_block HG6.out
        have HZ0 := hide hz0
        have FU : Hid (∀ W, Below w6.heap.size w6.drew W → FlatAt (fun i => F i ∧ i ≠ d + 1) W 14 (.slice (some ⟨b9, off, none⟩) z c3) z (((t.L.flatMap (itemC f3)).take (z * 14)).drop (0 * 14))) := fun W hW =>
          FlatAt.upto (HFL.out.kept (Kept.of_below (Later.trans (show Later w4 w6.drew from Later.trans L46.out (Later.drew _)) (show Later w6.drew W from hW)) _)) hzn
        have FBH : Hid (∀ W, Below w6.heap.size w6.drew W → FlatAt (fun i => F i ∧ i ≠ d + 1) W 14 (.slice (if c3 = z1 then some (⟨b9, off, none⟩ : Addr) else some ⟨b9, off + z1 * 14, none⟩) (n3 - z1) (c3 - z1)) (n3 - z1) (((t.L.flatMap (itemC f3)).take (n3 * 14)).drop (z1 * 14))) := fun W hW => by
          have hf9 := HFL.out.kept (Kept.of_below (Later.trans (show Later w4 w6.drew from Later.trans L46.out (Later.drew _)) (show Later w6.drew W from hW)) _)
          rw [← hz0]
          split
          · have e0 : n3 - (z + 1) = 0 := by omega
            have h9 := FlatAt.behind hf9 hzn
            rw [e0] at h9 ⊢
            exact ⟨h9.1, h9.2.1, _, _, rfl, by omega, by have := h9.2.2; obtain ⟨_, _, e, _, hm, _⟩ := this; injection e with _ _ e3; omega, (fun h => by cases h), fun h => absurd h (by omega)⟩
          · exact FlatAt.behind hf9 hzn
        have hzc : z ≤ c3 := by omega
        go_wp2_with (fail)
        refine wp_region_V (Below w6.heap.size) (fun j => j == 19) (by kernel_rfl) ?_
        refine wpAnyV_take (pre_below w6.heap.size) (i := 0) (d := some 46) (v := ?vac0) rfl rfl (by kernel_rfl) (by kernel_rfl) (by kernel_rfl) (by kernel_rfl) (by kernel_rfl) (fun _ _ _ h => h) (by rfl) ?yac0 ?_
        case yac0 => (intro w' hw'; go_simp; try (with_reducible rfl))
        simp only [Act.put]; try simp only [sA_, sZ_, sS_]
        refine wpAnyV_take (pre_below w6.heap.size) (i := 2) (d := some 48) (v := ?vac2) rfl rfl (by kernel_rfl) (by kernel_rfl) (by kernel_rfl) (by kernel_rfl) (by kernel_rfl) (fun _ _ _ h => h) (by rfl) ?yac2 ?_
        case yac2 => (intro w' hw'; go_simp; try (with_reducible rfl))
        simp only [Act.put]; try simp only [sA_, sZ_, sS_]
        refine wpAnyV_take (pre_below w6.heap.size) (i := 3) (d := some 49) (v := ?vac3) rfl rfl (by kernel_rfl) (by kernel_rfl) (by kernel_rfl) (by kernel_rfl) (by kernel_rfl) (fun _ _ _ h => h) (by rfl) ?yac3 ?_
        case yac3 => (intro w' hw'; go_simp; try (with_reducible rfl))
        simp only [Act.put]; try simp only [sA_, sZ_, sS_]
        refine wpAnyV_take (pre_below w6.heap.size) (i := 4) (d := some 50) (v := ?vac4) rfl rfl (by kernel_rfl) (by kernel_rfl) (by kernel_rfl) (by kernel_rfl) (by kernel_rfl) (fun _ _ _ h => h) (by rfl) ?yac4 ?_
        case yac4 => (intro w' hw'; go_simp; try (with_reducible rfl))
        simp only [Act.put]; try simp only [sA_, sZ_, sS_]
        refine wpAnyV_take (pre_below w6.heap.size) (i := 5) (d := some 51) (v := ?vac5) rfl rfl (by kernel_rfl) (by kernel_rfl) (by kernel_rfl) (by kernel_rfl) (by kernel_rfl) (fun _ _ _ h => h) (by rfl) ?yac5 ?_
        case yac5 => (intro w' hw'; have cc : w'.cell? ⟨g, 2, none⟩ = some (.slice (some ⟨b9, off, none⟩) n3 c3) := C62.out _ hw'; go_simp; try (with_reducible rfl))
        simp only [Act.put]; try simp only [sA_, sZ_, sS_]
        refine wpAnyV_take (pre_below w6.heap.size) (i := 6) (d := some 52) (v := ?vac6) rfl rfl (by kernel_rfl) (by kernel_rfl) (by kernel_rfl) (by kernel_rfl) (by kernel_rfl) (fun _ _ _ h => h) (by rfl) ?yac6 ?_
        case yac6 => (intro w' hw'; go_simp; try (with_reducible rfl))
        simp only [Act.put]; try simp only [sA_, sZ_, sS_]
        refine wpAnyV_take (pre_below w6.heap.size) (i := 7) (d := some 53) (v := ?vac7) rfl rfl (by kernel_rfl) (by kernel_rfl) (by kernel_rfl) (by kernel_rfl) (by kernel_rfl) (fun _ _ _ h => h) (by rfl) ?yac7 ?_
        case yac7 => (intro w' hw'; go_simp; try (with_reducible rfl))
        simp only [Act.put]; try simp only [sA_, sZ_, sS_]
        refine wpAnyV_take (pre_below w6.heap.size) (i := 9) (d := some 55) (v := ?vac9) rfl rfl (by kernel_rfl) (by kernel_rfl) (by kernel_rfl) (by kernel_rfl) (by kernel_rfl) (fun _ _ _ h => h) (by rfl) ?yac9 ?_
        case yac9 => (intro w' hw'; go_simp; try (with_reducible rfl))
        simp only [Act.put]; try simp only [sA_, sZ_, sS_]
        refine wpAnyV_take (pre_below w6.heap.size) (i := 10) (d := some 56) (v := ?vac10) rfl rfl (by kernel_rfl) (by kernel_rfl) (by kernel_rfl) (by kernel_rfl) (by kernel_rfl) (fun _ _ _ h => h) (by rfl) ?yac10 ?_
        case yac10 => (intro w' hw'; go_simp; try (with_reducible rfl))
        simp only [Act.put]; try simp only [sA_, sZ_, sS_]
        refine wpAnyV_take (pre_below w6.heap.size) (i := 11) (d := some 57) (v := ?vac11) rfl rfl (by kernel_rfl) (by kernel_rfl) (by kernel_rfl) (by kernel_rfl) (by kernel_rfl) (fun _ _ _ h => h) (by rfl) ?yac11 ?_
        case yac11 => (intro w' hw'; go_simp; try (with_reducible rfl))
        simp only [Act.put]; try simp only [sA_, sZ_, sS_]
        refine wpAnyV_take (pre_below w6.heap.size) (i := 12) (d := some 58) (v := ?vac12) rfl rfl (by kernel_rfl) (by kernel_rfl) (by kernel_rfl) (by kernel_rfl) (by kernel_rfl) (fun _ _ _ h => h) (by rfl) ?yac12 ?_
        case yac12 => (intro w' hw'; have cc : w'.cell? ⟨g, 2, none⟩ = some (.slice (some ⟨b9, off, none⟩) n3 c3) := C62.out _ hw'; go_simp; try (with_reducible rfl))
        simp only [Act.put]; try simp only [sA_, sZ_, sS_]
        refine wpAnyV_take (pre_below w6.heap.size) (i := 13) (d := some 59) (v := ?vac13) rfl rfl (by kernel_rfl) (by kernel_rfl) (by kernel_rfl) (by kernel_rfl) (by kernel_rfl) (fun _ _ _ h => h) (by rfl) ?yac13 ?_
        case yac13 => (intro w' hw'; go_simp; try (with_reducible rfl))
        simp only [Act.put]; try simp only [sA_, sZ_, sS_]
        refine wpAnyV_take (pre_below w6.heap.size) (i := 14) (d := some 60) (v := .int .i64 (z1 : Int)) rfl rfl (by kernel_rfl) (by kernel_rfl) (by kernel_rfl) (by kernel_rfl) (by kernel_rfl) (fun _ _ _ h => h) (by rfl) ?yac14 ?_
        case yac14 => (intro w' hw'; go_simp; rw [IntWalk.i64_in _ (by omega)]; omega)
        simp only [Act.put]; try simp only [sA_, sZ_, sS_]
        refine wpAnyV_take (pre_below w6.heap.size) (i := 15) (d := some 61) (v := ?vac15) rfl rfl (by kernel_rfl) (by kernel_rfl) (by kernel_rfl) (by kernel_rfl) (by kernel_rfl) (fun _ _ _ h => h) (by rfl) ?yac15 ?_
        case yac15 => (intro w' hw'; go_simp; try (with_reducible rfl))
        simp only [Act.put]; try simp only [sA_, sZ_, sS_]
        refine wpAnyV_only (pre_below w6.heap.size) (i := 1) rfl (by kernel_rfl) (by rfl) fun K hK => ?_
        refine wp_empty_items (by rfl) ?_
        intro wa oa la
        have OA := hide oa
        have LA : Hid (Below w6.heap.size w6.drew wa) := la
        clear oa la
        refine hK.out _ _ LA.out (?_ : wpAnyV _ _ _ _ _ _ _ _ (Act.put _ (some 47) _) _)
        clear hK K
        try (simp only [Act.put]; try simp only [sA_, sZ_, sS_])
        refine wpAnyV_only (pre_below w6.heap.size) (i := 8) rfl (by kernel_rfl) (by rfl) fun K hK => ?_
        refine wp_append_items _ _ (by rfl) w6.heap.size (.slice (some ⟨w6.heap.size, 0, none⟩) 0 0) 0 [] (by rfl) OA.out _ (some ⟨b9, off, none⟩) z c3 _ (by rfl) (FU.out wa LA.out) (by omega) (by omega) (by have h9 := Below.size LA.out; exact h9) ?_
        intro vb wb ob gb
        have LB0 : Hid (Below w6.heap.size wa wb) := later_own OA.out (by have h9 := Below.size LA.out; exact h9) gb
        have LB : Hid (Below w6.heap.size w6.drew wb) := Below.trans LA.out LB0.out
        have OB := hide ob
        clear ob gb
        refine hK.out _ _ LB0.out (?_ : wpAnyV _ _ _ _ _ _ _ _ (Act.put _ (some 54) _) _)
        clear hK K
        try (simp only [Act.put]; try simp only [sA_, sZ_, sS_])
        refine wpAnyV_only (pre_below w6.heap.size) (i := 16) rfl (by kernel_rfl) (by rfl) fun K hK => ?_
        refine wp_append_items _ _ (by rfl) w6.heap.size vb (0 + z) _ (by rfl) OB.out _ (if c3 = z1 then some (⟨b9, off, none⟩ : Addr) else some ⟨b9, off + z1 * 14, none⟩) (n3 - z1) (c3 - z1) _ (by rfl) (FBH.out wb LB.out) (by omega) (by omega) (by have h9 := Below.size LB.out; exact h9) ?_
        intro vc wc oc gc
        have LC0 : Hid (Below w6.heap.size wb wc) := later_own OB.out (by have h9 := Below.size LB.out; exact h9) gc
        have LC : Hid (Below w6.heap.size w6.drew wc) := Below.trans LB.out LC0.out
        obtain ⟨A9, c9, hv9⟩ := rown_shape oc
        subst hv9
        have hcg := (Below.block LC.out g HGW6.out).trans HG6.out
        have e2 := cell_of_row wc g 2 _ _ _ hcg
        simp only [List.getElem?_toArray, List.getElem?_cons_succ, List.getElem?_cons_zero] at e2
        have e3 := frozen_of_row wc g 2 _ _ hcg
        have OC := hide oc
        have HCG := hide hcg
        clear oc gc hcg
        refine hK.out _ _ LC0.out (?_ : wpAnyV _ _ _ _ _ _ _ _ (Act.put _ (some 62) _) _)
        clear hK K
        try (simp only [Act.put]; try simp only [sA_, sZ_, sS_])
        refine wpAnyV_take (pre_below w6.heap.size) (i := 17) (d := some 63) (v := ?vac17) rfl rfl (by kernel_rfl) (by kernel_rfl) (by kernel_rfl) (by kernel_rfl) (by kernel_rfl) (fun _ _ _ h => h) (by rfl) ?yac17 ?_
        case yac17 => (intro w' hw'; go_simp; try (with_reducible rfl))
        simp only [Act.put]; try simp only [sA_, sZ_, sS_]
        refine wpAnyV_take (pre_below w6.heap.size) (i := 18) (d := some 64) (v := ?vac18) rfl rfl (by kernel_rfl) (by kernel_rfl) (by kernel_rfl) (by kernel_rfl) (by kernel_rfl) (fun _ _ _ h => h) (by rfl) ?yac18 ?_
        case yac18 => (intro w' hw'; go_simp; try (with_reducible rfl))
        simp only [Act.put]; try simp only [sA_, sZ_, sS_]
        refine wpAnyV_write (i := 19) rfl rfl (by kernel_rfl) (by rfl) fun K hK => ?_
        go_simp
        refine hK.out _ _ ?_
        clear hK K
        try simp only [Act.put]
        refine wpAnyV_done (by kernel_rfl) ?_ _
        generalize (if c3 = z1 then some (⟨b9, off, none⟩ : Addr) else some ⟨b9, off + z1 * 14, none⟩) = B9
        have hlz : 0 + z + (n3 - z1) = (roomF t.L).length ∧ roomF t.L = t.L.take z ++ t.L.drop (z + 1) := by
          have e9 : roomF t.L = t.L.take z ++ t.L.drop (z + 1) := (roomF_at (by rw [HN3.out]; omega) HY2.out HO1.out HOP.out).trans (dropE_at HRISE0.out HY2.out)
          refine ⟨?_, e9⟩
          rw [e9, List.length_append, List.length_take, List.length_drop, HN3.out]
          have := HZ0.out
          omega
        obtain ⟨hlz1, hlz2⟩ := hlz
        have o9 := OC.out
        rw [hlz1, List.nil_append, ← HZ0.out, ← HN3.out, items_drop f3 t.L z (by rw [HN3.out]; exact hzn), ← hlz2] at o9
        have L4c : Later w4 wc := Below.trans (show Later w4 w6.drew from Later.trans L46.out (Later.drew _)) (Below.mono LC.out (Below.size L46.out))
        obtain ⟨hb5a, T49a⟩ := room_done HB3.out HS3.out H4.out.ok H4.out.apart HRISE.out (fun x hx => by
          rw [hlz2] at hx
          rcases List.mem_append.1 hx with hx | hx
          · exact List.mem_of_mem_take hx
          · exact List.mem_of_mem_drop hx) (fun i hi => by
          have a1 := Below.size L46.out
          have a2 := Below.size L4.out
          have a3 := HYW.out
          have a4 := Below.size L1.out
          exact ⟨HF.out i (by omega), by omega⟩) L4c o9
        have hzl : z + (n3 - z1) = (roomF t.L).length := by omega
        rw [hzl]
        obtain ⟨W9, hW9⟩ : ∃ W9, W9 = wc.setCell ⟨g, 2, none⟩ (.slice A9 (roomF t.L).length c9) := ⟨_, rfl⟩
        rw [← hW9] at hb5a T49a ⊢
        have H5 := hide hb5a
        have T49 := hide T49a
        have HLEN : Hid ((roomF t.L).length ≤ 900) := by show _ ≤ _; omega
        clear hW9 hb5a T49a o9 L4c hlz1 hlz2 hzl e2 e3
        have X5 : Hid (W9.heap[w2.heap.size]? = some (.cells s2.cells.toArray 39 (0, 0))) := by
          have a1 : w4.heap[w2.heap.size]? = some (.cells s2.cells.toArray 39 (0, 0)) := HX3.out.below L34.out
          exact (T49.out.block w2.heap.size (lt_of_block a1) (fun e => by have := (H1.out.later L2.out).lt; omega)).trans a1
        have HS5 : Hid (StepsAt (fun i => W1.heap.size ≤ i ∧ i ≠ g) W9 (.slice p m q) l) := by
          have g1 : StepsAt (fun i => W1.heap.size ≤ i ∧ i ≠ g) w2 (.slice p m q) l := StepsAt.mono HS.out fun i _ hi => by
            have a1 : W1.heap.size ≤ i := hi
            have a2 := H1.out.lt
            exact ⟨a1, by omega⟩
          exact StepsAt.kept (StepsAt.kept (StepsAt.kept g1 (Kept.of_below L23.out _)) (Kept.of_below L34.out _)) (T49.out.kept fun i hi e => hi.2 e)
        have HSZ5 : Hid (W1.heap.size ≤ W9.heap.size) := Nat.le_trans (Below.size L4.out) T49.out.size
        have Y5 : Hid (RBox (d + 1) (errR 0) W9) := by
          have a1 : RBox (d + 1) (errR 0) w4 := Y1.out.below L4.out
          exact a1.turned T49.out (by have := HYG.out; omega)
        have TW5 : Hid (Turned (fun i => i = g) W1 W9) := (Turned.of_below L4.out _).trans T49.out
        obtain ⟨A5, c5, f5, hb5, _, _⟩ := H5.out.body
        have hc1 := cell_of_row W9 g 1 _ _ _ hb5
        simp only [List.getElem?_toArray, List.getElem?_cons_succ, List.getElem?_cons_zero] at hc1
        rw [HLA.out] at hc1
        have hf1 := frozen_of_row W9 g 1 _ _ hb5
        obtain ⟨W6, hW6⟩ : ∃ W6, W6 = W9.setCell ⟨g, 1, none⟩ (.int .i64 (la + 1)) := ⟨_, rfl⟩
        have H6 : Hid (RBookAt (fun i => F i ∧ i ≠ d + 1) W6 g most ⟨la + 1, roomF t.L⟩) := by rw [hW6]; exact H5.out.setLast (la + 1) (by omega) (by omega)
        have T6 : Hid (Turned (fun i => i = g) W9 W6) := by rw [hW6]; exact turned_setCell _ _ _ _
        have HG2 : Hid (g < w2.heap.size) := (H1.out.later L2.out).lt
        have X6 : Hid (W6.heap[w2.heap.size]? = some (.cells s2.cells.toArray 39 (0, 0))) := (T6.out.block w2.heap.size (lt_of_block X5.out) (fun e => by have := HG2.out; omega)).trans X5.out
        have HS6 : Hid (StepsAt (fun i => F i ∧ i ≠ d + 1) W6.drew (.slice p m q) l) := by
          have g4 := StepsAt.kept (StepsAt.kept HS5.out (T6.out.kept fun i hi e => hi.2 e)) (Kept.drew _ _)
          refine StepsAt.mono g4 fun i _ hi => ?_
          have a2 : W1.heap.size ≤ i := hi.1
          have a3 := HYW.out
          have a4 := Below.size L1.out
          exact ⟨HF.out i (by omega), by omega⟩
        have HF6 : Hid (∀ i, W6.drew.heap.size ≤ i → F i ∧ i ≠ d + 1) := fun i hi => by
          have a1 : W6.heap.size ≤ i := hi
          have a2 := T6.out.size
          have a3 := HSZ5.out
          have a4 := HYW.out
          have a5 := Below.size L1.out
          exact ⟨HF.out i (by omega), by omega⟩
        have C61 : Hid (W6.drew.cell? ⟨g, 1, none⟩ = some (.int .i64 (la + 1))) := by
          obtain ⟨_, _, _, hb, _⟩ := H6.out.body
          exact cell_of_row W6 g 1 _ _ _ hb
        have HGW : Hid (g < W6.drew.heap.size) := H6.out.lt
        have HV2 : ((newE (la + 1) name l).s.withV p m q).val = s2.val := by rw [← HS2.out]; rfl
        have CP : Hid (Calls Tryz.prog 36 #[.pointer (some ⟨g, 0, none⟩), .int .i64 (la + 1), s2.val] W6.drew fun e w' => e = .returned (.tuple #[]) ∧ RBookAt (fun i => F i ∧ i ≠ d + 1) w' g most ⟨la + 1, putE (newE (la + 1) name l) (roomF t.L)⟩ ∧ Turned (· = g) W6.drew w') := by
          rw [← HV2]
          exact rput_any (x := newE (la + 1) name l) (H6.out.later (Later.drew _)) HS6.out ⟨HOK.out, HIX.out⟩ HF6.out (HLEN.out)
        have HW6 := hide hW6.symm
        clear hW6 hb5 HV2
        go_wp2_with (fail)
        rw [HW6.out]
        clear hc1 hf1
        refine wp_region_S (fun j => j == 6) (by kernel_rfl) ?_
        refine wpAnyS_take (i := 0) (d := some 73) (v := ?vab0) rfl rfl (by kernel_rfl) (by kernel_rfl) (by kernel_rfl) (by kernel_rfl) (by kernel_rfl) (fun _ _ _ h => h) (by rfl) ?yab0 ?_
        case yab0 => (intro w' hw'; go_simp; try (with_reducible rfl))
        simp only [Act.put]; try simp only [sA_, sZ_, sS_]
        refine wpAnyS_take (i := 1) (d := some 74) (v := ?vab1) rfl rfl (by kernel_rfl) (by kernel_rfl) (by kernel_rfl) (by kernel_rfl) (by kernel_rfl) (fun _ _ _ h => h) (by rfl) ?yab1 ?_
        case yab1 => (intro w' hw'; go_simp; try (with_reducible rfl))
        simp only [Act.put]; try simp only [sA_, sZ_, sS_]
        refine wpAnyS_take (i := 2) (d := some 75) (v := ?vab2) rfl rfl (by kernel_rfl) (by kernel_rfl) (by kernel_rfl) (by kernel_rfl) (by kernel_rfl) (fun _ _ _ h => h) (by rfl) ?yab2 ?_
        case yab2 => (intro w' hw'; go_simp; try (with_reducible rfl))
        simp only [Act.put]; try simp only [sA_, sZ_, sS_]
        refine wpAnyS_take (i := 3) (d := some 76) (v := ?vab3) rfl rfl (by kernel_rfl) (by kernel_rfl) (by kernel_rfl) (by kernel_rfl) (by kernel_rfl) (fun _ _ _ h => h) (by rfl) ?yab3 ?_
        case yab3 => (intro w' hw'; go_simp; try (with_reducible rfl))
        simp only [Act.put]; try simp only [sA_, sZ_, sS_]
        refine wpAnyS_take (i := 4) (d := some 77) (v := ?vab4) rfl rfl (by kernel_rfl) (by kernel_rfl) (by kernel_rfl) (by kernel_rfl) (by kernel_rfl) (fun _ _ _ h => h) (by rfl) ?yab4 ?_
        case yab4 => (intro w' hw'; have cc : w'.cell? ⟨g, 1, none⟩ = some (.int .i64 (la + 1)) := (Below.cell hw' (p := ⟨g, 1, none⟩) HGW.out).trans C61.out; go_simp; try (with_reducible rfl))
        simp only [Act.put]; try simp only [sA_, sZ_, sS_]
        refine wpAnyS_take (i := 5) (d := some 78) (v := s2.val) rfl rfl (by kernel_rfl) (by kernel_rfl) (by kernel_rfl) (by kernel_rfl) (by kernel_rfl) (fun _ _ _ h => h) (by rfl) ?yab5 ?_
        case yab5 => (intro w' hw'; exact exec_load_ritem (s := s2) _ (by rfl) (by rfl) (range_boxS (show w'.heap[w2.heap.size]? = some (.cells s2.cells.toArray 39 (0, 0)) from (Below.block hw' w2.heap.size (lt_of_block X6.out)).trans X6.out)))
        simp only [Act.put]; try simp only [sA_, sZ_, sS_]
        refine wpAnyS_write (i := 6) rfl rfl (by kernel_rfl) (by rfl) fun K hK => ?_
        go_simp
        refine CP.out.mono ?_
        rintro e w7 ⟨rfl, hp7, ht7⟩
        have HP7 := hide hp7
        have T7 : Hid (Turned (fun i => i = g) W6 w7) := Turned.of_drew ht7
        refine hK.out _ _ ?_
        clear hp7 ht7
        clear hK K
        try (simp only [Act.put]; try simp only [sA_, sZ_, sS_])
        refine wpAnyS_done (by kernel_rfl) ?_ _
        have d1 : w7.cell? ⟨g, 1, none⟩ = some (.int .i64 (la + 1)) := by
          obtain ⟨_, _, _, hb, _⟩ := HP7.out.body
          exact cell_of_row w7 g 1 _ _ _ hb
        have CS := hide (rstatus_any (id := la + 1) HP7.out (by have := putE_len (newE (la + 1) name l) (roomF t.L); have := HLEN.out; show (putE _ _).length ≤ _; omega))
        have hsp : statusF (putE (newE (la + 1) name l) (roomF t.L)) (la + 1) = ⟨0, la + 1, 1, 1⟩ := statusF_put (newE (la + 1) name l) HRISE.out
        simp only at CS
        rw [hsp] at CS
        have Y6 := Y5.out.turned T6.out (by have := HYG.out; omega)
        have Y7 : Hid (RBox (d + 1) (errR 0) w7) := Y6.turned T7.out (by have := HYG.out; omega)
        clear hsp Y6
        go_wp2_with (fail)
        refine CS.out.mono ?_
        rintro e w8 ⟨rfl, hl8⟩
        have HP8 := hide (HP7.out.later hl8)
        have Y8 : Hid (RBox (d + 1) (errR 0) w8) := Y7.out.below hl8
        have T8 : Hid (Turned (fun i => i = g) W6 w8) := T7.out.trans (Turned.of_below hl8 _)
        clear hl8 CS d1
        go_wp2_with (refine wpList_store_rep (r := ⟨0, la + 1, 1, 1⟩) (by rfl) _ _ (by rfl) (by rfl) Y8.out (by rfl) ?_)
        intro w9 Z9 G9
        have HZ := hide Z9
        have T9 : Hid (Turned (fun i => i = d + 1) w8 w9) := Turned.of_grown G9 (fun g e => (Option.some.inj e).symm)
        clear Z9 G9
        go_wp2
        refine bodyPost_ret (results_cell_row Tryz.results34 _ _ (d + 1) 44 _ (0, 0) _ (by rfl) HZ.out Tryz.underlying44 (by rfl) (by kernel_rfl)) (by rfl) ?_
        have B9 := (HP8.out).turned T9.out (by have := HYG.out; omega) (fun i hi => hi.2)
        have La : Later w W1 := L1.out
        have Ta : Turned (fun i => i = g) w W1 := Turned.of_below La _
        have Td : Turned (fun i => i = g) w w8 := ((Ta.trans TW5.out).trans T6.out).trans T8.out
        exact ⟨rfl, B9.mono (fun i _ hf => hf.1) HA.out, Td.onto T9.out (fun i hi => .inr (by have := HY.out; omega))⟩
    · obtain rfl : z = n3 := by omega
      have HRA : roomF t.L = t.L := roomF_all (fun j y hj hy => HOP.out j y (by rw [HN3.out] at hj; exact hj) hy)
      have H5 : Hid (RBookAt (fun i => F i ∧ i ≠ d + 1) wr g most ⟨t.last, roomF t.L⟩) := by
        show RBookAt _ _ _ _ _
        rw [HRA]
        exact H4.out.later LR.out
      have T49 : Hid (Turned (· = g) w4 wr) := Turned.of_below LR.out _
      have HLEN : Hid ((roomF t.L).length ≤ 900) := by show _ ≤ _; rw [HRA, HN3.out]; exact hn
      clear HRA
      have X5 : Hid (wr.heap[w2.heap.size]? = some (.cells s2.cells.toArray 39 (0, 0))) := by
        have a1 : w4.heap[w2.heap.size]? = some (.cells s2.cells.toArray 39 (0, 0)) := HX3.out.below L34.out
        exact (T49.out.block w2.heap.size (lt_of_block a1) (fun e => by have := (H1.out.later L2.out).lt; omega)).trans a1
      have HS5 : Hid (StepsAt (fun i => W1.heap.size ≤ i ∧ i ≠ g) wr (.slice p m q) l) := by
        have g1 : StepsAt (fun i => W1.heap.size ≤ i ∧ i ≠ g) w2 (.slice p m q) l := StepsAt.mono HS.out fun i _ hi => by
          have a1 : W1.heap.size ≤ i := hi
          have a2 := H1.out.lt
          exact ⟨a1, by omega⟩
        exact StepsAt.kept (StepsAt.kept (StepsAt.kept g1 (Kept.of_below L23.out _)) (Kept.of_below L34.out _)) (T49.out.kept fun i hi e => hi.2 e)
      have HSZ5 : Hid (W1.heap.size ≤ wr.heap.size) := Nat.le_trans (Below.size L4.out) T49.out.size
      have Y5 : Hid (RBox (d + 1) (errR 0) wr) := by
        have a1 : RBox (d + 1) (errR 0) w4 := Y1.out.below L4.out
        exact a1.turned T49.out (by have := HYG.out; omega)
      have TW5 : Hid (Turned (fun i => i = g) W1 wr) := (Turned.of_below L4.out _).trans T49.out
      obtain ⟨A5, c5, f5, hb5, _, _⟩ := H5.out.body
      have hc1 := cell_of_row wr g 1 _ _ _ hb5
      simp only [List.getElem?_toArray, List.getElem?_cons_succ, List.getElem?_cons_zero] at hc1
      rw [HLA.out] at hc1
      have hf1 := frozen_of_row wr g 1 _ _ hb5
      obtain ⟨W6, hW6⟩ : ∃ W6, W6 = wr.setCell ⟨g, 1, none⟩ (.int .i64 (la + 1)) := ⟨_, rfl⟩
      have H6 : Hid (RBookAt (fun i => F i ∧ i ≠ d + 1) W6 g most ⟨la + 1, roomF t.L⟩) := by rw [hW6]; exact H5.out.setLast (la + 1) (by omega) (by omega)
      have T6 : Hid (Turned (fun i => i = g) wr W6) := by rw [hW6]; exact turned_setCell _ _ _ _
      have HG2 : Hid (g < w2.heap.size) := (H1.out.later L2.out).lt
      have X6 : Hid (W6.heap[w2.heap.size]? = some (.cells s2.cells.toArray 39 (0, 0))) := (T6.out.block w2.heap.size (lt_of_block X5.out) (fun e => by have := HG2.out; omega)).trans X5.out
      have HS6 : Hid (StepsAt (fun i => F i ∧ i ≠ d + 1) W6.drew (.slice p m q) l) := by
        have g4 := StepsAt.kept (StepsAt.kept HS5.out (T6.out.kept fun i hi e => hi.2 e)) (Kept.drew _ _)
        refine StepsAt.mono g4 fun i _ hi => ?_
        have a2 : W1.heap.size ≤ i := hi.1
        have a3 := HYW.out
        have a4 := Below.size L1.out
        exact ⟨HF.out i (by omega), by omega⟩
      have HF6 : Hid (∀ i, W6.drew.heap.size ≤ i → F i ∧ i ≠ d + 1) := fun i hi => by
        have a1 : W6.heap.size ≤ i := hi
        have a2 := T6.out.size
        have a3 := HSZ5.out
        have a4 := HYW.out
        have a5 := Below.size L1.out
        exact ⟨HF.out i (by omega), by omega⟩
      have C61 : Hid (W6.drew.cell? ⟨g, 1, none⟩ = some (.int .i64 (la + 1))) := by
        obtain ⟨_, _, _, hb, _⟩ := H6.out.body
        exact cell_of_row W6 g 1 _ _ _ hb
      have HGW : Hid (g < W6.drew.heap.size) := H6.out.lt
      have HV2 : ((newE (la + 1) name l).s.withV p m q).val = s2.val := by rw [← HS2.out]; rfl
      have CP : Hid (Calls Tryz.prog 36 #[.pointer (some ⟨g, 0, none⟩), .int .i64 (la + 1), s2.val] W6.drew fun e w' => e = .returned (.tuple #[]) ∧ RBookAt (fun i => F i ∧ i ≠ d + 1) w' g most ⟨la + 1, putE (newE (la + 1) name l) (roomF t.L)⟩ ∧ Turned (· = g) W6.drew w') := by
        rw [← HV2]
        exact rput_any (x := newE (la + 1) name l) (H6.out.later (Later.drew _)) HS6.out ⟨HOK.out, HIX.out⟩ HF6.out (HLEN.out)
      have HW6 := hide hW6.symm
      clear hW6 hb5 HV2
      go_wp2_with (fail)
      rw [HW6.out]
      clear hc1 hf1
      refine wp_region_S (fun j => j == 6) (by kernel_rfl) ?_
      refine wpAnyS_take (i := 0) (d := some 73) (v := ?vab0) rfl rfl (by kernel_rfl) (by kernel_rfl) (by kernel_rfl) (by kernel_rfl) (by kernel_rfl) (fun _ _ _ h => h) (by rfl) ?yab0 ?_
      case yab0 => (intro w' hw'; go_simp; try (with_reducible rfl))
      simp only [Act.put]; try simp only [sA_, sZ_, sS_]
      refine wpAnyS_take (i := 1) (d := some 74) (v := ?vab1) rfl rfl (by kernel_rfl) (by kernel_rfl) (by kernel_rfl) (by kernel_rfl) (by kernel_rfl) (fun _ _ _ h => h) (by rfl) ?yab1 ?_
      case yab1 => (intro w' hw'; go_simp; try (with_reducible rfl))
      simp only [Act.put]; try simp only [sA_, sZ_, sS_]
      refine wpAnyS_take (i := 2) (d := some 75) (v := ?vab2) rfl rfl (by kernel_rfl) (by kernel_rfl) (by kernel_rfl) (by kernel_rfl) (by kernel_rfl) (fun _ _ _ h => h) (by rfl) ?yab2 ?_
      case yab2 => (intro w' hw'; go_simp; try (with_reducible rfl))
      simp only [Act.put]; try simp only [sA_, sZ_, sS_]
      refine wpAnyS_take (i := 3) (d := some 76) (v := ?vab3) rfl rfl (by kernel_rfl) (by kernel_rfl) (by kernel_rfl) (by kernel_rfl) (by kernel_rfl) (fun _ _ _ h => h) (by rfl) ?yab3 ?_
      case yab3 => (intro w' hw'; go_simp; try (with_reducible rfl))
      simp only [Act.put]; try simp only [sA_, sZ_, sS_]
      refine wpAnyS_take (i := 4) (d := some 77) (v := ?vab4) rfl rfl (by kernel_rfl) (by kernel_rfl) (by kernel_rfl) (by kernel_rfl) (by kernel_rfl) (fun _ _ _ h => h) (by rfl) ?yab4 ?_
      case yab4 => (intro w' hw'; have cc : w'.cell? ⟨g, 1, none⟩ = some (.int .i64 (la + 1)) := (Below.cell hw' (p := ⟨g, 1, none⟩) HGW.out).trans C61.out; go_simp; try (with_reducible rfl))
      simp only [Act.put]; try simp only [sA_, sZ_, sS_]
      refine wpAnyS_take (i := 5) (d := some 78) (v := s2.val) rfl rfl (by kernel_rfl) (by kernel_rfl) (by kernel_rfl) (by kernel_rfl) (by kernel_rfl) (fun _ _ _ h => h) (by rfl) ?yab5 ?_
      case yab5 => (intro w' hw'; exact exec_load_ritem (s := s2) _ (by rfl) (by rfl) (range_boxS (show w'.heap[w2.heap.size]? = some (.cells s2.cells.toArray 39 (0, 0)) from (Below.block hw' w2.heap.size (lt_of_block X6.out)).trans X6.out)))
      simp only [Act.put]; try simp only [sA_, sZ_, sS_]
      refine wpAnyS_write (i := 6) rfl rfl (by kernel_rfl) (by rfl) fun K hK => ?_
      go_simp
      refine CP.out.mono ?_
      rintro e w7 ⟨rfl, hp7, ht7⟩
      have HP7 := hide hp7
      have T7 : Hid (Turned (fun i => i = g) W6 w7) := Turned.of_drew ht7
      refine hK.out _ _ ?_
      clear hp7 ht7
      clear hK K
      try (simp only [Act.put]; try simp only [sA_, sZ_, sS_])
      refine wpAnyS_done (by kernel_rfl) ?_ _
      have d1 : w7.cell? ⟨g, 1, none⟩ = some (.int .i64 (la + 1)) := by
        obtain ⟨_, _, _, hb, _⟩ := HP7.out.body
        exact cell_of_row w7 g 1 _ _ _ hb
      have CS := hide (rstatus_any (id := la + 1) HP7.out (by have := putE_len (newE (la + 1) name l) (roomF t.L); have := HLEN.out; show (putE _ _).length ≤ _; omega))
      have hsp : statusF (putE (newE (la + 1) name l) (roomF t.L)) (la + 1) = ⟨0, la + 1, 1, 1⟩ := statusF_put (newE (la + 1) name l) HRISE.out
      simp only at CS
      rw [hsp] at CS
      have Y6 := Y5.out.turned T6.out (by have := HYG.out; omega)
      have Y7 : Hid (RBox (d + 1) (errR 0) w7) := Y6.turned T7.out (by have := HYG.out; omega)
      clear hsp Y6
      go_wp2_with (fail)
      refine CS.out.mono ?_
      rintro e w8 ⟨rfl, hl8⟩
      have HP8 := hide (HP7.out.later hl8)
      have Y8 : Hid (RBox (d + 1) (errR 0) w8) := Y7.out.below hl8
      have T8 : Hid (Turned (fun i => i = g) W6 w8) := T7.out.trans (Turned.of_below hl8 _)
      clear hl8 CS d1
      go_wp2_with (refine wpList_store_rep (r := ⟨0, la + 1, 1, 1⟩) (by rfl) _ _ (by rfl) (by rfl) Y8.out (by rfl) ?_)
      intro w9 Z9 G9
      have HZ := hide Z9
      have T9 : Hid (Turned (fun i => i = d + 1) w8 w9) := Turned.of_grown G9 (fun g e => (Option.some.inj e).symm)
      clear Z9 G9
      go_wp2
      refine bodyPost_ret (results_cell_row Tryz.results34 _ _ (d + 1) 44 _ (0, 0) _ (by rfl) HZ.out Tryz.underlying44 (by rfl) (by kernel_rfl)) (by rfl) ?_
      have B9 := (HP8.out).turned T9.out (by have := HYG.out; omega) (fun i hi => hi.2)
      have La : Later w W1 := L1.out
      have Ta : Turned (fun i => i = g) w W1 := Turned.of_below La _
      have Td : Turned (fun i => i = g) w w8 := ((Ta.trans TW5.out).trans T6.out).trans T8.out
      exact ⟨rfl, B9.mono (fun i _ hf => hf.1) HA.out, Td.onto T9.out (fun i hi => .inr (by have := HY.out; omega))⟩
end
end Go.Proofs.YtpckdhjnhnonhaaGreat
/- The document's start whole. -/
namespace Go.Proofs.YtpckdhjnhnonhaaGreat
open Go.RowKit Go.Maps
section
variable {F : Nat → Prop} {w : World} {g : Nat} {most : Int} {t : BkS}
theorem rstart_any {F0 : Nat → Prop} {name : ByteArray} {A : Option Addr} {n c : Nat} {l : List StepD} (h : RBookAt F w g most t) (hn : t.L.length ≤ 900) (hst : StepsAt F0 w (.slice A n c) l) (hw : ∀ a ∈ l, a.wf)
    (hla : t.last < 4611686018427387904) (hF : ∀ i, w.heap.size ≤ i → F i) :
    Calls Tryz.prog 34 #[.pointer (some ⟨g, 0, none⟩), .agg #[.string name, .slice A n c]] w (RDid F g most (startR most t name l) (startS most t name l) w) := by
  unfold startR startS
  by_cases he : (checkF name l).2 ≠ 0
  · rw [if_pos he, if_pos he]
    exact rstart_err h hst he
  · rw [if_neg he, if_neg he]
    have he2 : (checkF name l).2 = 0 := by omega
    by_cases hm : most ≤ (openN t.L : Int)
    · rw [if_pos hm, if_pos hm]
      exact rstart_full h (by omega) hst he2 hm
    · rw [if_neg hm, if_neg hm]
      by_cases h32 : t.L.length < 32
      · rw [roomF_few h32]
        exact rstart_few h h32 hst he2 hw (by omega) hla hF
      · exact rstart_many h (by omega) hn hst he2 hw (by omega) hla hF
end
end Go.Proofs.YtpckdhjnhnonhaaGreat
