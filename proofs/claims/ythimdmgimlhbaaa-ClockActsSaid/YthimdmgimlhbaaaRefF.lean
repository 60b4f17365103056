/- The document's clock: Set. -/
import Derived.Test.YthimdmgimlhbaaaRefE
namespace Go.Proofs.Ythimdmgimlhbaaa
open Go.RowKit Go.Maps

theorem refset_range {r : Nat} (name after : Int) (w : World) (ha : after < 1 ∨ 100000 < after) :
    Calls Try.prog 15 #[.pointer (some ⟨r, 0, none⟩), .int .i64 name, .int .i64 after] w fun e w' => e = .returned (.int .i64 15) ∧ w = w' := by
  by_cases h1 : after < 1
  · clear ha
    go_enter Try.func15, Try.ntmps15
    go_wp2
    go_ret
    exact ⟨rfl, rfl⟩
  · have h2 : 100000 < after := by omega
    clear ha
    go_enter Try.func15, Try.ntmps15
    go_wp2
    go_ret
    exact ⟨rfl, rfl⟩

/-- How far the new timer's row is: it is in, or all so far are ahead of it. -/
def InsAt (t : Int × Int) (A M : List (Int × Int)) (d : Bool) : Prop :=
  (d = true ∧ M = insT t A ∧ ∃ p ∈ A, t.2 < p.2) ∨ (d = false ∧ M = A ∧ ∀ p ∈ A, p.2 < t.2)
theorem insT_in {t : Int × Int} (b : List (Int × Int)) : ∀ {A : List (Int × Int)}, (∃ p ∈ A, t.2 < p.2) → insT t (A ++ b) = insT t A ++ b
  | [], h => by obtain ⟨p, hp, _⟩ := h; cases hp
  | y :: r, h => by
    simp only [List.cons_append]
    unfold insT
    split
    · rfl
    · obtain ⟨p, hp, hlt⟩ := h
      rcases List.mem_cons.1 hp with rfl | hp
      · rename_i hn; exact absurd hlt hn
      · rw [insT_in b ⟨p, hp, hlt⟩]
        rfl
theorem insT_at {t x : Int × Int} (hx : t.2 < x.2) : ∀ {A : List (Int × Int)}, (∀ p ∈ A, p.2 < t.2) → insT t (A ++ [x]) = A ++ [t] ++ [x]
  | [], _ => by simp [insT, hx]
  | y :: r, h => by
    have hy := h y (by simp)
    simp only [List.cons_append]
    unfold insT
    rw [if_neg (by omega), insT_at hx fun p hp => h p (by simp [hp])]
theorem insT_tail (t : Int × Int) : ∀ L : List (Int × Int), (∀ p ∈ L, p.2 < t.2) → insT t L = L ++ [t]
  | [], _ => rfl
  | y :: r, h => by
    have := h y (by simp)
    unfold insT
    rw [if_neg (by omega), insT_tail t r fun p hp => h p (by simp [hp])]
    rfl
theorem InsAt.in_ {t x : Int × Int} {A M : List (Int × Int)} (h : InsAt t A M true) : InsAt t (A ++ [x]) (M ++ [x]) true := by
  rcases h with ⟨_, rfl, p, hp, hlt⟩ | ⟨h, _⟩
  · exact .inl ⟨rfl, (insT_in [x] ⟨p, hp, hlt⟩).symm, p, by simp [hp], hlt⟩
  · cases h
theorem InsAt.now_ {t x : Int × Int} {A M : List (Int × Int)} (h : InsAt t A M false) (hx : t.2 < x.2) : InsAt t (A ++ [x]) (M ++ [t] ++ [x]) true := by
  rcases h with ⟨h, _⟩ | ⟨_, rfl, hall⟩
  · cases h
  · exact .inl ⟨rfl, (insT_at hx hall).symm, x, by simp, hx⟩
theorem InsAt.not_yet {t x : Int × Int} {A M : List (Int × Int)} (h : InsAt t A M false) (hx : x.2 < t.2) : InsAt t (A ++ [x]) (M ++ [x]) false := by
  rcases h with ⟨h, _⟩ | ⟨_, rfl, hall⟩
  · cases h
  · refine .inr ⟨rfl, rfl, fun p hp => ?_⟩
    rcases List.mem_append.1 hp with hp | hp
    · exact hall p hp
    · rw [List.mem_singleton.1 hp]
      exact hx
theorem InsAt.len {t : Int × Int} {A M : List (Int × Int)} {d : Bool} (h : InsAt t A M d) : M.length ≤ A.length + 1 := by
  rcases h with ⟨_, rfl, _⟩ | ⟨_, rfl, _⟩
  · rw [(insT_perm t A).length_eq, List.length_append]
    exact Nat.le_refl _
  · omega

theorem Building.ext {w wB w5 : World} {v v5 : Value} {M : List (Int × Int)} {m : Nat} (h : Building w wB v M) (p : Int × Int) (hm : m = M.length) (ho : w5.ownsRow w.heap.size 62 2 v5 (m + 1) (rcells M ++ rcell p)) (hg : wB.grownBy w5 v.ownBlock) :
    ∃ A5 m5 c5, v5 = .slice A5 m5 c5 ∧ Hid (m5 = (M ++ [p]).length) ∧ m5 = m + 1 ∧ Hid (Building w w5 (.slice A5 m5 c5) (M ++ [p])) := by
  have h5 := h.next p (by rw [← hm]; exact ho) hg
  obtain ⟨A5, c5, rfl, _⟩ := h5.shape
  exact ⟨A5, _, c5, rfl, rfl, by simp; omega, h5⟩
section
variable {T : Nat → Prop} {r : Nat} {now : Int} {L : List (Int × Int)} {v : Value}
set_option maxHeartbeats 1000000 in
set_option maxRecDepth 100000 in
theorem refset_full (name after : Int) (w : World) (h : RefAt T w r now L v) (ht : 0 ≤ now ∧ now ≤ 1000000) (he : ∀ p ∈ L, now < p.1 ∧ p.1 ≤ now + 100000) (ha1 : 1 ≤ after) (ha2 : after ≤ 100000) (hf : findT L name = none) (hl : L.length = 100) :
    Calls Try.prog 15 #[.pointer (some ⟨r, 0, none⟩), .int .i64 name, .int .i64 after] w fun e w' => e = .returned (.int .i64 7) ∧ Below w.heap.size w w' := by
  have CL := refleft name w h ht (fun p hp => by have := he p hp; omega) (by omega)
  rw [show leftOf L now name = 0 from by unfold leftOf; rw [hf]] at CL
  have HCL := hide CL
  obtain ⟨A, c, rfl, hcn, hcm, _⟩ := FlatAt.shape h.row
  unfold maxLen at hcm
  rw [hl] at hcn h
  have H := hide h
  clear CL h he hf ht
  go_enter Try.func15, Try.ntmps15
  go_wp2_with (fail)
  refine HCL.out.mono ?_
  rintro e w1 ⟨rfl, hb⟩
  obtain ⟨_, c1, _, _⟩ := (H.out.later hb).cells
  have HB := hide hb
  clear hb HCL
  go_wp2
  go_ret
  exact ⟨rfl, HB.out⟩

set_option maxHeartbeats 4000000 in
set_option maxRecDepth 100000 in
theorem refset_ok (name after : Int) (w : World) (h : RefAt T w r now L v) (ht : 0 ≤ now ∧ now ≤ 1000000) (he : ∀ p ∈ L, now < p.1 ∧ p.1 ≤ now + 100000) (ha1 : 1 ≤ after) (ha2 : after ≤ 100000)
    (hrise : L.Pairwise (fun p q => p.2 < q.2)) (hfl : findT L name ≠ none ∨ L.length < 100) (hl : L.length ≤ 100) :
    Calls Try.prog 15 #[.pointer (some ⟨r, 0, none⟩), .int .i64 name, .int .i64 after] w fun e w' => e = .returned (.int .i64 0) ∧ RefNew w w' r now (insT (now + after, name) (delT L name)) := by
  obtain ⟨i0, hi, hz0, hz1, hz2⟩ := info_parts Try.infoR
  have HI := hide hi
  have HZ0 := hide hz0
  have HZ1 := hide hz1
  have HZ2 := hide hz2
  obtain ⟨x0, hx0⟩ : ∃ x, x = leftOf L now name := ⟨_, rfl⟩
  have hcase : (x0 == 0) = false ∨ (x0 = 0 ∧ (L.length : Int) < 100) := by
    rcases hf : findT L name with _ | p
    · refine .inr ⟨by rw [hx0]; unfold leftOf; rw [hf], ?_⟩
      rcases hfl with hfl | hfl
      · exact absurd hf hfl
      · omega
    · refine .inl ?_
      have := he p (findT_mem hf).1
      have e : x0 = p.1 - now := by rw [hx0]; unfold leftOf; rw [hf]
      rw [beq_eq_false_iff_ne]
      omega
  have CL := refleft name w h ht (fun p hp => by have := he p hp; omega) hl
  rw [← hx0] at CL
  have HCL := hide CL
  have CS := hide (fun w' (hb : Below w.heap.size w w') => refstop name w' (h.later hb) hl hrise)
  have hrw := lt_of_block h.cell
  have H := hide h
  obtain ⟨ht0, ht1⟩ := ht
  have hwr : IntKind.i64.wrap (now + after) = now + after := IntWalk.i64_in _ (by omega)
  have HRISE : Hid ((delT L name).Pairwise (fun p q => p.2 < q.2)) := delT_rise hrise name
  have HNO : Hid (∀ p ∈ delT L name, p.2 ≠ name) := fun p hp => (delT_mem.1 hp).2
  have hLL : (delT L name).length ≤ 100 := Nat.le_trans (List.length_filter_le _ _) hl
  obtain ⟨L', hL'⟩ : ∃ L', L' = delT L name := ⟨_, rfl⟩
  rw [← hL'] at HRISE HNO hLL CS ⊢
  obtain ⟨len0, hlen0⟩ : ∃ z, z = L.length := ⟨_, rfl⟩
  rw [← hlen0] at hcase
  have HLEN0 := hide hlen0
  clear CL h he hfl hrise hi hz0 hz1 hz2 hx0 hL' hlen0
  obtain ⟨A, c, rfl, hcn, hcm, _⟩ := FlatAt.shape H.out.row
  rw [← HLEN0.out] at hcn H
  unfold maxLen at hcm
  rcases hcase with hx | ⟨rfl, hx⟩
  all_goals
    go_enter Try.func15, Try.ntmps15
    go_wp2_with (fail)
    refine HCL.out.mono ?_
    rintro e w1 ⟨rfl, hb⟩
    obtain ⟨_, c1, _, _⟩ := (H.out.later hb).cells
    have HB := hide hb
    clear hb
    go_wp2_with (fail)
    refine (CS.out _ HB.out).mono ?_
    rintro e w2 ⟨rfl, T2, v2, h2, hT2, ht2⟩
    obtain ⟨A2, cc2, rfl, hcn2, hcm2, _⟩ := FlatAt.shape h2.row
    unfold maxLen at hcm2
    obtain ⟨n, hn⟩ : ∃ n, n = L'.length := ⟨_, rfl⟩
    rw [← hn] at hcn2 h2 hLL
    obtain ⟨c0', c1', _, _⟩ := h2.cells
    have hrw2 : r < w2.heap.size := lt_of_block h2.cell
    have HTT : Hid (Turned (fun i => i = r) w w2) := (Turned.of_below HB.out _).trans ht2
    have H2 := hide h2
    have HN := hide hn
    clear h2 hT2 ht2 hn c1 HCL
    go_wp2
    go_loopw [7, 8, 37] (fun x d i wr => ∃ (k : Nat) (M : List (Int × Int)) (dn : Bool) (A' : Option Addr) (m c' : Nat), x = .slice A' m c' ∧ d = .bool dn ∧ i = .int .i64 (k : Int) ∧ k ≤ n ∧ m = M.length ∧ m ≤ k + 1 ∧ InsAt (now + after, name) (L'.take k) M dn ∧ Building w2 wr (.slice A' m c') M) (fun _ _ i _ => n - (intOf i).toNat)
    case atStart => exact ⟨0, [], false, none, 0, 0, rfl, rfl, rfl, by omega, rfl, by omega, .inr ⟨rfl, rfl, by simp⟩, Building.start (Below.refl _ _)⟩
    case round =>
      obtain ⟨k, M, dn, A', m, c', rfl, rfl, rfl, hk, hm, hmk, hins, hbu⟩ := hrel
      have HBU := hide hbu
      have HMM := hide hm
      have HINS := hide hins
      have H3 := hide (H2.out.later hbu.below)
      have hsb := hbu.below.size
      clear hbu hm hins
      by_cases hkn : k < n
      · obtain ⟨p, b, off, cc, hp, hv, hcc, hbl, hr⟩ := RefAt.at_ H3.out (i := k) (by rw [← HN.out]; exact hkn)
        rw [← HN.out] at hv
        obtain ⟨rfl, rfl⟩ : A2 = some ⟨b, off, none⟩ ∧ cc2 = cc := by injection hv with e1 _ e3; exact ⟨e1, e3⟩
        have HP := hide hp
        have hnn := HNO.out p (List.mem_of_getElem? hp)
        obtain ⟨e1, nm⟩ := p
        simp only at hnn
        have HR : Hid (wr.rangeAt b (off + k * 2) [.int .i64 nm, .int .i64 e1]) := hr
        have d0 := (H3.out.later (((Below.refl wr.heap.size wr).alloc (Nat.le_refl _) (.cells #[.int .i64 nm, .int .i64 e1] 62 (0, 0))))).cells.1
        clear hp hv hcc hr
        have hthree : (dn = true ∧ name < nm) ∨ (dn = false ∧ name < nm) ∨ (dn = false ∧ nm < name) := by
          cases dn with
          | true =>
            refine .inl ⟨rfl, ?_⟩
            rcases HINS.out with ⟨_, _, q, hq, hlt⟩ | ⟨h0, _⟩
            · obtain ⟨j, hj, hqj⟩ := List.getElem_of_mem hq
              rw [List.length_take] at hj
              have hjk : j < k := by omega
              have hjl : j < L'.length := by omega
              have hkl : k < L'.length := by have := HN.out; omega
              have h1 := List.pairwise_iff_getElem.1 HRISE.out j k hjl hkl hjk
              rw [List.getElem_take] at hqj
              rw [hqj] at h1
              have h2 : L'[k] = (e1, nm) := (List.getElem?_eq_some_iff.1 HP.out).2
              rw [h2] at h1
              simp only at hlt h1
              omega
            · cases h0
          | false =>
            by_cases hlt : name < nm
            · exact .inr (.inl ⟨rfl, hlt⟩)
            · exact .inr (.inr ⟨rfl, by omega⟩)
        rcases hthree with ⟨rfl, hlt⟩ | ⟨rfl, hlt⟩ | ⟨rfl, hlt⟩
        · have HNX : Hid (InsAt (now + after, name) (L'.take (k + 1)) (M ++ [(e1, nm)]) true) := by
            rw [take_next HP.out]
            exact HINS.out.in_
          have BU2 : Hid (Building w2 ((wr.alloc (.cells #[.int .i64 nm, .int .i64 e1] 62 (0, 0))).alloc (.cells #[.int .i64 nm, .int .i64 e1] 62 (0, 0))) (.slice A' m c') M) := HBU.out.later (((Below.refl _ _).alloc (Nat.le_refl _) _).alloc (by simp) _)
          have FL : Hid (FlatAt (fun _ => True) ((wr.alloc (.cells #[.int .i64 nm, .int .i64 e1] 62 (0, 0))).alloc (.cells #[.int .i64 nm, .int .i64 e1] 62 (0, 0))) 2 (.slice (some ⟨(wr.alloc (.cells #[.int .i64 nm, .int .i64 e1] 62 (0, 0))).heap.size, 0, none⟩) 1 1) 1 (rcell (e1, nm))) := ref_lit _ (e1, nm)
          have OW : Hid (((wr.alloc (.cells #[.int .i64 nm, .int .i64 e1] 62 (0, 0))).alloc (.cells #[.int .i64 nm, .int .i64 e1] 62 (0, 0))).ownsRow w2.heap.size 62 2 (.slice A' m c') m (rcells M)) := by
            have h1 := BU2.out.own
            rw [← HMM.out] at h1
            exact h1
          go_wp2_with (first
            | (refine wpList_load_mid (by rfl) 62 _ (by rfl) b (off + k * 2) (by rfl) _ _ HR.out Try.underlying62 (by rfl) (by kernel_rfl) ?_)
            | (refine wpList_buildSlice_one (by rfl) 27 62 _ (by rfl) i0 _ 2 Try.underlying27 HI.out HZ0.out HZ1.out (by omega) (by omega) #[.int .i64 nm, .int .i64 e1] (by rfl) (by rfl) ?_)
            | (at_builtin; refine wpList_append_flat _ (by rfl) (.tmp 60) (.tmp 62) 27 (by rfl) w2.heap.size 62 i0 _ 2 16 Try.underlying27 HI.out HZ0.out HZ1.out HZ2.out (by rfl) (by omega) (.slice A' m c') m (rcells M) (by rfl) OW.out (fun _ => True) _ 1 1 (rcell (e1, nm)) (by rfl) FL.out (by unfold maxLen; omega) (by omega) (by exact BU2.out.below.size) ?_; intro v5 w5 o5 g5))
          have HB5 : Hid (Building w2 w5 v5 (M ++ [(e1, nm)])) := BU2.out.next (e1, nm) (by rw [← HMM.out]; exact o5) g5
          obtain ⟨A5, c5, rfl, hc5⟩ := HB5.out.shape
          clear o5 g5
          go_wp2
          go_roundw
          case rel => exact ⟨k + 1, M ++ [(e1, nm)], true, A5, _, c5, rfl, rfl, by go_num, by omega, rfl, by have := HMM.out; simp; omega, HNX.out, HB5.out⟩
          case measure => simp [intOf]; omega
        · have HNX : Hid (InsAt (now + after, name) (L'.take (k + 1)) (M ++ [(now + after, name)] ++ [(e1, nm)]) true) := by
            rw [take_next HP.out]
            exact HINS.out.now_ hlt
          have BU2 : Hid (Building w2 ((wr.alloc (.cells #[.int .i64 nm, .int .i64 e1] 62 (0, 0))).alloc (.cells #[.int .i64 name, .int .i64 (now + after)] 62 (0, 0))) (.slice A' m c') M) := HBU.out.later (((Below.refl _ _).alloc (Nat.le_refl _) _).alloc (by simp) _)
          have FL : Hid (FlatAt (fun _ => True) ((wr.alloc (.cells #[.int .i64 nm, .int .i64 e1] 62 (0, 0))).alloc (.cells #[.int .i64 name, .int .i64 (now + after)] 62 (0, 0))) 2 (.slice (some ⟨(wr.alloc (.cells #[.int .i64 nm, .int .i64 e1] 62 (0, 0))).heap.size, 0, none⟩) 1 1) 1 (rcell (now + after, name))) := ref_lit _ (now + after, name)
          have OW : Hid (((wr.alloc (.cells #[.int .i64 nm, .int .i64 e1] 62 (0, 0))).alloc (.cells #[.int .i64 name, .int .i64 (now + after)] 62 (0, 0))).ownsRow w2.heap.size 62 2 (.slice A' m c') m (rcells M)) := by
            have h1 := BU2.out.own
            rw [← HMM.out] at h1
            exact h1
          have XB : Hid (∀ w5 : World, ((wr.alloc (.cells #[.int .i64 nm, .int .i64 e1] 62 (0, 0))).alloc (.cells #[.int .i64 name, .int .i64 (now + after)] 62 (0, 0))).grownBy w5 (Value.ownBlock (.slice A' m c')) → w5.cell? ⟨wr.heap.size, 0, none⟩ = some (.int .i64 nm) ∧ w5.cell? ⟨wr.heap.size, 1, none⟩ = some (.int .i64 e1)) := fun w5 g5 => by
            have X5 : w5.heap[wr.heap.size]? = some (.cells #[.int .i64 nm, .int .i64 e1] 62 (0, 0)) := by
              rw [g5.block wr.heap.size (by simp; omega) (by
                intro e
                have := (HBU.out.own.lt _ e.symm).2
                omega)]
              exact (heap_alloc_old _ _ (by simp)).trans (heap_alloc_new _ _)
            exact ⟨cell_of_row w5 _ 0 _ _ _ X5, cell_of_row w5 _ 1 _ _ _ X5⟩
          go_wp2_with (first
            | (refine wpList_load_mid (by rfl) 62 _ (by rfl) b (off + k * 2) (by rfl) _ _ HR.out Try.underlying62 (by rfl) (by kernel_rfl) ?_)
            | (refine wpList_buildSlice_one (by rfl) 27 62 _ (by rfl) i0 _ 2 Try.underlying27 HI.out HZ0.out HZ1.out (by omega) (by omega) #[.int .i64 name, .int .i64 (now + after)] (by rfl) (by rfl) ?_)
            | (at_builtin; refine wpList_append_flat _ (by rfl) (.tmp 49) (.tmp 58) 27 (by rfl) w2.heap.size 62 i0 _ 2 16 Try.underlying27 HI.out HZ0.out HZ1.out HZ2.out (by rfl) (by omega) (.slice A' m c') m (rcells M) (by rfl) OW.out (fun _ => True) _ 1 1 (rcell (now + after, name)) (by rfl) FL.out (by unfold maxLen; omega) (by omega) (by exact BU2.out.below.size) ?_; intro v5 w5 o5 g5; obtain ⟨A5, m5, c5, rfl, HM5, hm5, HB5⟩ := BU2.out.ext (now + after, name) HMM.out o5 g5; obtain ⟨x0, x1⟩ := XB.out w5 g5; have BU6 : Hid (Building w2 (w5.alloc (.cells #[.int .i64 nm, .int .i64 e1] 62 (0, 0))) (.slice A5 m5 c5) (M ++ [(now + after, name)])) := HB5.out.later ((Below.refl _ _).alloc (Nat.le_refl _) _); have FL6 : Hid (FlatAt (fun _ => True) (w5.alloc (.cells #[.int .i64 nm, .int .i64 e1] 62 (0, 0))) 2 (.slice (some ⟨w5.heap.size, 0, none⟩) 1 1) 1 (rcell (e1, nm))) := ref_lit _ (e1, nm); have OW6 : Hid ((w5.alloc (.cells #[.int .i64 nm, .int .i64 e1] 62 (0, 0))).ownsRow w2.heap.size 62 2 (.slice A5 m5 c5) m5 (rcells (M ++ [(now + after, name)]))) := (by have h1 := BU6.out.own; rw [← HM5.out] at h1; exact h1); have hm5i : (m5 : Nat) ≤ 1000 := (by omega); clear o5 g5 hm5)
            | (refine wpList_buildSlice_one (by rfl) 27 62 _ (by rfl) i0 _ 2 Try.underlying27 HI.out HZ0.out HZ1.out (by omega) (by omega) #[.int .i64 nm, .int .i64 e1] (by rfl) (by rfl) ?_)
            | (at_builtin; refine wpList_append_flat _ (by rfl) (.tmp 60) (.tmp 62) 27 (by rfl) w2.heap.size 62 i0 _ 2 16 Try.underlying27 HI.out HZ0.out HZ1.out HZ2.out (by rfl) (by omega) (.slice A5 m5 c5) m5 (rcells (M ++ [(now + after, name)])) (by rfl) OW6.out (fun _ => True) _ 1 1 (rcell (e1, nm)) (by rfl) FL6.out (by unfold maxLen; omega) (by omega) (by exact BU6.out.below.size) ?_; intro v7 w7 o7 g7))
          have HB7 : Hid (Building w2 w7 v7 (M ++ [(now + after, name)] ++ [(e1, nm)])) := BU6.out.next (e1, nm) (by rw [← HM5.out]; exact o7) g7
          obtain ⟨A7, c7, rfl, hc7⟩ := HB7.out.shape
          clear o7 g7
          go_wp2
          go_roundw
          case rel => exact ⟨k + 1, M ++ [(now + after, name)] ++ [(e1, nm)], true, A7, _, c7, rfl, rfl, by go_num, by omega, rfl, by have := HNX.out.len; rw [List.length_take] at this; omega, HNX.out, HB7.out⟩
          case measure => simp [intOf]; omega
        · have HNX : Hid (InsAt (now + after, name) (L'.take (k + 1)) (M ++ [(e1, nm)]) false) := by
            rw [take_next HP.out]
            exact HINS.out.not_yet hlt
          have BU2 : Hid (Building w2 ((wr.alloc (.cells #[.int .i64 nm, .int .i64 e1] 62 (0, 0))).alloc (.cells #[.int .i64 nm, .int .i64 e1] 62 (0, 0))) (.slice A' m c') M) := HBU.out.later (((Below.refl _ _).alloc (Nat.le_refl _) _).alloc (by simp) _)
          have FL : Hid (FlatAt (fun _ => True) ((wr.alloc (.cells #[.int .i64 nm, .int .i64 e1] 62 (0, 0))).alloc (.cells #[.int .i64 nm, .int .i64 e1] 62 (0, 0))) 2 (.slice (some ⟨(wr.alloc (.cells #[.int .i64 nm, .int .i64 e1] 62 (0, 0))).heap.size, 0, none⟩) 1 1) 1 (rcell (e1, nm))) := ref_lit _ (e1, nm)
          have OW : Hid (((wr.alloc (.cells #[.int .i64 nm, .int .i64 e1] 62 (0, 0))).alloc (.cells #[.int .i64 nm, .int .i64 e1] 62 (0, 0))).ownsRow w2.heap.size 62 2 (.slice A' m c') m (rcells M)) := by
            have h1 := BU2.out.own
            rw [← HMM.out] at h1
            exact h1
          go_wp2_with (first
            | (refine wpList_load_mid (by rfl) 62 _ (by rfl) b (off + k * 2) (by rfl) _ _ HR.out Try.underlying62 (by rfl) (by kernel_rfl) ?_)
            | (refine wpList_buildSlice_one (by rfl) 27 62 _ (by rfl) i0 _ 2 Try.underlying27 HI.out HZ0.out HZ1.out (by omega) (by omega) #[.int .i64 nm, .int .i64 e1] (by rfl) (by rfl) ?_)
            | (at_builtin; refine wpList_append_flat _ (by rfl) (.tmp 60) (.tmp 62) 27 (by rfl) w2.heap.size 62 i0 _ 2 16 Try.underlying27 HI.out HZ0.out HZ1.out HZ2.out (by rfl) (by omega) (.slice A' m c') m (rcells M) (by rfl) OW.out (fun _ => True) _ 1 1 (rcell (e1, nm)) (by rfl) FL.out (by unfold maxLen; omega) (by omega) (by exact BU2.out.below.size) ?_; intro v5 w5 o5 g5))
          have HB5 : Hid (Building w2 w5 v5 (M ++ [(e1, nm)])) := BU2.out.next (e1, nm) (by rw [← HMM.out]; exact o5) g5
          obtain ⟨A5, c5, rfl, hc5⟩ := HB5.out.shape
          clear o5 g5
          go_wp2
          go_roundw
          case rel => exact ⟨k + 1, M ++ [(e1, nm)], false, A5, _, c5, rfl, rfl, by go_num, by omega, rfl, by have := HMM.out; simp; omega, HNX.out, HB5.out⟩
          case measure => simp [intOf]; omega
      · obtain rfl : k = n := by omega
        have hfull : L'.take k = L' := List.take_of_length_le (by have := HN.out; omega)
        have hins := HINS.out
        rw [hfull] at hins
        have HINS2 := hide hins
        obtain ⟨d0, d1, _, df⟩ := H3.out.cells
        clear hins hfull
        cases dn with
        | true =>
          have hM : M = insT (now + after, name) L' := by
            rcases HINS2.out with ⟨_, h, _⟩ | ⟨h, _⟩
            · exact h
            · cases h
          have hov : RefNew w2 (wr.setCell ⟨r, 1, none⟩ (.slice A' m c')) r now (insT (now + after, name) L') := by
            rw [← hM]
            exact ref_over H3.out.cell (Turned.of_below HBU.out.below _) hrw2 HBU.out.own rfl
          have HOV := hide (hov.from_ HTT.out)
          clear hM hov
          go_wp2
          go_ret
          exact ⟨rfl, HOV.out⟩
        | false =>
          have hM : M ++ [(now + after, name)] = insT (now + after, name) L' := by
            rcases HINS2.out with ⟨h, _⟩ | ⟨_, rfl, hall⟩
            · cases h
            · exact (insT_tail _ _ hall).symm
          have HMT := hide hM
          have BU2 : Hid (Building w2 (wr.alloc (.cells #[.int .i64 name, .int .i64 (now + after)] 62 (0, 0))) (.slice A' m c') M) := HBU.out.later ((Below.refl _ _).alloc (Nat.le_refl _) _)
          have FL : Hid (FlatAt (fun _ => True) (wr.alloc (.cells #[.int .i64 name, .int .i64 (now + after)] 62 (0, 0))) 2 (.slice (some ⟨wr.heap.size, 0, none⟩) 1 1) 1 (rcell (now + after, name))) := ref_lit _ (now + after, name)
          have OW : Hid ((wr.alloc (.cells #[.int .i64 name, .int .i64 (now + after)] 62 (0, 0))).ownsRow w2.heap.size 62 2 (.slice A' m c') m (rcells M)) := by
            have h1 := BU2.out.own
            rw [← HMM.out] at h1
            exact h1
          clear hM
          go_wp2_with (first
            | (refine wpList_buildSlice_one (by rfl) 27 62 _ (by rfl) i0 _ 2 Try.underlying27 HI.out HZ0.out HZ1.out (by omega) (by omega) #[.int .i64 name, .int .i64 (now + after)] (by rfl) (by rfl) ?_)
            | (at_builtin; refine wpList_append_flat _ (by rfl) (.tmp 67) (.tmp 76) 27 (by rfl) w2.heap.size 62 i0 _ 2 16 Try.underlying27 HI.out HZ0.out HZ1.out HZ2.out (by rfl) (by omega) (.slice A' m c') m (rcells M) (by rfl) OW.out (fun _ => True) _ 1 1 (rcell (now + after, name)) (by rfl) FL.out (by unfold maxLen; omega) (by omega) (by exact BU2.out.below.size) ?_; intro v5 w5 o5 g5; obtain ⟨A5, m5, c5, rfl, HM5, hm5, HB5⟩ := BU2.out.ext (now + after, name) HMM.out o5 g5; obtain ⟨y0, y1, _, yf⟩ := (H2.out.later HB5.out.below).cells; clear o5 g5 d0 d1 df hm5))
          have h5 := H2.out.later HB5.out.below
          have hov : RefNew w2 (w5.setCell ⟨r, 1, none⟩ (.slice A5 m5 c5)) r now (insT (now + after, name) L') := by
            rw [← HMT.out]
            have ho5 := HB5.out.own
            exact ref_over h5.cell (Turned.of_below HB5.out.below _) hrw2 ho5 rfl
          have HOV := hide (hov.from_ HTT.out)
          clear hov h5
          go_ret
          exact ⟨rfl, HOV.out⟩
end
end Go.Proofs.Ythimdmgimlhbaaa
