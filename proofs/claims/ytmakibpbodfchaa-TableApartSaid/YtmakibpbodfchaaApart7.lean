/- The walk over droverlaw07.TableApart: what one client asks changes nothing of another one's. -/
import Derived.Test.YtmakibpbodfchaaActsK7
namespace Go.Proofs.Ytmakibpbodfchaa
open Go.RowKit

set_option maxHeartbeats 16000000 in
set_option maxRecDepth 100000 in
theorem law_apart (v : Value) (l : List ActC) (c r : Int) (w : World) (h : ActsAt (· < w.heap.size) w v l) (_ : ∀ x ∈ l, x.wf) (_ : I64 c) (_ : I64 r) :
    Calls Try.prog 7 #[v, .int .i64 c, .int .i64 r] w fun e w' => e = .returned (.bool true) ∧ Below w.heap.size w w' := by
  obtain ⟨A, cp, rfl, hcn, hcm, _⟩ := FlatAt.shape h
  unfold maxLen at hcm
  obtain ⟨n', hn⟩ : ∃ n', n' = l.length := ⟨_, rfl⟩
  rw [← hn] at hcn ⊢
  have HV : Hid (ActsAt (· < w.heap.size) w (.slice A n' cp) l) := by rw [hn]; exact h
  have HN := hide hn
  clear h hn
  by_cases hlong : 200 < n'
  · have hlong' : (200 : Int) < (n' : Int) := by omega
    go_enter Try.func7, Try.ntmps7
    go_wp2_with (fail)
    refine (lives_any _).mono ?_
    rintro e w2 ⟨rfl, hb2⟩
    have HB2 := hide hb2
    clear hb2
    go_wp2
    go_ret
    exact ⟨rfl, HB2.out⟩
  · have hshort : (n' : Int) ≤ 200 := by omega
    clear hlong
    go_enter Try.func7, Try.ntmps7
    go_wp2_with (fail)
    refine (own_new w w (Below.refl _ _)).mono ?_
    rintro e w1 ⟨g, rfl, o1, _, _⟩
    have O1 := hide o1
    clear o1
    go_wp2
    go_loopw [23] (fun v wr => ∃ (k : Nat) (T : Tab), v = .int .i64 (k : Int) ∧ k ≤ n' ∧ Own w wr g T) (fun v _ => n' - (intOf v).toNat)
    case atStart => exact ⟨0, _, rfl, by omega, O1.out⟩
    case round =>
      obtain ⟨k, T, rfl, hk, ho⟩ := hrel
      have HO := hide ho
      clear ho
      by_cases hkn : k < n'
      · obtain ⟨a, b, off, c', hx, hv, hcc, _, hbl, hrange⟩ := ActsAt.at_ (HV.out.kept (kept_at HO.out.2.2)) (i := k) (by rw [← HN.out]; exact hkn)
        rw [← HN.out] at hv
        obtain ⟨rfl, rfl⟩ : A = some ⟨b, off, none⟩ ∧ cp = c' := by injection hv with e1 _ e3; exact ⟨e1, e3⟩
        have HR : Hid (wr.rangeAt b (off + k * 7) a.cells) := hrange
        clear hrange hbl hcc hx hv
        have HNE : Hid (wr.heap.size ≠ g) := by
          have := HO.out.at_.lt
          show _ ≠ _
          omega
        by_cases hkd0 : a.kind = 0
        · have hk0 : (a.kind == 0) = true := by simpa using hkd0
          clear hkd0
          go_wp2_with (first
            | (refine wpList_load_mid (by rfl) 36 _ (by rfl) b (off + k * 7) (by rfl) _ _ HR.out Try.underlying36 (by rfl) (by kernel_rfl) ?_)
            | (refine wpList_store_act (a := a) (by rfl) _ _ (by rfl) (by rfl) (ActAt.new wr) (by rfl) ?_; intro w2 hx hg; have A2 := hide hx; have O2 := hide (HO.out.later (below_new hg)); clear hx hg))
          refine (own_last O2.out c).mono ?_
          rintro e w3 ⟨rfl, o3, hb3⟩
          have O3 := hide o3
          have A3 := hide (A2.out.later hb3)
          clear o3 hb3
          go_wp2_with (fail)
          refine (own_done O3.out c).mono ?_
          rintro e w4 ⟨rfl, o4, hb4⟩
          have O4 := hide o4
          have A4 := hide (A3.out.later hb4)
          clear o4 hb4
          go_wp2_with (fail)
          refine (own_ask O4.out c r).mono ?_
          rintro e w5 ⟨rfl, o5, hb5⟩
          have O5 := hide o5
          have A5 := hide (A4.out.later hb5)
          have HNF : Hid (w5.heap.size ≠ g) := by
            have := o5.at_.lt
            show _ ≠ _
            omega
          clear o5 hb5
          obtain ⟨l0, hl0⟩ : ∃ l0, l0 = (T.of c).last := ⟨_, rfl⟩
          obtain ⟨d0, hd0⟩ : ∃ d0, d0 = (T.of c).done := ⟨_, rfl⟩
          obtain ⟨y0, hy0⟩ : ∃ y0, y0 = askT T c r := ⟨_, rfl⟩
          have HL0 := hide hl0
          have HD0 := hide hd0
          have HY0 := hide hy0
          rw [← hl0, ← hd0, ← hy0]
          clear hl0 hd0 hy0
          go_wp2_with (first
            | (refine wpList_store_rep (m := y0.2) (by rfl) _ _ (by rfl) (by rfl) (RepAt.new w5) (by rfl) ?_; intro w6 hx hg; have O6 := hide (O5.out.later (below_new hg)); have A6 := hide (A5.out.later (below_new hg)); have Y6 := hide hx; have k0 := A6.out.cell0; have k1 := A6.out.cell1; have k2 := A6.out.cell2; clear hx hg))
          refine (own_start O6.out a.client a.request).mono ?_
          rintro e w7 ⟨rfl, o7, hg7⟩
          obtain ⟨z7, hz7⟩ : ∃ z7, z7 = (startT T a.client a.request).1 := ⟨_, rfl⟩
          rw [← hz7]
          have O7 := hide o7
          have A7 := hide (A6.out.other hg7 (fun e => HNE.out (Option.some.inj e)))
          have Y7 := hide (Y6.out.other hg7 (fun e => HNF.out (Option.some.inj e)))
          clear o7 hg7 k0 k1 k2 hz7
          have e1 := A7.out.cell1
          have HS : Hid (¬ a.client = c → (startT T a.client a.request).2.of c = T.of c) := fun h => start_else T _ (fun e => h e.symm)
          by_cases hcc : a.client = c
          · have hcb : (a.client == c) = true := by simpa using hcc
            clear hcc
            go_wp2
            go_roundw
            case rel => exact ⟨k + 1, _, by go_num, by omega, O7.out⟩
            case measure => simp [intOf]; omega
          · have hcb : (a.client == c) = false := by simpa using hcc
            have HSO := hide (HS.out hcc)
            clear hcc HS
            go_wp2_with (fail)
            clear e1
            refine (own_ask O7.out c r).mono ?_
            rw [ask_of HSO.out r, ← HY0.out]
            rintro e w8 ⟨rfl, o8, hb8⟩
            have O8 := hide o8
            have Y8 := hide (Y7.out.later hb8)
            clear o8 hb8
            go_wp2_with (refine wpList_store_rep (m := y0.2) (by rfl) _ _ (by rfl) (by rfl) (RepAt.new w8) (by rfl) ?_; intro w9 hx hg; have O9 := hide (O8.out.later (below_new hg)); have Y9 := hide (Y8.out.later (below_new hg)); have Z9 := hide hx; clear hx hg)
            refine (own_last O9.out c).mono ?_
            rw [HSO.out, ← HL0.out]
            rintro e w10 ⟨rfl, o10, hb10⟩
            have O10 := hide o10
            have Y10 := hide (Y9.out.later hb10)
            have Z10 := hide (Z9.out.later hb10)
            clear o10 hb10
            go_wp2_with (fail)
            refine (own_done O10.out c).mono ?_
            rw [HSO.out, ← HD0.out]
            rintro e w11 ⟨rfl, o11, hb11⟩
            have O11 := hide o11
            have Y11 := hide (Y10.out.later hb11)
            have Z11 := hide (Z10.out.later hb11)
            clear o11 hb11
            have q := fun w' => neq_rep y0.2 y0.2 w'
            simp only [decide_true, Bool.not_true] at q
            go_wp2_with (first
              | (refine wpList_val rfl (by rfl) (exec_load_rep _ (by rfl) (by rfl) Z11.out) ?_)
              | (refine wpList_val rfl (by rfl) (exec_load_rep _ (by rfl) (by rfl) Y11.out) ?_))
            clear q
            go_roundw
            case rel => exact ⟨k + 1, _, by go_num, by omega, O11.out⟩
            case measure => simp [intOf]; omega
          
        by_cases hkd1 : a.kind = 1
        · have hk0 : (a.kind == 0) = false := by simpa using hkd0
          have hk1 : (a.kind == 1) = true := by simpa using hkd1
          clear hkd0 hkd1
          go_wp2_with (first
            | (refine wpList_load_mid (by rfl) 36 _ (by rfl) b (off + k * 7) (by rfl) _ _ HR.out Try.underlying36 (by rfl) (by kernel_rfl) ?_)
            | (refine wpList_store_act (a := a) (by rfl) _ _ (by rfl) (by rfl) (ActAt.new wr) (by rfl) ?_; intro w2 hx hg; have A2 := hide hx; have O2 := hide (HO.out.later (below_new hg)); clear hx hg))
          refine (own_last O2.out c).mono ?_
          rintro e w3 ⟨rfl, o3, hb3⟩
          have O3 := hide o3
          have A3 := hide (A2.out.later hb3)
          clear o3 hb3
          go_wp2_with (fail)
          refine (own_done O3.out c).mono ?_
          rintro e w4 ⟨rfl, o4, hb4⟩
          have O4 := hide o4
          have A4 := hide (A3.out.later hb4)
          clear o4 hb4
          go_wp2_with (fail)
          refine (own_ask O4.out c r).mono ?_
          rintro e w5 ⟨rfl, o5, hb5⟩
          have O5 := hide o5
          have A5 := hide (A4.out.later hb5)
          have HNF : Hid (w5.heap.size ≠ g) := by
            have := o5.at_.lt
            show _ ≠ _
            omega
          clear o5 hb5
          obtain ⟨l0, hl0⟩ : ∃ l0, l0 = (T.of c).last := ⟨_, rfl⟩
          obtain ⟨d0, hd0⟩ : ∃ d0, d0 = (T.of c).done := ⟨_, rfl⟩
          obtain ⟨y0, hy0⟩ : ∃ y0, y0 = askT T c r := ⟨_, rfl⟩
          have HL0 := hide hl0
          have HD0 := hide hd0
          have HY0 := hide hy0
          rw [← hl0, ← hd0, ← hy0]
          clear hl0 hd0 hy0
          go_wp2_with (first
            | (refine wpList_store_rep (m := y0.2) (by rfl) _ _ (by rfl) (by rfl) (RepAt.new w5) (by rfl) ?_; intro w6 hx hg; have O6 := hide (O5.out.later (below_new hg)); have A6 := hide (A5.out.later (below_new hg)); have Y6 := hide hx; have k0 := A6.out.cell0; have k1 := A6.out.cell1; have k2 := A6.out.cell2; clear hx hg)
            | (refine wpList_load_arep (by rfl) _ (by rfl) (by rfl) A6.out ?_))
          refine (own_finish O6.out a.client a.request a.rep).mono ?_
          rintro e w7 ⟨rfl, o7, hg7⟩
          obtain ⟨z7, hz7⟩ : ∃ z7, z7 = (finishT T a.client a.request a.rep).1 := ⟨_, rfl⟩
          rw [← hz7]
          have O7 := hide o7
          have A7 := hide (A6.out.other hg7 (fun e => HNE.out (Option.some.inj e)))
          have Y7 := hide (Y6.out.other hg7 (fun e => HNF.out (Option.some.inj e)))
          clear o7 hg7 k0 k1 k2 hz7
          have e1 := A7.out.cell1
          have HS : Hid (¬ a.client = c → (finishT T a.client a.request a.rep).2.of c = T.of c) := fun h => finish_else T _ _ (fun e => h e.symm)
          by_cases hcc : a.client = c
          · have hcb : (a.client == c) = true := by simpa using hcc
            clear hcc
            go_wp2
            go_roundw
            case rel => exact ⟨k + 1, _, by go_num, by omega, O7.out⟩
            case measure => simp [intOf]; omega
          · have hcb : (a.client == c) = false := by simpa using hcc
            have HSO := hide (HS.out hcc)
            clear hcc HS
            go_wp2_with (fail)
            clear e1
            refine (own_ask O7.out c r).mono ?_
            rw [ask_of HSO.out r, ← HY0.out]
            rintro e w8 ⟨rfl, o8, hb8⟩
            have O8 := hide o8
            have Y8 := hide (Y7.out.later hb8)
            clear o8 hb8
            go_wp2_with (refine wpList_store_rep (m := y0.2) (by rfl) _ _ (by rfl) (by rfl) (RepAt.new w8) (by rfl) ?_; intro w9 hx hg; have O9 := hide (O8.out.later (below_new hg)); have Y9 := hide (Y8.out.later (below_new hg)); have Z9 := hide hx; clear hx hg)
            refine (own_last O9.out c).mono ?_
            rw [HSO.out, ← HL0.out]
            rintro e w10 ⟨rfl, o10, hb10⟩
            have O10 := hide o10
            have Y10 := hide (Y9.out.later hb10)
            have Z10 := hide (Z9.out.later hb10)
            clear o10 hb10
            go_wp2_with (fail)
            refine (own_done O10.out c).mono ?_
            rw [HSO.out, ← HD0.out]
            rintro e w11 ⟨rfl, o11, hb11⟩
            have O11 := hide o11
            have Y11 := hide (Y10.out.later hb11)
            have Z11 := hide (Z10.out.later hb11)
            clear o11 hb11
            have q := fun w' => neq_rep y0.2 y0.2 w'
            simp only [decide_true, Bool.not_true] at q
            go_wp2_with (first
              | (refine wpList_val rfl (by rfl) (exec_load_rep _ (by rfl) (by rfl) Z11.out) ?_)
              | (refine wpList_val rfl (by rfl) (exec_load_rep _ (by rfl) (by rfl) Y11.out) ?_))
            clear q
            go_roundw
            case rel => exact ⟨k + 1, _, by go_num, by omega, O11.out⟩
            case measure => simp [intOf]; omega
          
        · have hk0 : (a.kind == 0) = false := by simpa using hkd0
          have hk1 : (a.kind == 1) = false := by simpa using hkd1
          clear hkd0 hkd1
          go_wp2_with (first
            | (refine wpList_load_mid (by rfl) 36 _ (by rfl) b (off + k * 7) (by rfl) _ _ HR.out Try.underlying36 (by rfl) (by kernel_rfl) ?_)
            | (refine wpList_store_act (a := a) (by rfl) _ _ (by rfl) (by rfl) (ActAt.new wr) (by rfl) ?_; intro w2 hx hg; have A2 := hide hx; have O2 := hide (HO.out.later (below_new hg)); clear hx hg))
          refine (own_last O2.out c).mono ?_
          rintro e w3 ⟨rfl, o3, hb3⟩
          have O3 := hide o3
          have A3 := hide (A2.out.later hb3)
          clear o3 hb3
          go_wp2_with (fail)
          refine (own_done O3.out c).mono ?_
          rintro e w4 ⟨rfl, o4, hb4⟩
          have O4 := hide o4
          have A4 := hide (A3.out.later hb4)
          clear o4 hb4
          go_wp2_with (fail)
          refine (own_ask O4.out c r).mono ?_
          rintro e w5 ⟨rfl, o5, hb5⟩
          have O5 := hide o5
          have A5 := hide (A4.out.later hb5)
          have HNF : Hid (w5.heap.size ≠ g) := by
            have := o5.at_.lt
            show _ ≠ _
            omega
          clear o5 hb5
          obtain ⟨l0, hl0⟩ : ∃ l0, l0 = (T.of c).last := ⟨_, rfl⟩
          obtain ⟨d0, hd0⟩ : ∃ d0, d0 = (T.of c).done := ⟨_, rfl⟩
          obtain ⟨y0, hy0⟩ : ∃ y0, y0 = askT T c r := ⟨_, rfl⟩
          have HL0 := hide hl0
          have HD0 := hide hd0
          have HY0 := hide hy0
          rw [← hl0, ← hd0, ← hy0]
          clear hl0 hd0 hy0
          go_wp2_with (first
            | (refine wpList_store_rep (m := y0.2) (by rfl) _ _ (by rfl) (by rfl) (RepAt.new w5) (by rfl) ?_; intro w6 hx hg; have O6 := hide (O5.out.later (below_new hg)); have A6 := hide (A5.out.later (below_new hg)); have Y6 := hide hx; have k0 := A6.out.cell0; have k1 := A6.out.cell1; have k2 := A6.out.cell2; clear hx hg))
          go_roundw
          case rel => exact ⟨k + 1, _, by go_num, by omega, O6.out⟩
          case measure => simp [intOf]; omega
      · have hlt : decide (k < n') = false := by simpa using hkn
        go_wp2_with (fail)
        refine (lives_any _).mono ?_
        rintro e w2 ⟨rfl, hb2⟩
        have HL := hide (HO.out.later hb2)
        clear hb2
        go_wp2
        go_ret
        exact ⟨rfl, HL.out.2.2⟩
end Go.Proofs.Ytmakibpbodfchaa
