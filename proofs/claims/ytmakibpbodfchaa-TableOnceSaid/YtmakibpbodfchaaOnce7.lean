/- The walk over droverlaw07.TableOnce: what is known of a request stays until a greater one is finished; no request is new twice. -/
import Derived.Test.YtmakibpbodfchaaActsK7
import Derived.Test.YtmakibpbodfchaaOrderS
namespace Go.Proofs.Ytmakibpbodfchaa
open Go.RowKit

/-- What is finished was started, or is not less. -/
def Tab.inv (T : Tab) : Prop := ∀ c, (T.of c).done ≤ (T.of c).last
theorem zero_inv : Tab.zero.inv := fun c => by rw [zero_of]; exact Int.le_refl 0
/-- What the law asks of an act that starts. -/
structure OnceS (T : Tab) (c r : Int) : Prop where
  new : ((startT T c r).1 == 0) = ((askT T c r).1 == 1)
  last : (askT T c r).1 = 1 → ((startT T c r).2.of c).last = r
  done : (T.of c).done ≤ ((startT T c r).2.of c).done
  more : (T.of c).last ≤ ((startT T c r).2.of c).last
  ord : ((startT T c r).2.of c).done ≤ ((startT T c r).2.of c).last
  inv : (startT T c r).2.inv
theorem onceS {T : Tab} (h : T.inv) (c r : Int) : OnceS T c r := by
  have hc := h c
  by_cases hk : okC c r = true
  · have hic := (okC_and hk).1
    by_cases hl : r ≤ (T.of c).last
    · have e : startT T c r = (10, T) := by unfold startT; rw [if_pos hk, if_pos hl]
      have a : (askT T c r).1 ≠ 1 := by
        unfold askT
        rw [if_pos hk]
        unfold askM
        split
        · simp
        · split
          · simp
          · rw [if_neg (by omega)]
            simp
      refine ⟨?_, fun h1 => absurd h1 a, ?_, ?_, ?_, ?_⟩
      · rw [e]
        have : ((askT T c r).1 == 1) = false := by simpa using a
        rw [this]
        rfl
      all_goals rw [e]
      · exact Int.le_refl _
      · exact Int.le_refl _
      · exact hc
      · exact h
    · have e : startT T c r = (0, T.put c ((T.of c).started r)) := by unfold startT; rw [if_pos hk, if_neg hl]
      have a : (askT T c r).1 = 1 := by
        unfold askT
        rw [if_pos hk]
        unfold askM
        rw [if_neg (by omega), if_neg (by omega), if_pos (by omega)]
      have o : ((startT T c r).2.of c) = (T.of c).started r := by rw [e]; exact put_of T hic _
      have m : max (T.of c).last r = r := by omega
      refine ⟨by rw [e, a]; rfl, fun _ => by rw [o]; exact m, by rw [o]; exact Int.le_refl _, ?_, ?_, fun d => ?_⟩
      · rw [o]
        show _ ≤ max _ _
        omega
      · rw [o]
        show (T.of c).done ≤ max _ _
        omega
      · by_cases hd : d = c
        · subst hd
          rw [o]
          show (T.of d).done ≤ max _ _
          omega
        · rw [e]
          show ((T.put c _).of d).done ≤ ((T.put c _).of d).last
          rw [put_else T hic hd]
          exact h d
  · have hk : okC c r = false := by simpa using hk
    have e : startT T c r = (2, T) := by unfold startT; rw [hk]; rfl
    have a : (askT T c r).1 = 4 := by unfold askT; rw [hk]; rfl
    refine ⟨by rw [e, a]; rfl, fun h1 => by rw [a] at h1; simp at h1, ?_, ?_, ?_, ?_⟩
    all_goals rw [e]
    · exact Int.le_refl _
    · exact Int.le_refl _
    · exact hc
    · exact h
structure OnceT (T : Tab) (c : Int) : Prop where
  done : (T.of c).done ≤ (T.of c).done
  more : (T.of c).last ≤ (T.of c).last
  ord : (T.of c).done ≤ (T.of c).last
theorem onceT {T : Tab} (h : T.inv) (c : Int) : OnceT T c := ⟨Int.le_refl _, Int.le_refl _, h c⟩
/-- What the law asks of an act that finishes. -/
structure OnceF (T : Tab) (c r : Int) (x : Rep) : Prop where
  ok : (finishT T c r x).1 = 0 → (T.of c).done < r ∧ ((finishT T c r x).2.of c).done = r
  no : (finishT T c r x).1 ≠ 0 → (finishT T c r x).2 = T
  done : (T.of c).done ≤ ((finishT T c r x).2.of c).done
  more : (T.of c).last ≤ ((finishT T c r x).2.of c).last
  ord : ((finishT T c r x).2.of c).done ≤ ((finishT T c r x).2.of c).last
  inv : (finishT T c r x).2.inv
theorem onceF {T : Tab} (h : T.inv) (c r : Int) (x : Rep) : OnceF T c r x := by
  have hc := h c
  have stay : ∀ n : Int, n ≠ 0 → finishT T c r x = (n, T) → OnceF T c r x := fun n hn e => by
    refine ⟨fun h1 => ?_, fun _ => by rw [e], ?_, ?_, ?_, ?_⟩
    · rw [e] at h1
      exact absurd h1 hn
    all_goals rw [e]
    · exact Int.le_refl _
    · exact Int.le_refl _
    · exact hc
    · exact h
  by_cases hk : okC c r = true
  · have hic := (okC_and hk).1
    by_cases hl : r < (T.of c).done
    · exact stay 10 (by decide) (by unfold finishT; rw [if_pos hk, if_pos hl])
    by_cases he : r = (T.of c).done
    · exact stay 9 (by decide) (by unfold finishT; rw [if_pos hk, if_neg hl, if_pos he])
    · have e : finishT T c r x = (0, T.put c ((T.of c).finished r x)) := by unfold finishT; rw [if_pos hk, if_neg hl, if_neg he]
      have o : ((finishT T c r x).2.of c) = (T.of c).finished r x := by rw [e]; exact put_of T hic _
      refine ⟨fun _ => ⟨by omega, by rw [o]; rfl⟩, fun h1 => by rw [e] at h1; exact absurd rfl h1, ?_, ?_, ?_, fun d => ?_⟩
      · rw [o]
        show _ ≤ r
        omega
      · rw [o]
        show _ ≤ max _ _
        omega
      · rw [o]
        show r ≤ max _ _
        omega
      · by_cases hd : d = c
        · subst hd
          rw [o]
          show r ≤ max _ _
          omega
        · rw [e]
          show ((T.put c _).of d).done ≤ ((T.put c _).of d).last
          rw [put_else T hic hd]
          exact h d
  · have hk : okC c r = false := by simpa using hk
    exact stay 2 (by decide) (by unfold finishT; rw [hk]; rfl)

set_option maxHeartbeats 16000000 in
set_option maxRecDepth 100000 in
theorem law_once (v : Value) (l : List ActC) (w : World) (h : ActsAt (· < w.heap.size) w v l) (_ : ∀ x ∈ l, x.wf) :
    Calls Try.prog 4 #[v] w fun e w' => e = .returned (.bool true) ∧ Below w.heap.size w w' := by
  obtain ⟨A, cp, rfl, hcn, hcm, _⟩ := FlatAt.shape h
  unfold maxLen at hcm
  obtain ⟨n', hn⟩ : ∃ n', n' = l.length := ⟨_, rfl⟩
  rw [← hn] at hcn ⊢
  have HV : Hid (ActsAt (· < w.heap.size) w (.slice A n' cp) l) := by rw [hn]; exact h
  have HN := hide hn
  clear h hn
  by_cases hlong : 200 < n'
  · have hlong' : (200 : Int) < (n' : Int) := by omega
    go_enter Try.func4, Try.ntmps4
    go_wp2_with (fail)
    refine (lives_any _).mono ?_
    rintro e w2 ⟨rfl, hb2⟩
    have HB2 := hide hb2
    clear hb2
    go_wp2
    go_ret
    exact ⟨rfl, HB2.out⟩
  · have hshort : (n' : Int) ≤ 200 := by omega
    clear hlong
    go_enter Try.func4, Try.ntmps4
    go_wp2_with (fail)
    refine (own_new w w (Below.refl _ _)).mono ?_
    rintro e w1 ⟨g, rfl, o1, _, _⟩
    have O1 := hide o1
    clear o1
    go_wp2
    go_loopw [22] (fun v wr => ∃ (k : Nat) (T : Tab), v = .int .i64 (k : Int) ∧ k ≤ n' ∧ T.inv ∧ Own w wr g T) (fun v _ => n' - (intOf v).toNat)
    case atStart => exact ⟨0, _, rfl, by omega, zero_inv, O1.out⟩
    case round =>
      obtain ⟨k, T, rfl, hk, hinv, ho⟩ := hrel
      have HI := hide hinv
      clear hinv
      have HO := hide ho
      clear ho
      by_cases hkn : k < n'
      · obtain ⟨a, b, off, c', hx, hv, hcc, _, hbl, hrange⟩ := ActsAt.at_ (HV.out.kept (kept_at HO.out.2.2)) (i := k) (by rw [← HN.out]; exact hkn)
        rw [← HN.out] at hv
        obtain ⟨rfl, rfl⟩ : A = some ⟨b, off, none⟩ ∧ cp = c' := by injection hv with e1 _ e3; exact ⟨e1, e3⟩
        have HR : Hid (wr.rangeAt b (off + k * 7) a.cells) := hrange
        clear hrange hbl hcc hx hv
        have HNE : Hid (wr.heap.size ≠ g) := by
          have := HO.out.at_.lt
          show _ ≠ _
          omega
        by_cases hkd0 : a.kind = 0
        · have hk0 : (a.kind == 0) = true := by simpa using hkd0
          clear hkd0
          have HS := hide (onceS HI.out a.client a.request)
          go_wp2_with (first
            | (refine wpList_load_mid (by rfl) 36 _ (by rfl) b (off + k * 7) (by rfl) _ _ HR.out Try.underlying36 (by rfl) (by kernel_rfl) ?_)
            | (refine wpList_store_act (a := a) (by rfl) _ _ (by rfl) (by rfl) (ActAt.new wr) (by rfl) ?_; intro w2 hx hg; have A2 := hide hx; have O2 := hide (HO.out.later (below_new hg)); have k1 := A2.out.cell1; clear hx hg))
          refine (own_done O2.out a.client).mono ?_
          rintro e w3 ⟨rfl, o3, hb3⟩
          have O3 := hide o3
          have A3 := hide (A2.out.later hb3)
          clear o3 hb3 k1
          have k1 := A3.out.cell1
          go_wp2_with (fail)
          clear k1
          refine (own_last O3.out a.client).mono ?_
          rintro e w4 ⟨rfl, o4, hb4⟩
          have O4 := hide o4
          have A4 := hide (A3.out.later hb4)
          clear o4 hb4
          have k1 := A4.out.cell1
          obtain ⟨d0, hd0⟩ : ∃ d0, d0 = (T.of a.client).done := ⟨_, rfl⟩
          obtain ⟨l0, hl0⟩ : ∃ l0, l0 = (T.of a.client).last := ⟨_, rfl⟩
          have HD0 := hide hd0
          have HL0 := hide hl0
          rw [← hd0, ← hl0]
          clear hd0 hl0
          go_wp2_with (fail)
          clear k1
          refine (own_ask O4.out a.client d0).mono ?_
          rintro e w5 ⟨rfl, o5, hb5⟩
          have O5 := hide o5
          have A5 := hide (A4.out.later hb5)
          have HNF : Hid (w5.heap.size ≠ g) := by
            have := o5.at_.lt
            show _ ≠ _
            omega
          clear o5 hb5
          obtain ⟨y0, hy0⟩ : ∃ y0, y0 = askT T a.client d0 := ⟨_, rfl⟩
          have HY0 := hide hy0
          rw [← hy0]
          clear hy0
          go_wp2_with (refine wpList_store_rep (m := y0.2) (by rfl) _ _ (by rfl) (by rfl) (RepAt.new w5) (by rfl) ?_; intro w6 hx hg; have O6 := hide (O5.out.later (below_new hg)); have A6 := hide (A5.out.later (below_new hg)); have Y6 := hide hx; have k1 := A6.out.cell1; have k2 := A6.out.cell2; clear hx hg)
          clear k1 k2
          refine (own_ask O6.out a.client a.request).mono ?_
          rintro e w7 ⟨rfl, o7, hb7⟩
          have O7 := hide o7
          have A7 := hide (A6.out.later hb7)
          have Y7 := hide (Y6.out.later hb7)
          clear o7 hb7
          obtain ⟨q0, hq0⟩ : ∃ q0, q0 = (askT T a.client a.request).1 := ⟨_, rfl⟩
          obtain ⟨p0, hp0⟩ : ∃ p0, p0 = (askT T a.client a.request).2 := ⟨_, rfl⟩
          have HQ0 := hide hq0
          rw [← hq0, ← hp0]
          clear hq0 hp0
          go_wp2_with (first
            | (refine wpList_store_rep (m := p0) (by rfl) _ _ (by rfl) (by rfl) (RepAt.new w7) (by rfl) ?_; intro w8 hx hg; have O8 := hide (O7.out.later (below_new hg)); have A8 := hide (A7.out.later (below_new hg)); have Y8 := hide (Y7.out.later (below_new hg)); have k0 := A8.out.cell0; clear hx hg))
          obtain ⟨z0, hz0⟩ : ∃ z0, (startT T a.client a.request).1 = z0 := ⟨_, rfl⟩
          have HZ := hide hz0
          have hnw := HS.out.new
          rw [hz0, ← HQ0.out] at hnw
          clear hz0
          obtain ⟨d1, hd1⟩ : ∃ d1, ((startT T a.client a.request).2.of a.client).done = d1 := ⟨_, rfl⟩
          obtain ⟨l1, hl1⟩ : ∃ l1, ((startT T a.client a.request).2.of a.client).last = l1 := ⟨_, rfl⟩
          have HD1 := hide hd1
          have HL1 := hide hl1
          have B1 : Hid (decide (d1 < d0) = false) := by
            have h1 := HS.out.done
            rw [hd1, ← HD0.out] at h1
            show _ = _
            simpa using h1
          have B2 : Hid (decide (l1 < l0) = false) := by
            have h1 := HS.out.more
            rw [hl1, ← HL0.out] at h1
            show _ = _
            simpa using h1
          have B3 : Hid (decide (l1 < d1) = false) := by
            have h1 := HS.out.ord
            rw [hl1, hd1] at h1
            show _ = _
            simpa using h1
          clear hd1 hl1
          
          clear k0
          rcases hq1 : (q0 == 1) with _ | _
          · have BQ := hide hq1
            have BZ := hide (hnw.trans hq1)
            clear hnw hq1
            refine wp_region_R (R := fun a b => Kept (fun i => i = wr.heap.size) a b) (by kernel_rfl) ?_
            refine wpAnyR_take (pre_kept (fun i => i = wr.heap.size)) (i := 0) (d := some 55) (v := ?vara0) rfl rfl (by kernel_rfl) (by kernel_rfl) (by kernel_rfl) (fun _ _ _ h => h) (by rfl) ?yara0 ?_
            case yara0 => (intro w' hw'; go_simp; try (with_reducible rfl))
            simp only [Act.put]; try simp only [List.setIfInBounds_toArray]; try simp only [List.set_cons_zero, List.set_cons_succ]
            refine wpAnyR_take (pre_kept (fun i => i = wr.heap.size)) (i := 1) (d := some 56) (v := ?vara1) rfl rfl (by kernel_rfl) (by kernel_rfl) (by kernel_rfl) (fun _ _ _ h => h) (by rfl) ?yara1 ?_
            case yara1 => (intro w' hw'; go_simp; try (with_reducible rfl))
            simp only [Act.put]; try simp only [List.setIfInBounds_toArray]; try simp only [List.set_cons_zero, List.set_cons_succ]
            refine wpAnyR_take (pre_kept (fun i => i = wr.heap.size)) (i := 2) (d := some 57) (v := ?vara2) rfl rfl (by kernel_rfl) (by kernel_rfl) (by kernel_rfl) (fun _ _ _ h => h) (by rfl) ?yara2 ?_
            case yara2 => (intro w' hw'; have e1 := ((A8.out.later (Below.refl w8.heap.size w8).drew).kept hw').cell1; go_simp; try (with_reducible rfl))
            simp only [Act.put]; try simp only [List.setIfInBounds_toArray]; try simp only [List.set_cons_zero, List.set_cons_succ]
            refine wpAnyR_take (pre_kept (fun i => i = wr.heap.size)) (i := 3) (d := some 58) (v := ?vara3) rfl rfl (by kernel_rfl) (by kernel_rfl) (by kernel_rfl) (fun _ _ _ h => h) (by rfl) ?yara3 ?_
            case yara3 => (intro w' hw'; go_simp; try (with_reducible rfl))
            simp only [Act.put]; try simp only [List.setIfInBounds_toArray]; try simp only [List.set_cons_zero, List.set_cons_succ]
            refine wpAnyR_take (pre_kept (fun i => i = wr.heap.size)) (i := 4) (d := some 59) (v := ?vara4) rfl rfl (by kernel_rfl) (by kernel_rfl) (by kernel_rfl) (fun _ _ _ h => h) (by rfl) ?yara4 ?_
            case yara4 => (intro w' hw'; have e2 := ((A8.out.later (Below.refl w8.heap.size w8).drew).kept hw').cell2; go_simp; try (with_reducible rfl))
            simp only [Act.put]; try simp only [List.setIfInBounds_toArray]; try simp only [List.set_cons_zero, List.set_cons_succ]
            refine wpAnyR_take (pre_kept (fun i => i = wr.heap.size)) (i := 7) (d := some 62) (v := ?vara7) rfl rfl (by kernel_rfl) (by kernel_rfl) (by kernel_rfl) (fun _ _ _ h => h) (by rfl) ?yara7 ?_
            case yara7 => (intro w' hw'; go_simp; try (with_reducible rfl))
            simp only [Act.put]; try simp only [List.setIfInBounds_toArray]; try simp only [List.set_cons_zero, List.set_cons_succ]
            refine wpAnyR_take (pre_kept (fun i => i = wr.heap.size)) (i := 8) (d := some 63) (v := .bool false) rfl rfl (by kernel_rfl) (by kernel_rfl) (by kernel_rfl) (fun _ _ _ h => h) (by rfl) ?yara8 ?_
            case yara8 => (intro w' hw'; have hb := BQ.out; go_simp; try (with_reducible rfl))
            simp only [Act.put]; try simp only [List.setIfInBounds_toArray]; try simp only [List.set_cons_zero, List.set_cons_succ]
            refine wpAnyR_only (i := 5) rfl (by kernel_rfl) (by rfl) fun K hK => ?_
            go_simp
            refine (own_start (O8.out.later (Below.refl w8.heap.size w8).drew) a.client a.request).mono ?_
            rw [HZ.out]
            rintro e w9 ⟨rfl, o9, hg9⟩
            have O9 := hide o9
            have A9 := hide ((A8.out.later (Below.refl w8.heap.size w8).drew).other hg9 (fun e => HNE.out (Option.some.inj e)))
            have hk9 : Kept (fun i => i = wr.heap.size) w8.drew w9 := Kept.of_grown hg9 (fun q e hq => HNE.out ((show q = wr.heap.size from hq).symm.trans (Option.some.inj e).symm))
            refine hK.out _ _ hk9 ?_
            clear o9 hg9 hk9
            clear hK K
            try (simp only [Act.put]; try simp only [List.setIfInBounds_toArray]; try simp only [List.set_cons_zero, List.set_cons_succ])
            refine wpAnyR_take (pre_kept (fun i => i = wr.heap.size)) (i := 6) (d := some 61) (v := .bool false) rfl rfl (by kernel_rfl) (by kernel_rfl) (by kernel_rfl) (fun _ _ _ h => h) (by rfl) ?yara6 ?_
            case yara6 => (intro w' hw'; have hb := BZ.out; go_simp; try (with_reducible rfl))
            simp only [Act.put]; try simp only [List.setIfInBounds_toArray]; try simp only [List.set_cons_zero, List.set_cons_succ]
            refine wpAnyR_take (pre_kept (fun i => i = wr.heap.size)) (i := 9) (d := some 64) (v := .bool false) rfl rfl (by kernel_rfl) (by kernel_rfl) (by kernel_rfl) (fun _ _ _ h => h) (by rfl) ?yara9 ?_
            case yara9 => (intro w' hw'; go_simp; try (with_reducible rfl))
            simp only [Act.put]; try simp only [List.setIfInBounds_toArray]; try simp only [List.set_cons_zero, List.set_cons_succ]
            refine wpAnyR_take (pre_kept (fun i => i = wr.heap.size)) (i := 10) (d := some 65) (v := ?vara10) rfl rfl (by kernel_rfl) (by kernel_rfl) (by kernel_rfl) (fun _ _ _ h => h) (by rfl) ?yara10 ?_
            case yara10 => (intro w' hw'; go_simp; try (with_reducible rfl))
            simp only [Act.put]; try simp only [List.setIfInBounds_toArray]; try simp only [List.set_cons_zero, List.set_cons_succ]
            refine wpAnyR_take (pre_kept (fun i => i = wr.heap.size)) (i := 11) (d := some 66) (v := ?vara11) rfl rfl (by kernel_rfl) (by kernel_rfl) (by kernel_rfl) (fun _ _ _ h => h) (by rfl) ?yara11 ?_
            case yara11 => (intro w' hw'; go_simp; try (with_reducible rfl))
            simp only [Act.put]; try simp only [List.setIfInBounds_toArray]; try simp only [List.set_cons_zero, List.set_cons_succ]
            refine wpAnyR_take (pre_kept (fun i => i = wr.heap.size)) (i := 12) (d := some 67) (v := .bool false) rfl rfl (by kernel_rfl) (by kernel_rfl) (by kernel_rfl) (fun _ _ _ h => h) (by rfl) ?yara12 ?_
            case yara12 => (intro w' hw'; have hb := BQ.out; go_simp; try (with_reducible rfl))
            simp only [Act.put]; try simp only [List.setIfInBounds_toArray]; try simp only [List.set_cons_zero, List.set_cons_succ]
            refine wpAnyR_take (pre_kept (fun i => i = wr.heap.size)) (i := 13) (d := some 68) (v := ?vara13) rfl rfl (by kernel_rfl) (by kernel_rfl) (by kernel_rfl) (fun _ _ _ h => h) (by rfl) ?yara13 ?_
            case yara13 => (intro w' hw'; go_simp; try (with_reducible rfl))
            simp only [Act.put]; try simp only [List.setIfInBounds_toArray]; try simp only [List.set_cons_zero, List.set_cons_succ]
            refine wpAnyR_pass (pre_kept (fun i => i = wr.heap.size)) (i := 14) (d := some 69) rfl rfl (by kernel_rfl) (by kernel_rfl) (by kernel_rfl) (fun _ _ _ h => h) (by rfl) ?_
            try (simp only [Act.put]; try simp only [List.setIfInBounds_toArray]; try simp only [List.set_cons_zero, List.set_cons_succ])
            refine wpAnyR_pass (pre_kept (fun i => i = wr.heap.size)) (i := 15) (d := some 70) rfl rfl (by kernel_rfl) (by kernel_rfl) (by kernel_rfl) (fun _ _ _ h => h) (by rfl) ?_
            try (simp only [Act.put]; try simp only [List.setIfInBounds_toArray]; try simp only [List.set_cons_zero, List.set_cons_succ])
            refine wpAnyR_pass (pre_kept (fun i => i = wr.heap.size)) (i := 16) (d := some 71) rfl rfl (by kernel_rfl) (by kernel_rfl) (by kernel_rfl) (fun _ _ _ h => h) (by rfl) ?_
            try (simp only [Act.put]; try simp only [List.setIfInBounds_toArray]; try simp only [List.set_cons_zero, List.set_cons_succ])
            refine wpAnyR_pass (pre_kept (fun i => i = wr.heap.size)) (i := 18) (d := some 73) rfl rfl (by kernel_rfl) (by kernel_rfl) (by kernel_rfl) (fun _ _ _ h => h) (by rfl) ?_
            try (simp only [Act.put]; try simp only [List.setIfInBounds_toArray]; try simp only [List.set_cons_zero, List.set_cons_succ])
            refine wpAnyR_pass (pre_kept (fun i => i = wr.heap.size)) (i := 19) (d := some 74) rfl rfl (by kernel_rfl) (by kernel_rfl) (by kernel_rfl) (fun _ _ _ h => h) (by rfl) ?_
            try (simp only [Act.put]; try simp only [List.setIfInBounds_toArray]; try simp only [List.set_cons_zero, List.set_cons_succ])
            refine wpAnyR_pass (pre_kept (fun i => i = wr.heap.size)) (i := 17) (d := some 72) rfl rfl (by kernel_rfl) (by kernel_rfl) (by kernel_rfl) (fun _ _ _ h => h) (by rfl) ?_
            try (simp only [Act.put]; try simp only [List.setIfInBounds_toArray]; try simp only [List.set_cons_zero, List.set_cons_succ])
            refine wpAnyR_pass (pre_kept (fun i => i = wr.heap.size)) (i := 20) (d := some 75) rfl rfl (by kernel_rfl) (by kernel_rfl) (by kernel_rfl) (fun _ _ _ h => h) (by rfl) ?_
            try (simp only [Act.put]; try simp only [List.setIfInBounds_toArray]; try simp only [List.set_cons_zero, List.set_cons_succ])
            refine wpAnyR_take (pre_kept (fun i => i = wr.heap.size)) (i := 21) (d := some 76) (v := ?vara21) rfl rfl (by kernel_rfl) (by kernel_rfl) (by kernel_rfl) (fun _ _ _ h => h) (by rfl) ?yara21 ?_
            case yara21 => (intro w' hw'; go_simp; try (with_reducible rfl))
            simp only [Act.put]; try simp only [List.setIfInBounds_toArray]; try simp only [List.set_cons_zero, List.set_cons_succ]
            refine wpAnyR_take (pre_kept (fun i => i = wr.heap.size)) (i := 22) (d := some 77) (v := ?vara22) rfl rfl (by kernel_rfl) (by kernel_rfl) (by kernel_rfl) (fun _ _ _ h => h) (by rfl) ?yara22 ?_
            case yara22 => (intro w' hw'; go_simp; try (with_reducible rfl))
            simp only [Act.put]; try simp only [List.setIfInBounds_toArray]; try simp only [List.set_cons_zero, List.set_cons_succ]
            refine wpAnyR_done (by kernel_rfl) ?_ _
            go_wp2
            refine wp_region_L (by kernel_rfl) ?_
            refine wpAnyL_take (i := 0) (d := some 126) (v := ?varb0) rfl rfl (by kernel_rfl) (by kernel_rfl) (by kernel_rfl) (fun _ _ _ h => h) (by rfl) ?yarb0 ?_
            case yarb0 => (intro w' hw'; go_simp; try (with_reducible rfl))
            simp only [Act.put]; try simp only [List.setIfInBounds_toArray]; try simp only [List.set_cons_zero, List.set_cons_succ]
            refine wpAnyL_take (i := 1) (d := some 127) (v := ?varb1) rfl rfl (by kernel_rfl) (by kernel_rfl) (by kernel_rfl) (fun _ _ _ h => h) (by rfl) ?yarb1 ?_
            case yarb1 => (intro w' hw'; go_simp; try (with_reducible rfl))
            simp only [Act.put]; try simp only [List.setIfInBounds_toArray]; try simp only [List.set_cons_zero, List.set_cons_succ]
            refine wpAnyL_take (i := 2) (d := some 128) (v := ?varb2) rfl rfl (by kernel_rfl) (by kernel_rfl) (by kernel_rfl) (fun _ _ _ h => h) (by rfl) ?yarb2 ?_
            case yarb2 => (intro w' hw'; have e1 := (A9.out.later ((Below.refl w9.heap.size w9).drew.trans hw')).cell1; go_simp; try (with_reducible rfl))
            simp only [Act.put]; try simp only [List.setIfInBounds_toArray]; try simp only [List.set_cons_zero, List.set_cons_succ]
            refine wpAnyL_take (i := 4) (d := some 130) (v := ?varb4) rfl rfl (by kernel_rfl) (by kernel_rfl) (by kernel_rfl) (fun _ _ _ h => h) (by rfl) ?yarb4 ?_
            case yarb4 => (intro w' hw'; go_simp; try (with_reducible rfl))
            simp only [Act.put]; try simp only [List.setIfInBounds_toArray]; try simp only [List.set_cons_zero, List.set_cons_succ]
            refine wpAnyL_only (i := 3) rfl (by kernel_rfl) (by rfl) fun K hK => ?_
            go_simp
            refine (own_done (O9.out.later (Below.refl w9.heap.size w9).drew) a.client).mono ?_
            rw [HD1.out]
            rintro e v1 ⟨rfl, p1, hb1⟩
            have P1 := hide p1
            have HB1 := hide ((Below.refl w9.heap.size w9).drew.trans hb1)
            refine hK.out _ _ hb1 ?_
            clear p1 hb1
            clear hK K
            try (simp only [Act.put]; try simp only [List.setIfInBounds_toArray]; try simp only [List.set_cons_zero, List.set_cons_succ])
            refine wpAnyL_take (i := 5) (d := some 131) (v := .bool false) rfl rfl (by kernel_rfl) (by kernel_rfl) (by kernel_rfl) (fun _ _ _ h => h) (by rfl) ?yarb5 ?_
            case yarb5 => (intro w' hw'; have hb := B1.out; go_simp; try (with_reducible rfl))
            simp only [Act.put]; try simp only [List.setIfInBounds_toArray]; try simp only [List.set_cons_zero, List.set_cons_succ]
            refine wpAnyL_take (i := 6) (d := some 132) (v := ?varb6) rfl rfl (by kernel_rfl) (by kernel_rfl) (by kernel_rfl) (fun _ _ _ h => h) (by rfl) ?yarb6 ?_
            case yarb6 => (intro w' hw'; go_simp; try (with_reducible rfl))
            simp only [Act.put]; try simp only [List.setIfInBounds_toArray]; try simp only [List.set_cons_zero, List.set_cons_succ]
            refine wpAnyL_take (i := 7) (d := some 133) (v := ?varb7) rfl rfl (by kernel_rfl) (by kernel_rfl) (by kernel_rfl) (fun _ _ _ h => h) (by rfl) ?yarb7 ?_
            case yarb7 => (intro w' hw'; go_simp; try (with_reducible rfl))
            simp only [Act.put]; try simp only [List.setIfInBounds_toArray]; try simp only [List.set_cons_zero, List.set_cons_succ]
            refine wpAnyL_take (i := 8) (d := some 134) (v := ?varb8) rfl rfl (by kernel_rfl) (by kernel_rfl) (by kernel_rfl) (fun _ _ _ h => h) (by rfl) ?yarb8 ?_
            case yarb8 => (intro w' hw'; go_simp; try (with_reducible rfl))
            simp only [Act.put]; try simp only [List.setIfInBounds_toArray]; try simp only [List.set_cons_zero, List.set_cons_succ]
            refine wpAnyL_take (i := 9) (d := some 135) (v := ?varb9) rfl rfl (by kernel_rfl) (by kernel_rfl) (by kernel_rfl) (fun _ _ _ h => h) (by rfl) ?yarb9 ?_
            case yarb9 => (intro w' hw'; have e1 := (A9.out.later (HB1.out.trans (Below.mono hw' HB1.out.size))).cell1; go_simp; try (with_reducible rfl))
            simp only [Act.put]; try simp only [List.setIfInBounds_toArray]; try simp only [List.set_cons_zero, List.set_cons_succ]
            refine wpAnyL_take (i := 11) (d := some 137) (v := ?varb11) rfl rfl (by kernel_rfl) (by kernel_rfl) (by kernel_rfl) (fun _ _ _ h => h) (by rfl) ?yarb11 ?_
            case yarb11 => (intro w' hw'; go_simp; try (with_reducible rfl))
            simp only [Act.put]; try simp only [List.setIfInBounds_toArray]; try simp only [List.set_cons_zero, List.set_cons_succ]
            refine wpAnyL_only (i := 10) rfl (by kernel_rfl) (by rfl) fun K hK => ?_
            go_simp
            refine (own_last P1.out a.client).mono ?_
            rw [HL1.out]
            rintro e v2 ⟨rfl, p2, hb2⟩
            have P2 := hide p2
            have HB2 := hide (HB1.out.trans (hb2.mono HB1.out.size))
            refine hK.out _ _ hb2 ?_
            clear p2 hb2
            clear hK K
            try (simp only [Act.put]; try simp only [List.setIfInBounds_toArray]; try simp only [List.set_cons_zero, List.set_cons_succ])
            refine wpAnyL_take (i := 12) (d := some 138) (v := .bool false) rfl rfl (by kernel_rfl) (by kernel_rfl) (by kernel_rfl) (fun _ _ _ h => h) (by rfl) ?yarb12 ?_
            case yarb12 => (intro w' hw'; have hb := B2.out; go_simp; try (with_reducible rfl))
            simp only [Act.put]; try simp only [List.setIfInBounds_toArray]; try simp only [List.set_cons_zero, List.set_cons_succ]
            refine wpAnyL_take (i := 13) (d := some 139) (v := ?varb13) rfl rfl (by kernel_rfl) (by kernel_rfl) (by kernel_rfl) (fun _ _ _ h => h) (by rfl) ?yarb13 ?_
            case yarb13 => (intro w' hw'; go_simp; try (with_reducible rfl))
            simp only [Act.put]; try simp only [List.setIfInBounds_toArray]; try simp only [List.set_cons_zero, List.set_cons_succ]
            refine wpAnyL_take (i := 14) (d := some 140) (v := ?varb14) rfl rfl (by kernel_rfl) (by kernel_rfl) (by kernel_rfl) (fun _ _ _ h => h) (by rfl) ?yarb14 ?_
            case yarb14 => (intro w' hw'; go_simp; try (with_reducible rfl))
            simp only [Act.put]; try simp only [List.setIfInBounds_toArray]; try simp only [List.set_cons_zero, List.set_cons_succ]
            refine wpAnyL_take (i := 15) (d := some 141) (v := ?varb15) rfl rfl (by kernel_rfl) (by kernel_rfl) (by kernel_rfl) (fun _ _ _ h => h) (by rfl) ?yarb15 ?_
            case yarb15 => (intro w' hw'; go_simp; try (with_reducible rfl))
            simp only [Act.put]; try simp only [List.setIfInBounds_toArray]; try simp only [List.set_cons_zero, List.set_cons_succ]
            refine wpAnyL_take (i := 16) (d := some 142) (v := ?varb16) rfl rfl (by kernel_rfl) (by kernel_rfl) (by kernel_rfl) (fun _ _ _ h => h) (by rfl) ?yarb16 ?_
            case yarb16 => (intro w' hw'; go_simp; try (with_reducible rfl))
            simp only [Act.put]; try simp only [List.setIfInBounds_toArray]; try simp only [List.set_cons_zero, List.set_cons_succ]
            refine wpAnyL_take (i := 17) (d := some 143) (v := ?varb17) rfl rfl (by kernel_rfl) (by kernel_rfl) (by kernel_rfl) (fun _ _ _ h => h) (by rfl) ?yarb17 ?_
            case yarb17 => (intro w' hw'; have e1 := (A9.out.later (HB2.out.trans (Below.mono hw' HB2.out.size))).cell1; go_simp; try (with_reducible rfl))
            simp only [Act.put]; try simp only [List.setIfInBounds_toArray]; try simp only [List.set_cons_zero, List.set_cons_succ]
            refine wpAnyL_take (i := 19) (d := some 145) (v := ?varb19) rfl rfl (by kernel_rfl) (by kernel_rfl) (by kernel_rfl) (fun _ _ _ h => h) (by rfl) ?yarb19 ?_
            case yarb19 => (intro w' hw'; go_simp; try (with_reducible rfl))
            simp only [Act.put]; try simp only [List.setIfInBounds_toArray]; try simp only [List.set_cons_zero, List.set_cons_succ]
            refine wpAnyL_take (i := 20) (d := some 146) (v := ?varb20) rfl rfl (by kernel_rfl) (by kernel_rfl) (by kernel_rfl) (fun _ _ _ h => h) (by rfl) ?yarb20 ?_
            case yarb20 => (intro w' hw'; go_simp; try (with_reducible rfl))
            simp only [Act.put]; try simp only [List.setIfInBounds_toArray]; try simp only [List.set_cons_zero, List.set_cons_succ]
            refine wpAnyL_take (i := 21) (d := some 147) (v := ?varb21) rfl rfl (by kernel_rfl) (by kernel_rfl) (by kernel_rfl) (fun _ _ _ h => h) (by rfl) ?yarb21 ?_
            case yarb21 => (intro w' hw'; have e1 := (A9.out.later (HB2.out.trans (Below.mono hw' HB2.out.size))).cell1; go_simp; try (with_reducible rfl))
            simp only [Act.put]; try simp only [List.setIfInBounds_toArray]; try simp only [List.set_cons_zero, List.set_cons_succ]
            refine wpAnyL_only (i := 18) rfl (by kernel_rfl) (by rfl) fun K hK => ?_
            go_simp
            refine (own_last P2.out a.client).mono ?_
            rw [HL1.out]
            rintro e v3 ⟨rfl, p3, hb3⟩
            have P3 := hide p3
            have HB3 := hide (HB2.out.trans (hb3.mono HB2.out.size))
            refine hK.out _ _ hb3 ?_
            clear p3 hb3
            clear hK K
            try (simp only [Act.put]; try simp only [List.setIfInBounds_toArray]; try simp only [List.set_cons_zero, List.set_cons_succ])
            refine wpAnyL_only (i := 22) rfl (by kernel_rfl) (by rfl) fun K hK => ?_
            go_simp
            refine (own_done P3.out a.client).mono ?_
            rw [HD1.out]
            rintro e v4 ⟨rfl, p4, hb4⟩
            have P4 := hide p4
            refine hK.out _ _ hb4 ?_
            clear p4 hb4
            clear hK K
            try (simp only [Act.put]; try simp only [List.setIfInBounds_toArray]; try simp only [List.set_cons_zero, List.set_cons_succ])
            refine wpAnyL_take (i := 23) (d := some 149) (v := .bool false) rfl rfl (by kernel_rfl) (by kernel_rfl) (by kernel_rfl) (fun _ _ _ h => h) (by rfl) ?yarb23 ?_
            case yarb23 => (intro w' hw'; have hb := B3.out; go_simp; try (with_reducible rfl))
            simp only [Act.put]; try simp only [List.setIfInBounds_toArray]; try simp only [List.set_cons_zero, List.set_cons_succ]
            refine wpAnyL_take (i := 24) (d := some 150) (v := ?varb24) rfl rfl (by kernel_rfl) (by kernel_rfl) (by kernel_rfl) (fun _ _ _ h => h) (by rfl) ?yarb24 ?_
            case yarb24 => (intro w' hw'; go_simp; try (with_reducible rfl))
            simp only [Act.put]; try simp only [List.setIfInBounds_toArray]; try simp only [List.set_cons_zero, List.set_cons_succ]
            refine wpAnyL_done (by kernel_rfl) ?_ _
            go_wp2
            go_roundw
            case rel => exact ⟨k + 1, _, by go_num, by omega, HS.out.inv, P4.out⟩
            case measure => simp [intOf]; omega
            
          · have BQ := hide hq1
            have BZ := hide (hnw.trans hq1)
            have HLR := hide (HS.out.last (by rw [← HQ0.out]; simpa using hq1))
            clear hnw hq1
            refine wp_region_R (R := fun a b => Kept (fun i => i = wr.heap.size) a b) (by kernel_rfl) ?_
            refine wpAnyR_take (pre_kept (fun i => i = wr.heap.size)) (i := 0) (d := some 55) (v := ?varc0) rfl rfl (by kernel_rfl) (by kernel_rfl) (by kernel_rfl) (fun _ _ _ h => h) (by rfl) ?yarc0 ?_
            case yarc0 => (intro w' hw'; go_simp; try (with_reducible rfl))
            simp only [Act.put]; try simp only [List.setIfInBounds_toArray]; try simp only [List.set_cons_zero, List.set_cons_succ]
            refine wpAnyR_take (pre_kept (fun i => i = wr.heap.size)) (i := 1) (d := some 56) (v := ?varc1) rfl rfl (by kernel_rfl) (by kernel_rfl) (by kernel_rfl) (fun _ _ _ h => h) (by rfl) ?yarc1 ?_
            case yarc1 => (intro w' hw'; go_simp; try (with_reducible rfl))
            simp only [Act.put]; try simp only [List.setIfInBounds_toArray]; try simp only [List.set_cons_zero, List.set_cons_succ]
            refine wpAnyR_take (pre_kept (fun i => i = wr.heap.size)) (i := 2) (d := some 57) (v := ?varc2) rfl rfl (by kernel_rfl) (by kernel_rfl) (by kernel_rfl) (fun _ _ _ h => h) (by rfl) ?yarc2 ?_
            case yarc2 => (intro w' hw'; have e1 := ((A8.out.later (Below.refl w8.heap.size w8).drew).kept hw').cell1; go_simp; try (with_reducible rfl))
            simp only [Act.put]; try simp only [List.setIfInBounds_toArray]; try simp only [List.set_cons_zero, List.set_cons_succ]
            refine wpAnyR_take (pre_kept (fun i => i = wr.heap.size)) (i := 3) (d := some 58) (v := ?varc3) rfl rfl (by kernel_rfl) (by kernel_rfl) (by kernel_rfl) (fun _ _ _ h => h) (by rfl) ?yarc3 ?_
            case yarc3 => (intro w' hw'; go_simp; try (with_reducible rfl))
            simp only [Act.put]; try simp only [List.setIfInBounds_toArray]; try simp only [List.set_cons_zero, List.set_cons_succ]
            refine wpAnyR_take (pre_kept (fun i => i = wr.heap.size)) (i := 4) (d := some 59) (v := ?varc4) rfl rfl (by kernel_rfl) (by kernel_rfl) (by kernel_rfl) (fun _ _ _ h => h) (by rfl) ?yarc4 ?_
            case yarc4 => (intro w' hw'; have e2 := ((A8.out.later (Below.refl w8.heap.size w8).drew).kept hw').cell2; go_simp; try (with_reducible rfl))
            simp only [Act.put]; try simp only [List.setIfInBounds_toArray]; try simp only [List.set_cons_zero, List.set_cons_succ]
            refine wpAnyR_take (pre_kept (fun i => i = wr.heap.size)) (i := 7) (d := some 62) (v := ?varc7) rfl rfl (by kernel_rfl) (by kernel_rfl) (by kernel_rfl) (fun _ _ _ h => h) (by rfl) ?yarc7 ?_
            case yarc7 => (intro w' hw'; go_simp; try (with_reducible rfl))
            simp only [Act.put]; try simp only [List.setIfInBounds_toArray]; try simp only [List.set_cons_zero, List.set_cons_succ]
            refine wpAnyR_take (pre_kept (fun i => i = wr.heap.size)) (i := 8) (d := some 63) (v := .bool true) rfl rfl (by kernel_rfl) (by kernel_rfl) (by kernel_rfl) (fun _ _ _ h => h) (by rfl) ?yarc8 ?_
            case yarc8 => (intro w' hw'; have hb := BQ.out; go_simp; try (with_reducible rfl))
            simp only [Act.put]; try simp only [List.setIfInBounds_toArray]; try simp only [List.set_cons_zero, List.set_cons_succ]
            refine wpAnyR_only (i := 5) rfl (by kernel_rfl) (by rfl) fun K hK => ?_
            go_simp
            refine (own_start (O8.out.later (Below.refl w8.heap.size w8).drew) a.client a.request).mono ?_
            rw [HZ.out]
            rintro e w9 ⟨rfl, o9, hg9⟩
            have O9 := hide o9
            have A9 := hide ((A8.out.later (Below.refl w8.heap.size w8).drew).other hg9 (fun e => HNE.out (Option.some.inj e)))
            have hk9 : Kept (fun i => i = wr.heap.size) w8.drew w9 := Kept.of_grown hg9 (fun q e hq => HNE.out ((show q = wr.heap.size from hq).symm.trans (Option.some.inj e).symm))
            refine hK.out _ _ hk9 ?_
            clear o9 hg9 hk9
            clear hK K
            try (simp only [Act.put]; try simp only [List.setIfInBounds_toArray]; try simp only [List.set_cons_zero, List.set_cons_succ])
            refine wpAnyR_take (pre_kept (fun i => i = wr.heap.size)) (i := 6) (d := some 61) (v := .bool true) rfl rfl (by kernel_rfl) (by kernel_rfl) (by kernel_rfl) (fun _ _ _ h => h) (by rfl) ?yarc6 ?_
            case yarc6 => (intro w' hw'; have hb := BZ.out; go_simp; try (with_reducible rfl))
            simp only [Act.put]; try simp only [List.setIfInBounds_toArray]; try simp only [List.set_cons_zero, List.set_cons_succ]
            refine wpAnyR_take (pre_kept (fun i => i = wr.heap.size)) (i := 9) (d := some 64) (v := .bool false) rfl rfl (by kernel_rfl) (by kernel_rfl) (by kernel_rfl) (fun _ _ _ h => h) (by rfl) ?yarc9 ?_
            case yarc9 => (intro w' hw'; go_simp; try (with_reducible rfl))
            simp only [Act.put]; try simp only [List.setIfInBounds_toArray]; try simp only [List.set_cons_zero, List.set_cons_succ]
            refine wpAnyR_take (pre_kept (fun i => i = wr.heap.size)) (i := 10) (d := some 65) (v := ?varc10) rfl rfl (by kernel_rfl) (by kernel_rfl) (by kernel_rfl) (fun _ _ _ h => h) (by rfl) ?yarc10 ?_
            case yarc10 => (intro w' hw'; go_simp; try (with_reducible rfl))
            simp only [Act.put]; try simp only [List.setIfInBounds_toArray]; try simp only [List.set_cons_zero, List.set_cons_succ]
            refine wpAnyR_take (pre_kept (fun i => i = wr.heap.size)) (i := 11) (d := some 66) (v := ?varc11) rfl rfl (by kernel_rfl) (by kernel_rfl) (by kernel_rfl) (fun _ _ _ h => h) (by rfl) ?yarc11 ?_
            case yarc11 => (intro w' hw'; go_simp; try (with_reducible rfl))
            simp only [Act.put]; try simp only [List.setIfInBounds_toArray]; try simp only [List.set_cons_zero, List.set_cons_succ]
            refine wpAnyR_take (pre_kept (fun i => i = wr.heap.size)) (i := 12) (d := some 67) (v := .bool true) rfl rfl (by kernel_rfl) (by kernel_rfl) (by kernel_rfl) (fun _ _ _ h => h) (by rfl) ?yarc12 ?_
            case yarc12 => (intro w' hw'; have hb := BQ.out; go_simp; try (with_reducible rfl))
            simp only [Act.put]; try simp only [List.setIfInBounds_toArray]; try simp only [List.set_cons_zero, List.set_cons_succ]
            refine wpAnyR_take (pre_kept (fun i => i = wr.heap.size)) (i := 13) (d := some 68) (v := ?varc13) rfl rfl (by kernel_rfl) (by kernel_rfl) (by kernel_rfl) (fun _ _ _ h => h) (by rfl) ?yarc13 ?_
            case yarc13 => (intro w' hw'; go_simp; try (with_reducible rfl))
            simp only [Act.put]; try simp only [List.setIfInBounds_toArray]; try simp only [List.set_cons_zero, List.set_cons_succ]
            refine wpAnyR_take (pre_kept (fun i => i = wr.heap.size)) (i := 14) (d := some 69) (v := ?varc14) rfl rfl (by kernel_rfl) (by kernel_rfl) (by kernel_rfl) (fun _ _ _ h => h) (by rfl) ?yarc14 ?_
            case yarc14 => (intro w' hw'; go_simp; try (with_reducible rfl))
            simp only [Act.put]; try simp only [List.setIfInBounds_toArray]; try simp only [List.set_cons_zero, List.set_cons_succ]
            refine wpAnyR_take (pre_kept (fun i => i = wr.heap.size)) (i := 15) (d := some 70) (v := ?varc15) rfl rfl (by kernel_rfl) (by kernel_rfl) (by kernel_rfl) (fun _ _ _ h => h) (by rfl) ?yarc15 ?_
            case yarc15 => (intro w' hw'; go_simp; try (with_reducible rfl))
            simp only [Act.put]; try simp only [List.setIfInBounds_toArray]; try simp only [List.set_cons_zero, List.set_cons_succ]
            refine wpAnyR_take (pre_kept (fun i => i = wr.heap.size)) (i := 16) (d := some 71) (v := ?varc16) rfl rfl (by kernel_rfl) (by kernel_rfl) (by kernel_rfl) (fun _ _ _ h => h) (by rfl) ?yarc16 ?_
            case yarc16 => (intro w' hw'; have e1 := (A9.out.kept hw').cell1; go_simp; try (with_reducible rfl))
            simp only [Act.put]; try simp only [List.setIfInBounds_toArray]; try simp only [List.set_cons_zero, List.set_cons_succ]
            refine wpAnyR_take (pre_kept (fun i => i = wr.heap.size)) (i := 18) (d := some 73) (v := ?varc18) rfl rfl (by kernel_rfl) (by kernel_rfl) (by kernel_rfl) (fun _ _ _ h => h) (by rfl) ?yarc18 ?_
            case yarc18 => (intro w' hw'; go_simp; try (with_reducible rfl))
            simp only [Act.put]; try simp only [List.setIfInBounds_toArray]; try simp only [List.set_cons_zero, List.set_cons_succ]
            refine wpAnyR_take (pre_kept (fun i => i = wr.heap.size)) (i := 19) (d := some 74) (v := ?varc19) rfl rfl (by kernel_rfl) (by kernel_rfl) (by kernel_rfl) (fun _ _ _ h => h) (by rfl) ?yarc19 ?_
            case yarc19 => (intro w' hw'; have e2 := (A9.out.kept hw').cell2; go_simp; try (with_reducible rfl))
            simp only [Act.put]; try simp only [List.setIfInBounds_toArray]; try simp only [List.set_cons_zero, List.set_cons_succ]
            refine wpAnyR_only (i := 17) rfl (by kernel_rfl) (by rfl) fun K hK => ?_
            go_simp
            refine (own_last O9.out a.client).mono ?_
            rw [HLR.out]
            rintro e w10 ⟨rfl, o10, hb10⟩
            have O10 := hide o10
            have A10 := hide (A9.out.later hb10)
            refine hK.out _ _ (Kept.of_below hb10 _) ?_
            clear o10 hb10
            clear hK K
            try (simp only [Act.put]; try simp only [List.setIfInBounds_toArray]; try simp only [List.set_cons_zero, List.set_cons_succ])
            refine wpAnyR_take (pre_kept (fun i => i = wr.heap.size)) (i := 20) (d := some 75) (v := .bool false) rfl rfl (by kernel_rfl) (by kernel_rfl) (by kernel_rfl) (fun _ _ _ h => h) (by rfl) ?yarc20 ?_
            case yarc20 => (intro w' hw'; go_simp; try (with_reducible rfl))
            simp only [Act.put]; try simp only [List.setIfInBounds_toArray]; try simp only [List.set_cons_zero, List.set_cons_succ]
            refine wpAnyR_take (pre_kept (fun i => i = wr.heap.size)) (i := 21) (d := some 76) (v := ?varc21) rfl rfl (by kernel_rfl) (by kernel_rfl) (by kernel_rfl) (fun _ _ _ h => h) (by rfl) ?yarc21 ?_
            case yarc21 => (intro w' hw'; go_simp; try (with_reducible rfl))
            simp only [Act.put]; try simp only [List.setIfInBounds_toArray]; try simp only [List.set_cons_zero, List.set_cons_succ]
            refine wpAnyR_take (pre_kept (fun i => i = wr.heap.size)) (i := 22) (d := some 77) (v := ?varc22) rfl rfl (by kernel_rfl) (by kernel_rfl) (by kernel_rfl) (fun _ _ _ h => h) (by rfl) ?yarc22 ?_
            case yarc22 => (intro w' hw'; go_simp; try (with_reducible rfl))
            simp only [Act.put]; try simp only [List.setIfInBounds_toArray]; try simp only [List.set_cons_zero, List.set_cons_succ]
            refine wpAnyR_done (by kernel_rfl) ?_ _
            go_wp2
            refine wp_region_L (by kernel_rfl) ?_
            refine wpAnyL_take (i := 0) (d := some 126) (v := ?vard0) rfl rfl (by kernel_rfl) (by kernel_rfl) (by kernel_rfl) (fun _ _ _ h => h) (by rfl) ?yard0 ?_
            case yard0 => (intro w' hw'; go_simp; try (with_reducible rfl))
            simp only [Act.put]; try simp only [List.setIfInBounds_toArray]; try simp only [List.set_cons_zero, List.set_cons_succ]
            refine wpAnyL_take (i := 1) (d := some 127) (v := ?vard1) rfl rfl (by kernel_rfl) (by kernel_rfl) (by kernel_rfl) (fun _ _ _ h => h) (by rfl) ?yard1 ?_
            case yard1 => (intro w' hw'; go_simp; try (with_reducible rfl))
            simp only [Act.put]; try simp only [List.setIfInBounds_toArray]; try simp only [List.set_cons_zero, List.set_cons_succ]
            refine wpAnyL_take (i := 2) (d := some 128) (v := ?vard2) rfl rfl (by kernel_rfl) (by kernel_rfl) (by kernel_rfl) (fun _ _ _ h => h) (by rfl) ?yard2 ?_
            case yard2 => (intro w' hw'; have e1 := (A10.out.later ((Below.refl w10.heap.size w10).drew.trans hw')).cell1; go_simp; try (with_reducible rfl))
            simp only [Act.put]; try simp only [List.setIfInBounds_toArray]; try simp only [List.set_cons_zero, List.set_cons_succ]
            refine wpAnyL_take (i := 4) (d := some 130) (v := ?vard4) rfl rfl (by kernel_rfl) (by kernel_rfl) (by kernel_rfl) (fun _ _ _ h => h) (by rfl) ?yard4 ?_
            case yard4 => (intro w' hw'; go_simp; try (with_reducible rfl))
            simp only [Act.put]; try simp only [List.setIfInBounds_toArray]; try simp only [List.set_cons_zero, List.set_cons_succ]
            refine wpAnyL_only (i := 3) rfl (by kernel_rfl) (by rfl) fun K hK => ?_
            go_simp
            refine (own_done (O10.out.later (Below.refl w10.heap.size w10).drew) a.client).mono ?_
            rw [HD1.out]
            rintro e v1 ⟨rfl, p1, hb1⟩
            have P1 := hide p1
            have HB1 := hide ((Below.refl w10.heap.size w10).drew.trans hb1)
            refine hK.out _ _ hb1 ?_
            clear p1 hb1
            clear hK K
            try (simp only [Act.put]; try simp only [List.setIfInBounds_toArray]; try simp only [List.set_cons_zero, List.set_cons_succ])
            refine wpAnyL_take (i := 5) (d := some 131) (v := .bool false) rfl rfl (by kernel_rfl) (by kernel_rfl) (by kernel_rfl) (fun _ _ _ h => h) (by rfl) ?yard5 ?_
            case yard5 => (intro w' hw'; have hb := B1.out; go_simp; try (with_reducible rfl))
            simp only [Act.put]; try simp only [List.setIfInBounds_toArray]; try simp only [List.set_cons_zero, List.set_cons_succ]
            refine wpAnyL_take (i := 6) (d := some 132) (v := ?vard6) rfl rfl (by kernel_rfl) (by kernel_rfl) (by kernel_rfl) (fun _ _ _ h => h) (by rfl) ?yard6 ?_
            case yard6 => (intro w' hw'; go_simp; try (with_reducible rfl))
            simp only [Act.put]; try simp only [List.setIfInBounds_toArray]; try simp only [List.set_cons_zero, List.set_cons_succ]
            refine wpAnyL_take (i := 7) (d := some 133) (v := ?vard7) rfl rfl (by kernel_rfl) (by kernel_rfl) (by kernel_rfl) (fun _ _ _ h => h) (by rfl) ?yard7 ?_
            case yard7 => (intro w' hw'; go_simp; try (with_reducible rfl))
            simp only [Act.put]; try simp only [List.setIfInBounds_toArray]; try simp only [List.set_cons_zero, List.set_cons_succ]
            refine wpAnyL_take (i := 8) (d := some 134) (v := ?vard8) rfl rfl (by kernel_rfl) (by kernel_rfl) (by kernel_rfl) (fun _ _ _ h => h) (by rfl) ?yard8 ?_
            case yard8 => (intro w' hw'; go_simp; try (with_reducible rfl))
            simp only [Act.put]; try simp only [List.setIfInBounds_toArray]; try simp only [List.set_cons_zero, List.set_cons_succ]
            refine wpAnyL_take (i := 9) (d := some 135) (v := ?vard9) rfl rfl (by kernel_rfl) (by kernel_rfl) (by kernel_rfl) (fun _ _ _ h => h) (by rfl) ?yard9 ?_
            case yard9 => (intro w' hw'; have e1 := (A10.out.later (HB1.out.trans (Below.mono hw' HB1.out.size))).cell1; go_simp; try (with_reducible rfl))
            simp only [Act.put]; try simp only [List.setIfInBounds_toArray]; try simp only [List.set_cons_zero, List.set_cons_succ]
            refine wpAnyL_take (i := 11) (d := some 137) (v := ?vard11) rfl rfl (by kernel_rfl) (by kernel_rfl) (by kernel_rfl) (fun _ _ _ h => h) (by rfl) ?yard11 ?_
            case yard11 => (intro w' hw'; go_simp; try (with_reducible rfl))
            simp only [Act.put]; try simp only [List.setIfInBounds_toArray]; try simp only [List.set_cons_zero, List.set_cons_succ]
            refine wpAnyL_only (i := 10) rfl (by kernel_rfl) (by rfl) fun K hK => ?_
            go_simp
            refine (own_last P1.out a.client).mono ?_
            rw [HL1.out]
            rintro e v2 ⟨rfl, p2, hb2⟩
            have P2 := hide p2
            have HB2 := hide (HB1.out.trans (hb2.mono HB1.out.size))
            refine hK.out _ _ hb2 ?_
            clear p2 hb2
            clear hK K
            try (simp only [Act.put]; try simp only [List.setIfInBounds_toArray]; try simp only [List.set_cons_zero, List.set_cons_succ])
            refine wpAnyL_take (i := 12) (d := some 138) (v := .bool false) rfl rfl (by kernel_rfl) (by kernel_rfl) (by kernel_rfl) (fun _ _ _ h => h) (by rfl) ?yard12 ?_
            case yard12 => (intro w' hw'; have hb := B2.out; go_simp; try (with_reducible rfl))
            simp only [Act.put]; try simp only [List.setIfInBounds_toArray]; try simp only [List.set_cons_zero, List.set_cons_succ]
            refine wpAnyL_take (i := 13) (d := some 139) (v := ?vard13) rfl rfl (by kernel_rfl) (by kernel_rfl) (by kernel_rfl) (fun _ _ _ h => h) (by rfl) ?yard13 ?_
            case yard13 => (intro w' hw'; go_simp; try (with_reducible rfl))
            simp only [Act.put]; try simp only [List.setIfInBounds_toArray]; try simp only [List.set_cons_zero, List.set_cons_succ]
            refine wpAnyL_take (i := 14) (d := some 140) (v := ?vard14) rfl rfl (by kernel_rfl) (by kernel_rfl) (by kernel_rfl) (fun _ _ _ h => h) (by rfl) ?yard14 ?_
            case yard14 => (intro w' hw'; go_simp; try (with_reducible rfl))
            simp only [Act.put]; try simp only [List.setIfInBounds_toArray]; try simp only [List.set_cons_zero, List.set_cons_succ]
            refine wpAnyL_take (i := 15) (d := some 141) (v := ?vard15) rfl rfl (by kernel_rfl) (by kernel_rfl) (by kernel_rfl) (fun _ _ _ h => h) (by rfl) ?yard15 ?_
            case yard15 => (intro w' hw'; go_simp; try (with_reducible rfl))
            simp only [Act.put]; try simp only [List.setIfInBounds_toArray]; try simp only [List.set_cons_zero, List.set_cons_succ]
            refine wpAnyL_take (i := 16) (d := some 142) (v := ?vard16) rfl rfl (by kernel_rfl) (by kernel_rfl) (by kernel_rfl) (fun _ _ _ h => h) (by rfl) ?yard16 ?_
            case yard16 => (intro w' hw'; go_simp; try (with_reducible rfl))
            simp only [Act.put]; try simp only [List.setIfInBounds_toArray]; try simp only [List.set_cons_zero, List.set_cons_succ]
            refine wpAnyL_take (i := 17) (d := some 143) (v := ?vard17) rfl rfl (by kernel_rfl) (by kernel_rfl) (by kernel_rfl) (fun _ _ _ h => h) (by rfl) ?yard17 ?_
            case yard17 => (intro w' hw'; have e1 := (A10.out.later (HB2.out.trans (Below.mono hw' HB2.out.size))).cell1; go_simp; try (with_reducible rfl))
            simp only [Act.put]; try simp only [List.setIfInBounds_toArray]; try simp only [List.set_cons_zero, List.set_cons_succ]
            refine wpAnyL_take (i := 19) (d := some 145) (v := ?vard19) rfl rfl (by kernel_rfl) (by kernel_rfl) (by kernel_rfl) (fun _ _ _ h => h) (by rfl) ?yard19 ?_
            case yard19 => (intro w' hw'; go_simp; try (with_reducible rfl))
            simp only [Act.put]; try simp only [List.setIfInBounds_toArray]; try simp only [List.set_cons_zero, List.set_cons_succ]
            refine wpAnyL_take (i := 20) (d := some 146) (v := ?vard20) rfl rfl (by kernel_rfl) (by kernel_rfl) (by kernel_rfl) (fun _ _ _ h => h) (by rfl) ?yard20 ?_
            case yard20 => (intro w' hw'; go_simp; try (with_reducible rfl))
            simp only [Act.put]; try simp only [List.setIfInBounds_toArray]; try simp only [List.set_cons_zero, List.set_cons_succ]
            refine wpAnyL_take (i := 21) (d := some 147) (v := ?vard21) rfl rfl (by kernel_rfl) (by kernel_rfl) (by kernel_rfl) (fun _ _ _ h => h) (by rfl) ?yard21 ?_
            case yard21 => (intro w' hw'; have e1 := (A10.out.later (HB2.out.trans (Below.mono hw' HB2.out.size))).cell1; go_simp; try (with_reducible rfl))
            simp only [Act.put]; try simp only [List.setIfInBounds_toArray]; try simp only [List.set_cons_zero, List.set_cons_succ]
            refine wpAnyL_only (i := 18) rfl (by kernel_rfl) (by rfl) fun K hK => ?_
            go_simp
            refine (own_last P2.out a.client).mono ?_
            rw [HL1.out]
            rintro e v3 ⟨rfl, p3, hb3⟩
            have P3 := hide p3
            have HB3 := hide (HB2.out.trans (hb3.mono HB2.out.size))
            refine hK.out _ _ hb3 ?_
            clear p3 hb3
            clear hK K
            try (simp only [Act.put]; try simp only [List.setIfInBounds_toArray]; try simp only [List.set_cons_zero, List.set_cons_succ])
            refine wpAnyL_only (i := 22) rfl (by kernel_rfl) (by rfl) fun K hK => ?_
            go_simp
            refine (own_done P3.out a.client).mono ?_
            rw [HD1.out]
            rintro e v4 ⟨rfl, p4, hb4⟩
            have P4 := hide p4
            refine hK.out _ _ hb4 ?_
            clear p4 hb4
            clear hK K
            try (simp only [Act.put]; try simp only [List.setIfInBounds_toArray]; try simp only [List.set_cons_zero, List.set_cons_succ])
            refine wpAnyL_take (i := 23) (d := some 149) (v := .bool false) rfl rfl (by kernel_rfl) (by kernel_rfl) (by kernel_rfl) (fun _ _ _ h => h) (by rfl) ?yard23 ?_
            case yard23 => (intro w' hw'; have hb := B3.out; go_simp; try (with_reducible rfl))
            simp only [Act.put]; try simp only [List.setIfInBounds_toArray]; try simp only [List.set_cons_zero, List.set_cons_succ]
            refine wpAnyL_take (i := 24) (d := some 150) (v := ?vard24) rfl rfl (by kernel_rfl) (by kernel_rfl) (by kernel_rfl) (fun _ _ _ h => h) (by rfl) ?yard24 ?_
            case yard24 => (intro w' hw'; go_simp; try (with_reducible rfl))
            simp only [Act.put]; try simp only [List.setIfInBounds_toArray]; try simp only [List.set_cons_zero, List.set_cons_succ]
            refine wpAnyL_done (by kernel_rfl) ?_ _
            go_wp2
            go_roundw
            case rel => exact ⟨k + 1, _, by go_num, by omega, HS.out.inv, P4.out⟩
            case measure => simp [intOf]; omega
            
        by_cases hkd1 : a.kind = 1
        · have hk0 : (a.kind == 0) = false := by simpa using hkd0
          have hk1 : (a.kind == 1) = true := by simpa using hkd1
          clear hkd0 hkd1
          have HS := hide (onceF HI.out a.client a.request a.rep)
          go_wp2_with (first
            | (refine wpList_load_mid (by rfl) 36 _ (by rfl) b (off + k * 7) (by rfl) _ _ HR.out Try.underlying36 (by rfl) (by kernel_rfl) ?_)
            | (refine wpList_store_act (a := a) (by rfl) _ _ (by rfl) (by rfl) (ActAt.new wr) (by rfl) ?_; intro w2 hx hg; have A2 := hide hx; have O2 := hide (HO.out.later (below_new hg)); have k1 := A2.out.cell1; clear hx hg))
          refine (own_done O2.out a.client).mono ?_
          rintro e w3 ⟨rfl, o3, hb3⟩
          have O3 := hide o3
          have A3 := hide (A2.out.later hb3)
          clear o3 hb3 k1
          have k1 := A3.out.cell1
          go_wp2_with (fail)
          clear k1
          refine (own_last O3.out a.client).mono ?_
          rintro e w4 ⟨rfl, o4, hb4⟩
          have O4 := hide o4
          have A4 := hide (A3.out.later hb4)
          clear o4 hb4
          have k1 := A4.out.cell1
          obtain ⟨d0, hd0⟩ : ∃ d0, d0 = (T.of a.client).done := ⟨_, rfl⟩
          obtain ⟨l0, hl0⟩ : ∃ l0, l0 = (T.of a.client).last := ⟨_, rfl⟩
          have HD0 := hide hd0
          have HL0 := hide hl0
          rw [← hd0, ← hl0]
          clear hd0 hl0
          go_wp2_with (fail)
          clear k1
          refine (own_ask O4.out a.client d0).mono ?_
          rintro e w5 ⟨rfl, o5, hb5⟩
          have O5 := hide o5
          have A5 := hide (A4.out.later hb5)
          have HNF : Hid (w5.heap.size ≠ g) := by
            have := o5.at_.lt
            show _ ≠ _
            omega
          clear o5 hb5
          obtain ⟨y0, hy0⟩ : ∃ y0, y0 = askT T a.client d0 := ⟨_, rfl⟩
          have HY0 := hide hy0
          rw [← hy0]
          clear hy0
          go_wp2_with (refine wpList_store_rep (m := y0.2) (by rfl) _ _ (by rfl) (by rfl) (RepAt.new w5) (by rfl) ?_; intro w6 hx hg; have O6 := hide (O5.out.later (below_new hg)); have A6 := hide (A5.out.later (below_new hg)); have Y6 := hide hx; have k1 := A6.out.cell1; have k2 := A6.out.cell2; clear hx hg)
          clear k1 k2
          refine (own_ask O6.out a.client a.request).mono ?_
          rintro e w7 ⟨rfl, o7, hb7⟩
          have O7 := hide o7
          have A7 := hide (A6.out.later hb7)
          have Y7 := hide (Y6.out.later hb7)
          clear o7 hb7
          obtain ⟨q0, hq0⟩ : ∃ q0, q0 = (askT T a.client a.request).1 := ⟨_, rfl⟩
          obtain ⟨p0, hp0⟩ : ∃ p0, p0 = (askT T a.client a.request).2 := ⟨_, rfl⟩
          have HQ0 := hide hq0
          rw [← hq0, ← hp0]
          clear hq0 hp0
          go_wp2_with (first
            | (refine wpList_store_rep (m := p0) (by rfl) _ _ (by rfl) (by rfl) (RepAt.new w7) (by rfl) ?_; intro w8 hx hg; have O8 := hide (O7.out.later (below_new hg)); have A8 := hide (A7.out.later (below_new hg)); have Y8 := hide (Y7.out.later (below_new hg)); have k0 := A8.out.cell0; have k1 := A8.out.cell1; have k2 := A8.out.cell2; clear hx hg)
            | (refine wpList_load_arep (by rfl) _ (by rfl) (by rfl) A8.out ?_))
          obtain ⟨z0, hz0⟩ : ∃ z0, (finishT T a.client a.request a.rep).1 = z0 := ⟨_, rfl⟩
          have HZ := hide hz0
          clear hz0
          obtain ⟨d1, hd1⟩ : ∃ d1, ((finishT T a.client a.request a.rep).2.of a.client).done = d1 := ⟨_, rfl⟩
          obtain ⟨l1, hl1⟩ : ∃ l1, ((finishT T a.client a.request a.rep).2.of a.client).last = l1 := ⟨_, rfl⟩
          have HD1 := hide hd1
          have HL1 := hide hl1
          have B1 : Hid (decide (d1 < d0) = false) := by
            have h1 := HS.out.done
            rw [hd1, ← HD0.out] at h1
            show _ = _
            simpa using h1
          have B2 : Hid (decide (l1 < l0) = false) := by
            have h1 := HS.out.more
            rw [hl1, ← HL0.out] at h1
            show _ = _
            simpa using h1
          have B3 : Hid (decide (l1 < d1) = false) := by
            have h1 := HS.out.ord
            rw [hl1, hd1] at h1
            show _ = _
            simpa using h1
          clear hd1 hl1
          
          clear k0 k1 k2
          refine (own_finish O8.out a.client a.request a.rep).mono ?_
          rw [HZ.out]
          rintro e w9 ⟨rfl, o9, hg9⟩
          have O9 := hide o9
          have A9 := hide (A8.out.other hg9 (fun e => HNE.out (Option.some.inj e)))
          have Y9 := hide (Y8.out.other hg9 (fun e => HNF.out (Option.some.inj e)))
          clear o9 hg9
          by_cases hz : z0 = 0
          · have BZ : Hid ((z0 == 0) = true) := by show _ = _; simpa using hz
            have hz2 : (z0 != 0) = false := by simpa using hz
            have HLR := hide (HS.out.ok (by rw [HZ.out]; exact hz)).2
            have BL : Hid (decide (a.request ≤ d0) = false) := by
              have h1 := (HS.out.ok (by rw [HZ.out]; exact hz)).1
              rw [← HD0.out] at h1
              show _ = _
              simpa using h1
            clear hz
            go_wp2
            refine wp_region_L (by kernel_rfl) ?_
            refine wpAnyL_take (i := 0) (d := some 88) (v := ?vare0) rfl rfl (by kernel_rfl) (by kernel_rfl) (by kernel_rfl) (fun _ _ _ h => h) (by rfl) ?yare0 ?_
            case yare0 => (intro w' hw'; go_simp; try (with_reducible rfl))
            simp only [Act.put]; try simp only [List.setIfInBounds_toArray]; try simp only [List.set_cons_zero, List.set_cons_succ]
            refine wpAnyL_take (i := 1) (d := some 89) (v := .bool true) rfl rfl (by kernel_rfl) (by kernel_rfl) (by kernel_rfl) (fun _ _ _ h => h) (by rfl) ?yare1 ?_
            case yare1 => (intro w' hw'; have hb := BZ.out; go_simp; try (with_reducible rfl))
            simp only [Act.put]; try simp only [List.setIfInBounds_toArray]; try simp only [List.set_cons_zero, List.set_cons_succ]
            refine wpAnyL_take (i := 2) (d := some 90) (v := ?vare2) rfl rfl (by kernel_rfl) (by kernel_rfl) (by kernel_rfl) (fun _ _ _ h => h) (by rfl) ?yare2 ?_
            case yare2 => (intro w' hw'; go_simp; try (with_reducible rfl))
            simp only [Act.put]; try simp only [List.setIfInBounds_toArray]; try simp only [List.set_cons_zero, List.set_cons_succ]
            refine wpAnyL_take (i := 3) (d := some 91) (v := ?vare3) rfl rfl (by kernel_rfl) (by kernel_rfl) (by kernel_rfl) (fun _ _ _ h => h) (by rfl) ?yare3 ?_
            case yare3 => (intro w' hw'; go_simp; try (with_reducible rfl))
            simp only [Act.put]; try simp only [List.setIfInBounds_toArray]; try simp only [List.set_cons_zero, List.set_cons_succ]
            refine wpAnyL_take (i := 4) (d := some 92) (v := ?vare4) rfl rfl (by kernel_rfl) (by kernel_rfl) (by kernel_rfl) (fun _ _ _ h => h) (by rfl) ?yare4 ?_
            case yare4 => (intro w' hw'; have e2 := (A9.out.later ((Below.refl w9.heap.size w9).drew.trans hw')).cell2; go_simp; try (with_reducible rfl))
            simp only [Act.put]; try simp only [List.setIfInBounds_toArray]; try simp only [List.set_cons_zero, List.set_cons_succ]
            refine wpAnyL_take (i := 5) (d := some 93) (v := ?vare5) rfl rfl (by kernel_rfl) (by kernel_rfl) (by kernel_rfl) (fun _ _ _ h => h) (by rfl) ?yare5 ?_
            case yare5 => (intro w' hw'; go_simp; try (with_reducible rfl))
            simp only [Act.put]; try simp only [List.setIfInBounds_toArray]; try simp only [List.set_cons_zero, List.set_cons_succ]
            refine wpAnyL_take (i := 6) (d := some 94) (v := .bool false) rfl rfl (by kernel_rfl) (by kernel_rfl) (by kernel_rfl) (fun _ _ _ h => h) (by rfl) ?yare6 ?_
            case yare6 => (intro w' hw'; have hb := BL.out; go_simp; try (with_reducible rfl))
            simp only [Act.put]; try simp only [List.setIfInBounds_toArray]; try simp only [List.set_cons_zero, List.set_cons_succ]
            refine wpAnyL_take (i := 7) (d := some 95) (v := ?vare7) rfl rfl (by kernel_rfl) (by kernel_rfl) (by kernel_rfl) (fun _ _ _ h => h) (by rfl) ?yare7 ?_
            case yare7 => (intro w' hw'; go_simp; try (with_reducible rfl))
            simp only [Act.put]; try simp only [List.setIfInBounds_toArray]; try simp only [List.set_cons_zero, List.set_cons_succ]
            refine wpAnyL_take (i := 8) (d := some 96) (v := ?vare8) rfl rfl (by kernel_rfl) (by kernel_rfl) (by kernel_rfl) (fun _ _ _ h => h) (by rfl) ?yare8 ?_
            case yare8 => (intro w' hw'; go_simp; try (with_reducible rfl))
            simp only [Act.put]; try simp only [List.setIfInBounds_toArray]; try simp only [List.set_cons_zero, List.set_cons_succ]
            refine wpAnyL_take (i := 9) (d := some 97) (v := ?vare9) rfl rfl (by kernel_rfl) (by kernel_rfl) (by kernel_rfl) (fun _ _ _ h => h) (by rfl) ?yare9 ?_
            case yare9 => (intro w' hw'; go_simp; try (with_reducible rfl))
            simp only [Act.put]; try simp only [List.setIfInBounds_toArray]; try simp only [List.set_cons_zero, List.set_cons_succ]
            refine wpAnyL_take (i := 10) (d := some 98) (v := ?vare10) rfl rfl (by kernel_rfl) (by kernel_rfl) (by kernel_rfl) (fun _ _ _ h => h) (by rfl) ?yare10 ?_
            case yare10 => (intro w' hw'; have e1 := (A9.out.later ((Below.refl w9.heap.size w9).drew.trans hw')).cell1; go_simp; try (with_reducible rfl))
            simp only [Act.put]; try simp only [List.setIfInBounds_toArray]; try simp only [List.set_cons_zero, List.set_cons_succ]
            refine wpAnyL_take (i := 12) (d := some 100) (v := ?vare12) rfl rfl (by kernel_rfl) (by kernel_rfl) (by kernel_rfl) (fun _ _ _ h => h) (by rfl) ?yare12 ?_
            case yare12 => (intro w' hw'; go_simp; try (with_reducible rfl))
            simp only [Act.put]; try simp only [List.setIfInBounds_toArray]; try simp only [List.set_cons_zero, List.set_cons_succ]
            refine wpAnyL_take (i := 13) (d := some 101) (v := ?vare13) rfl rfl (by kernel_rfl) (by kernel_rfl) (by kernel_rfl) (fun _ _ _ h => h) (by rfl) ?yare13 ?_
            case yare13 => (intro w' hw'; have e2 := (A9.out.later ((Below.refl w9.heap.size w9).drew.trans hw')).cell2; go_simp; try (with_reducible rfl))
            simp only [Act.put]; try simp only [List.setIfInBounds_toArray]; try simp only [List.set_cons_zero, List.set_cons_succ]
            refine wpAnyL_only (i := 11) rfl (by kernel_rfl) (by rfl) fun K hK => ?_
            go_simp
            refine (own_done (O9.out.later (Below.refl w9.heap.size w9).drew) a.client).mono ?_
            rw [HLR.out]
            rintro e w10 ⟨rfl, o10, hb10⟩
            have O10 := hide o10
            have A10 := hide (A9.out.later ((Below.refl w9.heap.size w9).drew.trans hb10))
            refine hK.out _ _ hb10 ?_
            clear o10 hb10
            clear hK K
            try (simp only [Act.put]; try simp only [List.setIfInBounds_toArray]; try simp only [List.set_cons_zero, List.set_cons_succ])
            refine wpAnyL_take (i := 14) (d := some 102) (v := .bool false) rfl rfl (by kernel_rfl) (by kernel_rfl) (by kernel_rfl) (fun _ _ _ h => h) (by rfl) ?yare14 ?_
            case yare14 => (intro w' hw'; go_simp; try (with_reducible rfl))
            simp only [Act.put]; try simp only [List.setIfInBounds_toArray]; try simp only [List.set_cons_zero, List.set_cons_succ]
            refine wpAnyL_take (i := 15) (d := some 103) (v := ?vare15) rfl rfl (by kernel_rfl) (by kernel_rfl) (by kernel_rfl) (fun _ _ _ h => h) (by rfl) ?yare15 ?_
            case yare15 => (intro w' hw'; go_simp; try (with_reducible rfl))
            simp only [Act.put]; try simp only [List.setIfInBounds_toArray]; try simp only [List.set_cons_zero, List.set_cons_succ]
            refine wpAnyL_take (i := 16) (d := some 104) (v := ?vare16) rfl rfl (by kernel_rfl) (by kernel_rfl) (by kernel_rfl) (fun _ _ _ h => h) (by rfl) ?yare16 ?_
            case yare16 => (intro w' hw'; go_simp; try (with_reducible rfl))
            simp only [Act.put]; try simp only [List.setIfInBounds_toArray]; try simp only [List.set_cons_zero, List.set_cons_succ]
            refine wpAnyL_done (by kernel_rfl) ?_ _
            go_wp2
            refine wp_region_L (by kernel_rfl) ?_
            refine wpAnyL_take (i := 0) (d := some 126) (v := ?varf0) rfl rfl (by kernel_rfl) (by kernel_rfl) (by kernel_rfl) (fun _ _ _ h => h) (by rfl) ?yarf0 ?_
            case yarf0 => (intro w' hw'; go_simp; try (with_reducible rfl))
            simp only [Act.put]; try simp only [List.setIfInBounds_toArray]; try simp only [List.set_cons_zero, List.set_cons_succ]
            refine wpAnyL_take (i := 1) (d := some 127) (v := ?varf1) rfl rfl (by kernel_rfl) (by kernel_rfl) (by kernel_rfl) (fun _ _ _ h => h) (by rfl) ?yarf1 ?_
            case yarf1 => (intro w' hw'; go_simp; try (with_reducible rfl))
            simp only [Act.put]; try simp only [List.setIfInBounds_toArray]; try simp only [List.set_cons_zero, List.set_cons_succ]
            refine wpAnyL_take (i := 2) (d := some 128) (v := ?varf2) rfl rfl (by kernel_rfl) (by kernel_rfl) (by kernel_rfl) (fun _ _ _ h => h) (by rfl) ?yarf2 ?_
            case yarf2 => (intro w' hw'; have e1 := (A10.out.later ((Below.refl w10.heap.size w10).drew.trans hw')).cell1; go_simp; try (with_reducible rfl))
            simp only [Act.put]; try simp only [List.setIfInBounds_toArray]; try simp only [List.set_cons_zero, List.set_cons_succ]
            refine wpAnyL_take (i := 4) (d := some 130) (v := ?varf4) rfl rfl (by kernel_rfl) (by kernel_rfl) (by kernel_rfl) (fun _ _ _ h => h) (by rfl) ?yarf4 ?_
            case yarf4 => (intro w' hw'; go_simp; try (with_reducible rfl))
            simp only [Act.put]; try simp only [List.setIfInBounds_toArray]; try simp only [List.set_cons_zero, List.set_cons_succ]
            refine wpAnyL_only (i := 3) rfl (by kernel_rfl) (by rfl) fun K hK => ?_
            go_simp
            refine (own_done (O10.out.later (Below.refl w10.heap.size w10).drew) a.client).mono ?_
            rw [HD1.out]
            rintro e v1 ⟨rfl, p1, hb1⟩
            have P1 := hide p1
            have HB1 := hide ((Below.refl w10.heap.size w10).drew.trans hb1)
            refine hK.out _ _ hb1 ?_
            clear p1 hb1
            clear hK K
            try (simp only [Act.put]; try simp only [List.setIfInBounds_toArray]; try simp only [List.set_cons_zero, List.set_cons_succ])
            refine wpAnyL_take (i := 5) (d := some 131) (v := .bool false) rfl rfl (by kernel_rfl) (by kernel_rfl) (by kernel_rfl) (fun _ _ _ h => h) (by rfl) ?yarf5 ?_
            case yarf5 => (intro w' hw'; have hb := B1.out; go_simp; try (with_reducible rfl))
            simp only [Act.put]; try simp only [List.setIfInBounds_toArray]; try simp only [List.set_cons_zero, List.set_cons_succ]
            refine wpAnyL_take (i := 6) (d := some 132) (v := ?varf6) rfl rfl (by kernel_rfl) (by kernel_rfl) (by kernel_rfl) (fun _ _ _ h => h) (by rfl) ?yarf6 ?_
            case yarf6 => (intro w' hw'; go_simp; try (with_reducible rfl))
            simp only [Act.put]; try simp only [List.setIfInBounds_toArray]; try simp only [List.set_cons_zero, List.set_cons_succ]
            refine wpAnyL_take (i := 7) (d := some 133) (v := ?varf7) rfl rfl (by kernel_rfl) (by kernel_rfl) (by kernel_rfl) (fun _ _ _ h => h) (by rfl) ?yarf7 ?_
            case yarf7 => (intro w' hw'; go_simp; try (with_reducible rfl))
            simp only [Act.put]; try simp only [List.setIfInBounds_toArray]; try simp only [List.set_cons_zero, List.set_cons_succ]
            refine wpAnyL_take (i := 8) (d := some 134) (v := ?varf8) rfl rfl (by kernel_rfl) (by kernel_rfl) (by kernel_rfl) (fun _ _ _ h => h) (by rfl) ?yarf8 ?_
            case yarf8 => (intro w' hw'; go_simp; try (with_reducible rfl))
            simp only [Act.put]; try simp only [List.setIfInBounds_toArray]; try simp only [List.set_cons_zero, List.set_cons_succ]
            refine wpAnyL_take (i := 9) (d := some 135) (v := ?varf9) rfl rfl (by kernel_rfl) (by kernel_rfl) (by kernel_rfl) (fun _ _ _ h => h) (by rfl) ?yarf9 ?_
            case yarf9 => (intro w' hw'; have e1 := (A10.out.later (HB1.out.trans (Below.mono hw' HB1.out.size))).cell1; go_simp; try (with_reducible rfl))
            simp only [Act.put]; try simp only [List.setIfInBounds_toArray]; try simp only [List.set_cons_zero, List.set_cons_succ]
            refine wpAnyL_take (i := 11) (d := some 137) (v := ?varf11) rfl rfl (by kernel_rfl) (by kernel_rfl) (by kernel_rfl) (fun _ _ _ h => h) (by rfl) ?yarf11 ?_
            case yarf11 => (intro w' hw'; go_simp; try (with_reducible rfl))
            simp only [Act.put]; try simp only [List.setIfInBounds_toArray]; try simp only [List.set_cons_zero, List.set_cons_succ]
            refine wpAnyL_only (i := 10) rfl (by kernel_rfl) (by rfl) fun K hK => ?_
            go_simp
            refine (own_last P1.out a.client).mono ?_
            rw [HL1.out]
            rintro e v2 ⟨rfl, p2, hb2⟩
            have P2 := hide p2
            have HB2 := hide (HB1.out.trans (hb2.mono HB1.out.size))
            refine hK.out _ _ hb2 ?_
            clear p2 hb2
            clear hK K
            try (simp only [Act.put]; try simp only [List.setIfInBounds_toArray]; try simp only [List.set_cons_zero, List.set_cons_succ])
            refine wpAnyL_take (i := 12) (d := some 138) (v := .bool false) rfl rfl (by kernel_rfl) (by kernel_rfl) (by kernel_rfl) (fun _ _ _ h => h) (by rfl) ?yarf12 ?_
            case yarf12 => (intro w' hw'; have hb := B2.out; go_simp; try (with_reducible rfl))
            simp only [Act.put]; try simp only [List.setIfInBounds_toArray]; try simp only [List.set_cons_zero, List.set_cons_succ]
            refine wpAnyL_take (i := 13) (d := some 139) (v := ?varf13) rfl rfl (by kernel_rfl) (by kernel_rfl) (by kernel_rfl) (fun _ _ _ h => h) (by rfl) ?yarf13 ?_
            case yarf13 => (intro w' hw'; go_simp; try (with_reducible rfl))
            simp only [Act.put]; try simp only [List.setIfInBounds_toArray]; try simp only [List.set_cons_zero, List.set_cons_succ]
            refine wpAnyL_take (i := 14) (d := some 140) (v := ?varf14) rfl rfl (by kernel_rfl) (by kernel_rfl) (by kernel_rfl) (fun _ _ _ h => h) (by rfl) ?yarf14 ?_
            case yarf14 => (intro w' hw'; go_simp; try (with_reducible rfl))
            simp only [Act.put]; try simp only [List.setIfInBounds_toArray]; try simp only [List.set_cons_zero, List.set_cons_succ]
            refine wpAnyL_take (i := 15) (d := some 141) (v := ?varf15) rfl rfl (by kernel_rfl) (by kernel_rfl) (by kernel_rfl) (fun _ _ _ h => h) (by rfl) ?yarf15 ?_
            case yarf15 => (intro w' hw'; go_simp; try (with_reducible rfl))
            simp only [Act.put]; try simp only [List.setIfInBounds_toArray]; try simp only [List.set_cons_zero, List.set_cons_succ]
            refine wpAnyL_take (i := 16) (d := some 142) (v := ?varf16) rfl rfl (by kernel_rfl) (by kernel_rfl) (by kernel_rfl) (fun _ _ _ h => h) (by rfl) ?yarf16 ?_
            case yarf16 => (intro w' hw'; go_simp; try (with_reducible rfl))
            simp only [Act.put]; try simp only [List.setIfInBounds_toArray]; try simp only [List.set_cons_zero, List.set_cons_succ]
            refine wpAnyL_take (i := 17) (d := some 143) (v := ?varf17) rfl rfl (by kernel_rfl) (by kernel_rfl) (by kernel_rfl) (fun _ _ _ h => h) (by rfl) ?yarf17 ?_
            case yarf17 => (intro w' hw'; have e1 := (A10.out.later (HB2.out.trans (Below.mono hw' HB2.out.size))).cell1; go_simp; try (with_reducible rfl))
            simp only [Act.put]; try simp only [List.setIfInBounds_toArray]; try simp only [List.set_cons_zero, List.set_cons_succ]
            refine wpAnyL_take (i := 19) (d := some 145) (v := ?varf19) rfl rfl (by kernel_rfl) (by kernel_rfl) (by kernel_rfl) (fun _ _ _ h => h) (by rfl) ?yarf19 ?_
            case yarf19 => (intro w' hw'; go_simp; try (with_reducible rfl))
            simp only [Act.put]; try simp only [List.setIfInBounds_toArray]; try simp only [List.set_cons_zero, List.set_cons_succ]
            refine wpAnyL_take (i := 20) (d := some 146) (v := ?varf20) rfl rfl (by kernel_rfl) (by kernel_rfl) (by kernel_rfl) (fun _ _ _ h => h) (by rfl) ?yarf20 ?_
            case yarf20 => (intro w' hw'; go_simp; try (with_reducible rfl))
            simp only [Act.put]; try simp only [List.setIfInBounds_toArray]; try simp only [List.set_cons_zero, List.set_cons_succ]
            refine wpAnyL_take (i := 21) (d := some 147) (v := ?varf21) rfl rfl (by kernel_rfl) (by kernel_rfl) (by kernel_rfl) (fun _ _ _ h => h) (by rfl) ?yarf21 ?_
            case yarf21 => (intro w' hw'; have e1 := (A10.out.later (HB2.out.trans (Below.mono hw' HB2.out.size))).cell1; go_simp; try (with_reducible rfl))
            simp only [Act.put]; try simp only [List.setIfInBounds_toArray]; try simp only [List.set_cons_zero, List.set_cons_succ]
            refine wpAnyL_only (i := 18) rfl (by kernel_rfl) (by rfl) fun K hK => ?_
            go_simp
            refine (own_last P2.out a.client).mono ?_
            rw [HL1.out]
            rintro e v3 ⟨rfl, p3, hb3⟩
            have P3 := hide p3
            have HB3 := hide (HB2.out.trans (hb3.mono HB2.out.size))
            refine hK.out _ _ hb3 ?_
            clear p3 hb3
            clear hK K
            try (simp only [Act.put]; try simp only [List.setIfInBounds_toArray]; try simp only [List.set_cons_zero, List.set_cons_succ])
            refine wpAnyL_only (i := 22) rfl (by kernel_rfl) (by rfl) fun K hK => ?_
            go_simp
            refine (own_done P3.out a.client).mono ?_
            rw [HD1.out]
            rintro e v4 ⟨rfl, p4, hb4⟩
            have P4 := hide p4
            refine hK.out _ _ hb4 ?_
            clear p4 hb4
            clear hK K
            try (simp only [Act.put]; try simp only [List.setIfInBounds_toArray]; try simp only [List.set_cons_zero, List.set_cons_succ])
            refine wpAnyL_take (i := 23) (d := some 149) (v := .bool false) rfl rfl (by kernel_rfl) (by kernel_rfl) (by kernel_rfl) (fun _ _ _ h => h) (by rfl) ?yarf23 ?_
            case yarf23 => (intro w' hw'; have hb := B3.out; go_simp; try (with_reducible rfl))
            simp only [Act.put]; try simp only [List.setIfInBounds_toArray]; try simp only [List.set_cons_zero, List.set_cons_succ]
            refine wpAnyL_take (i := 24) (d := some 150) (v := ?varf24) rfl rfl (by kernel_rfl) (by kernel_rfl) (by kernel_rfl) (fun _ _ _ h => h) (by rfl) ?yarf24 ?_
            case yarf24 => (intro w' hw'; go_simp; try (with_reducible rfl))
            simp only [Act.put]; try simp only [List.setIfInBounds_toArray]; try simp only [List.set_cons_zero, List.set_cons_succ]
            refine wpAnyL_done (by kernel_rfl) ?_ _
            go_wp2
            go_roundw
            case rel => exact ⟨k + 1, _, by go_num, by omega, HS.out.inv, P4.out⟩
            case measure => simp [intOf]; omega
            
          · have BZ : Hid ((z0 == 0) = false) := by show _ = _; simpa using hz
            have hz2 : (z0 != 0) = true := by simpa using hz
            have HTE := hide (HS.out.no (by rw [HZ.out]; exact hz))
            clear hz
            go_wp2
            refine wp_region_L (by kernel_rfl) ?_
            refine wpAnyL_take (i := 0) (d := some 88) (v := ?varg0) rfl rfl (by kernel_rfl) (by kernel_rfl) (by kernel_rfl) (fun _ _ _ h => h) (by rfl) ?yarg0 ?_
            case yarg0 => (intro w' hw'; go_simp; try (with_reducible rfl))
            simp only [Act.put]; try simp only [List.setIfInBounds_toArray]; try simp only [List.set_cons_zero, List.set_cons_succ]
            refine wpAnyL_take (i := 1) (d := some 89) (v := .bool false) rfl rfl (by kernel_rfl) (by kernel_rfl) (by kernel_rfl) (fun _ _ _ h => h) (by rfl) ?yarg1 ?_
            case yarg1 => (intro w' hw'; have hb := BZ.out; go_simp; try (with_reducible rfl))
            simp only [Act.put]; try simp only [List.setIfInBounds_toArray]; try simp only [List.set_cons_zero, List.set_cons_succ]
            refine wpAnyL_take (i := 2) (d := some 90) (v := ?varg2) rfl rfl (by kernel_rfl) (by kernel_rfl) (by kernel_rfl) (fun _ _ _ h => h) (by rfl) ?yarg2 ?_
            case yarg2 => (intro w' hw'; go_simp; try (with_reducible rfl))
            simp only [Act.put]; try simp only [List.setIfInBounds_toArray]; try simp only [List.set_cons_zero, List.set_cons_succ]
            refine wpAnyL_pass (i := 3) (d := some 91) rfl rfl (by kernel_rfl) (by kernel_rfl) (by kernel_rfl) (fun _ _ _ h => h) (by rfl) ?_
            try (simp only [Act.put]; try simp only [List.setIfInBounds_toArray]; try simp only [List.set_cons_zero, List.set_cons_succ])
            refine wpAnyL_pass (i := 4) (d := some 92) rfl rfl (by kernel_rfl) (by kernel_rfl) (by kernel_rfl) (fun _ _ _ h => h) (by rfl) ?_
            try (simp only [Act.put]; try simp only [List.setIfInBounds_toArray]; try simp only [List.set_cons_zero, List.set_cons_succ])
            refine wpAnyL_pass (i := 5) (d := some 93) rfl rfl (by kernel_rfl) (by kernel_rfl) (by kernel_rfl) (fun _ _ _ h => h) (by rfl) ?_
            try (simp only [Act.put]; try simp only [List.setIfInBounds_toArray]; try simp only [List.set_cons_zero, List.set_cons_succ])
            refine wpAnyL_pass (i := 6) (d := some 94) rfl rfl (by kernel_rfl) (by kernel_rfl) (by kernel_rfl) (fun _ _ _ h => h) (by rfl) ?_
            try (simp only [Act.put]; try simp only [List.setIfInBounds_toArray]; try simp only [List.set_cons_zero, List.set_cons_succ])
            refine wpAnyL_pass (i := 7) (d := some 95) rfl rfl (by kernel_rfl) (by kernel_rfl) (by kernel_rfl) (fun _ _ _ h => h) (by rfl) ?_
            try (simp only [Act.put]; try simp only [List.setIfInBounds_toArray]; try simp only [List.set_cons_zero, List.set_cons_succ])
            refine wpAnyL_pass (i := 8) (d := some 96) rfl rfl (by kernel_rfl) (by kernel_rfl) (by kernel_rfl) (fun _ _ _ h => h) (by rfl) ?_
            try (simp only [Act.put]; try simp only [List.setIfInBounds_toArray]; try simp only [List.set_cons_zero, List.set_cons_succ])
            refine wpAnyL_pass (i := 9) (d := some 97) rfl rfl (by kernel_rfl) (by kernel_rfl) (by kernel_rfl) (fun _ _ _ h => h) (by rfl) ?_
            try (simp only [Act.put]; try simp only [List.setIfInBounds_toArray]; try simp only [List.set_cons_zero, List.set_cons_succ])
            refine wpAnyL_pass (i := 10) (d := some 98) rfl rfl (by kernel_rfl) (by kernel_rfl) (by kernel_rfl) (fun _ _ _ h => h) (by rfl) ?_
            try (simp only [Act.put]; try simp only [List.setIfInBounds_toArray]; try simp only [List.set_cons_zero, List.set_cons_succ])
            refine wpAnyL_pass (i := 12) (d := some 100) rfl rfl (by kernel_rfl) (by kernel_rfl) (by kernel_rfl) (fun _ _ _ h => h) (by rfl) ?_
            try (simp only [Act.put]; try simp only [List.setIfInBounds_toArray]; try simp only [List.set_cons_zero, List.set_cons_succ])
            refine wpAnyL_pass (i := 13) (d := some 101) rfl rfl (by kernel_rfl) (by kernel_rfl) (by kernel_rfl) (fun _ _ _ h => h) (by rfl) ?_
            try (simp only [Act.put]; try simp only [List.setIfInBounds_toArray]; try simp only [List.set_cons_zero, List.set_cons_succ])
            refine wpAnyL_pass (i := 11) (d := some 99) rfl rfl (by kernel_rfl) (by kernel_rfl) (by kernel_rfl) (fun _ _ _ h => h) (by rfl) ?_
            try (simp only [Act.put]; try simp only [List.setIfInBounds_toArray]; try simp only [List.set_cons_zero, List.set_cons_succ])
            refine wpAnyL_pass (i := 14) (d := some 102) rfl rfl (by kernel_rfl) (by kernel_rfl) (by kernel_rfl) (fun _ _ _ h => h) (by rfl) ?_
            try (simp only [Act.put]; try simp only [List.setIfInBounds_toArray]; try simp only [List.set_cons_zero, List.set_cons_succ])
            refine wpAnyL_pass (i := 15) (d := some 103) rfl rfl (by kernel_rfl) (by kernel_rfl) (by kernel_rfl) (fun _ _ _ h => h) (by rfl) ?_
            try (simp only [Act.put]; try simp only [List.setIfInBounds_toArray]; try simp only [List.set_cons_zero, List.set_cons_succ])
            refine wpAnyL_take (i := 16) (d := some 104) (v := ?varg16) rfl rfl (by kernel_rfl) (by kernel_rfl) (by kernel_rfl) (fun _ _ _ h => h) (by rfl) ?yarg16 ?_
            case yarg16 => (intro w' hw'; go_simp; try (with_reducible rfl))
            simp only [Act.put]; try simp only [List.setIfInBounds_toArray]; try simp only [List.set_cons_zero, List.set_cons_succ]
            refine wpAnyL_done (by kernel_rfl) ?_ _
            have e1 : w9.drew.cell? ⟨wr.heap.size, 1, none⟩ = _ := A9.out.cell1
            go_wp2_with (fail)
            clear e1
            refine (own_ask (O9.out.later (Below.refl w9.heap.size w9).drew) a.client d0).mono ?_
            rw [HTE.out, ← HY0.out]
            rintro e w10 ⟨rfl, o10, hb10⟩
            have O10 := hide o10
            have A10 := hide (A9.out.later ((Below.refl w9.heap.size w9).drew.trans hb10))
            have Y10 := hide (Y9.out.later ((Below.refl w9.heap.size w9).drew.trans hb10))
            clear o10 hb10
            have q := fun w' => neq_rep y0.2 y0.2 w'
            simp only [decide_true, Bool.not_true] at q
            go_wp2_with (first
              | (refine wpList_store_rep (m := y0.2) (by rfl) _ _ (by rfl) (by rfl) (RepAt.new w10) (by rfl) ?_; intro w11 hx hg; have O11 := hide (O10.out.later (below_new hg)); have A11 := hide (A10.out.later (below_new hg)); have Y11 := hide (Y10.out.later (below_new hg)); have Z11 := hide hx; have e1 := A11.out.cell1; clear hx hg)
              | (refine wpList_load_rep (by rfl) _ (by rfl) (by rfl) Z11.out ?_)
              | (refine wpList_load_rep (by rfl) _ (by rfl) (by rfl) Y11.out ?_))
            clear q e1
            refine (own_done O11.out a.client).mono ?_
            rw [← HD0.out]
            rintro e w12 ⟨rfl, o12, hb12⟩
            have O12 : Hid (Own w w12 g (finishT T a.client a.request a.rep).2) := by rw [HTE.out]; exact o12
            have A12 := hide (A11.out.later hb12)
            clear o12 hb12
            go_wp2
            refine wp_region_L (by kernel_rfl) ?_
            refine wpAnyL_take (i := 0) (d := some 126) (v := ?varh0) rfl rfl (by kernel_rfl) (by kernel_rfl) (by kernel_rfl) (fun _ _ _ h => h) (by rfl) ?yarh0 ?_
            case yarh0 => (intro w' hw'; go_simp; try (with_reducible rfl))
            simp only [Act.put]; try simp only [List.setIfInBounds_toArray]; try simp only [List.set_cons_zero, List.set_cons_succ]
            refine wpAnyL_take (i := 1) (d := some 127) (v := ?varh1) rfl rfl (by kernel_rfl) (by kernel_rfl) (by kernel_rfl) (fun _ _ _ h => h) (by rfl) ?yarh1 ?_
            case yarh1 => (intro w' hw'; go_simp; try (with_reducible rfl))
            simp only [Act.put]; try simp only [List.setIfInBounds_toArray]; try simp only [List.set_cons_zero, List.set_cons_succ]
            refine wpAnyL_take (i := 2) (d := some 128) (v := ?varh2) rfl rfl (by kernel_rfl) (by kernel_rfl) (by kernel_rfl) (fun _ _ _ h => h) (by rfl) ?yarh2 ?_
            case yarh2 => (intro w' hw'; have e1 := (A12.out.later ((Below.refl w12.heap.size w12).drew.trans hw')).cell1; go_simp; try (with_reducible rfl))
            simp only [Act.put]; try simp only [List.setIfInBounds_toArray]; try simp only [List.set_cons_zero, List.set_cons_succ]
            refine wpAnyL_take (i := 4) (d := some 130) (v := ?varh4) rfl rfl (by kernel_rfl) (by kernel_rfl) (by kernel_rfl) (fun _ _ _ h => h) (by rfl) ?yarh4 ?_
            case yarh4 => (intro w' hw'; go_simp; try (with_reducible rfl))
            simp only [Act.put]; try simp only [List.setIfInBounds_toArray]; try simp only [List.set_cons_zero, List.set_cons_succ]
            refine wpAnyL_only (i := 3) rfl (by kernel_rfl) (by rfl) fun K hK => ?_
            go_simp
            refine (own_done (O12.out.later (Below.refl w12.heap.size w12).drew) a.client).mono ?_
            rw [HD1.out]
            rintro e v1 ⟨rfl, p1, hb1⟩
            have P1 := hide p1
            have HB1 := hide ((Below.refl w12.heap.size w12).drew.trans hb1)
            refine hK.out _ _ hb1 ?_
            clear p1 hb1
            clear hK K
            try (simp only [Act.put]; try simp only [List.setIfInBounds_toArray]; try simp only [List.set_cons_zero, List.set_cons_succ])
            refine wpAnyL_take (i := 5) (d := some 131) (v := .bool false) rfl rfl (by kernel_rfl) (by kernel_rfl) (by kernel_rfl) (fun _ _ _ h => h) (by rfl) ?yarh5 ?_
            case yarh5 => (intro w' hw'; have hb := B1.out; go_simp; try (with_reducible rfl))
            simp only [Act.put]; try simp only [List.setIfInBounds_toArray]; try simp only [List.set_cons_zero, List.set_cons_succ]
            refine wpAnyL_take (i := 6) (d := some 132) (v := ?varh6) rfl rfl (by kernel_rfl) (by kernel_rfl) (by kernel_rfl) (fun _ _ _ h => h) (by rfl) ?yarh6 ?_
            case yarh6 => (intro w' hw'; go_simp; try (with_reducible rfl))
            simp only [Act.put]; try simp only [List.setIfInBounds_toArray]; try simp only [List.set_cons_zero, List.set_cons_succ]
            refine wpAnyL_take (i := 7) (d := some 133) (v := ?varh7) rfl rfl (by kernel_rfl) (by kernel_rfl) (by kernel_rfl) (fun _ _ _ h => h) (by rfl) ?yarh7 ?_
            case yarh7 => (intro w' hw'; go_simp; try (with_reducible rfl))
            simp only [Act.put]; try simp only [List.setIfInBounds_toArray]; try simp only [List.set_cons_zero, List.set_cons_succ]
            refine wpAnyL_take (i := 8) (d := some 134) (v := ?varh8) rfl rfl (by kernel_rfl) (by kernel_rfl) (by kernel_rfl) (fun _ _ _ h => h) (by rfl) ?yarh8 ?_
            case yarh8 => (intro w' hw'; go_simp; try (with_reducible rfl))
            simp only [Act.put]; try simp only [List.setIfInBounds_toArray]; try simp only [List.set_cons_zero, List.set_cons_succ]
            refine wpAnyL_take (i := 9) (d := some 135) (v := ?varh9) rfl rfl (by kernel_rfl) (by kernel_rfl) (by kernel_rfl) (fun _ _ _ h => h) (by rfl) ?yarh9 ?_
            case yarh9 => (intro w' hw'; have e1 := (A12.out.later (HB1.out.trans (Below.mono hw' HB1.out.size))).cell1; go_simp; try (with_reducible rfl))
            simp only [Act.put]; try simp only [List.setIfInBounds_toArray]; try simp only [List.set_cons_zero, List.set_cons_succ]
            refine wpAnyL_take (i := 11) (d := some 137) (v := ?varh11) rfl rfl (by kernel_rfl) (by kernel_rfl) (by kernel_rfl) (fun _ _ _ h => h) (by rfl) ?yarh11 ?_
            case yarh11 => (intro w' hw'; go_simp; try (with_reducible rfl))
            simp only [Act.put]; try simp only [List.setIfInBounds_toArray]; try simp only [List.set_cons_zero, List.set_cons_succ]
            refine wpAnyL_only (i := 10) rfl (by kernel_rfl) (by rfl) fun K hK => ?_
            go_simp
            refine (own_last P1.out a.client).mono ?_
            rw [HL1.out]
            rintro e v2 ⟨rfl, p2, hb2⟩
            have P2 := hide p2
            have HB2 := hide (HB1.out.trans (hb2.mono HB1.out.size))
            refine hK.out _ _ hb2 ?_
            clear p2 hb2
            clear hK K
            try (simp only [Act.put]; try simp only [List.setIfInBounds_toArray]; try simp only [List.set_cons_zero, List.set_cons_succ])
            refine wpAnyL_take (i := 12) (d := some 138) (v := .bool false) rfl rfl (by kernel_rfl) (by kernel_rfl) (by kernel_rfl) (fun _ _ _ h => h) (by rfl) ?yarh12 ?_
            case yarh12 => (intro w' hw'; have hb := B2.out; go_simp; try (with_reducible rfl))
            simp only [Act.put]; try simp only [List.setIfInBounds_toArray]; try simp only [List.set_cons_zero, List.set_cons_succ]
            refine wpAnyL_take (i := 13) (d := some 139) (v := ?varh13) rfl rfl (by kernel_rfl) (by kernel_rfl) (by kernel_rfl) (fun _ _ _ h => h) (by rfl) ?yarh13 ?_
            case yarh13 => (intro w' hw'; go_simp; try (with_reducible rfl))
            simp only [Act.put]; try simp only [List.setIfInBounds_toArray]; try simp only [List.set_cons_zero, List.set_cons_succ]
            refine wpAnyL_take (i := 14) (d := some 140) (v := ?varh14) rfl rfl (by kernel_rfl) (by kernel_rfl) (by kernel_rfl) (fun _ _ _ h => h) (by rfl) ?yarh14 ?_
            case yarh14 => (intro w' hw'; go_simp; try (with_reducible rfl))
            simp only [Act.put]; try simp only [List.setIfInBounds_toArray]; try simp only [List.set_cons_zero, List.set_cons_succ]
            refine wpAnyL_take (i := 15) (d := some 141) (v := ?varh15) rfl rfl (by kernel_rfl) (by kernel_rfl) (by kernel_rfl) (fun _ _ _ h => h) (by rfl) ?yarh15 ?_
            case yarh15 => (intro w' hw'; go_simp; try (with_reducible rfl))
            simp only [Act.put]; try simp only [List.setIfInBounds_toArray]; try simp only [List.set_cons_zero, List.set_cons_succ]
            refine wpAnyL_take (i := 16) (d := some 142) (v := ?varh16) rfl rfl (by kernel_rfl) (by kernel_rfl) (by kernel_rfl) (fun _ _ _ h => h) (by rfl) ?yarh16 ?_
            case yarh16 => (intro w' hw'; go_simp; try (with_reducible rfl))
            simp only [Act.put]; try simp only [List.setIfInBounds_toArray]; try simp only [List.set_cons_zero, List.set_cons_succ]
            refine wpAnyL_take (i := 17) (d := some 143) (v := ?varh17) rfl rfl (by kernel_rfl) (by kernel_rfl) (by kernel_rfl) (fun _ _ _ h => h) (by rfl) ?yarh17 ?_
            case yarh17 => (intro w' hw'; have e1 := (A12.out.later (HB2.out.trans (Below.mono hw' HB2.out.size))).cell1; go_simp; try (with_reducible rfl))
            simp only [Act.put]; try simp only [List.setIfInBounds_toArray]; try simp only [List.set_cons_zero, List.set_cons_succ]
            refine wpAnyL_take (i := 19) (d := some 145) (v := ?varh19) rfl rfl (by kernel_rfl) (by kernel_rfl) (by kernel_rfl) (fun _ _ _ h => h) (by rfl) ?yarh19 ?_
            case yarh19 => (intro w' hw'; go_simp; try (with_reducible rfl))
            simp only [Act.put]; try simp only [List.setIfInBounds_toArray]; try simp only [List.set_cons_zero, List.set_cons_succ]
            refine wpAnyL_take (i := 20) (d := some 146) (v := ?varh20) rfl rfl (by kernel_rfl) (by kernel_rfl) (by kernel_rfl) (fun _ _ _ h => h) (by rfl) ?yarh20 ?_
            case yarh20 => (intro w' hw'; go_simp; try (with_reducible rfl))
            simp only [Act.put]; try simp only [List.setIfInBounds_toArray]; try simp only [List.set_cons_zero, List.set_cons_succ]
            refine wpAnyL_take (i := 21) (d := some 147) (v := ?varh21) rfl rfl (by kernel_rfl) (by kernel_rfl) (by kernel_rfl) (fun _ _ _ h => h) (by rfl) ?yarh21 ?_
            case yarh21 => (intro w' hw'; have e1 := (A12.out.later (HB2.out.trans (Below.mono hw' HB2.out.size))).cell1; go_simp; try (with_reducible rfl))
            simp only [Act.put]; try simp only [List.setIfInBounds_toArray]; try simp only [List.set_cons_zero, List.set_cons_succ]
            refine wpAnyL_only (i := 18) rfl (by kernel_rfl) (by rfl) fun K hK => ?_
            go_simp
            refine (own_last P2.out a.client).mono ?_
            rw [HL1.out]
            rintro e v3 ⟨rfl, p3, hb3⟩
            have P3 := hide p3
            have HB3 := hide (HB2.out.trans (hb3.mono HB2.out.size))
            refine hK.out _ _ hb3 ?_
            clear p3 hb3
            clear hK K
            try (simp only [Act.put]; try simp only [List.setIfInBounds_toArray]; try simp only [List.set_cons_zero, List.set_cons_succ])
            refine wpAnyL_only (i := 22) rfl (by kernel_rfl) (by rfl) fun K hK => ?_
            go_simp
            refine (own_done P3.out a.client).mono ?_
            rw [HD1.out]
            rintro e v4 ⟨rfl, p4, hb4⟩
            have P4 := hide p4
            refine hK.out _ _ hb4 ?_
            clear p4 hb4
            clear hK K
            try (simp only [Act.put]; try simp only [List.setIfInBounds_toArray]; try simp only [List.set_cons_zero, List.set_cons_succ])
            refine wpAnyL_take (i := 23) (d := some 149) (v := .bool false) rfl rfl (by kernel_rfl) (by kernel_rfl) (by kernel_rfl) (fun _ _ _ h => h) (by rfl) ?yarh23 ?_
            case yarh23 => (intro w' hw'; have hb := B3.out; go_simp; try (with_reducible rfl))
            simp only [Act.put]; try simp only [List.setIfInBounds_toArray]; try simp only [List.set_cons_zero, List.set_cons_succ]
            refine wpAnyL_take (i := 24) (d := some 150) (v := ?varh24) rfl rfl (by kernel_rfl) (by kernel_rfl) (by kernel_rfl) (fun _ _ _ h => h) (by rfl) ?yarh24 ?_
            case yarh24 => (intro w' hw'; go_simp; try (with_reducible rfl))
            simp only [Act.put]; try simp only [List.setIfInBounds_toArray]; try simp only [List.set_cons_zero, List.set_cons_succ]
            refine wpAnyL_done (by kernel_rfl) ?_ _
            go_wp2
            go_roundw
            case rel => exact ⟨k + 1, _, by go_num, by omega, HS.out.inv, P4.out⟩
            case measure => simp [intOf]; omega
            
        · have hk0 : (a.kind == 0) = false := by simpa using hkd0
          have hk1 : (a.kind == 1) = false := by simpa using hkd1
          clear hkd0 hkd1
          go_wp2_with (first
            | (refine wpList_load_mid (by rfl) 36 _ (by rfl) b (off + k * 7) (by rfl) _ _ HR.out Try.underlying36 (by rfl) (by kernel_rfl) ?_)
            | (refine wpList_store_act (a := a) (by rfl) _ _ (by rfl) (by rfl) (ActAt.new wr) (by rfl) ?_; intro w2 hx hg; have A2 := hide hx; have O2 := hide (HO.out.later (below_new hg)); have k1 := A2.out.cell1; clear hx hg))
          refine (own_done O2.out a.client).mono ?_
          rintro e w3 ⟨rfl, o3, hb3⟩
          have O3 := hide o3
          have A3 := hide (A2.out.later hb3)
          clear o3 hb3 k1
          have k1 := A3.out.cell1
          go_wp2_with (fail)
          clear k1
          refine (own_last O3.out a.client).mono ?_
          rintro e w4 ⟨rfl, o4, hb4⟩
          have O4 := hide o4
          have A4 := hide (A3.out.later hb4)
          clear o4 hb4
          have k1 := A4.out.cell1
          obtain ⟨d0, hd0⟩ : ∃ d0, d0 = (T.of a.client).done := ⟨_, rfl⟩
          obtain ⟨l0, hl0⟩ : ∃ l0, l0 = (T.of a.client).last := ⟨_, rfl⟩
          have HD0 := hide hd0
          have HL0 := hide hl0
          rw [← hd0, ← hl0]
          clear hd0 hl0
          go_wp2_with (fail)
          clear k1
          refine (own_ask O4.out a.client d0).mono ?_
          rintro e w5 ⟨rfl, o5, hb5⟩
          have O5 := hide o5
          have A5 := hide (A4.out.later hb5)
          have HNF : Hid (w5.heap.size ≠ g) := by
            have := o5.at_.lt
            show _ ≠ _
            omega
          clear o5 hb5
          obtain ⟨y0, hy0⟩ : ∃ y0, y0 = askT T a.client d0 := ⟨_, rfl⟩
          have HY0 := hide hy0
          rw [← hy0]
          clear hy0
          go_wp2_with (refine wpList_store_rep (m := y0.2) (by rfl) _ _ (by rfl) (by rfl) (RepAt.new w5) (by rfl) ?_; intro w6 hx hg; have O6 := hide (O5.out.later (below_new hg)); have A6 := hide (A5.out.later (below_new hg)); have Y6 := hide hx; have k1 := A6.out.cell1; have k2 := A6.out.cell2; clear hx hg)
          clear k1 k2
          refine (own_ask O6.out a.client a.request).mono ?_
          rintro e w7 ⟨rfl, o7, hb7⟩
          have O7 := hide o7
          have A7 := hide (A6.out.later hb7)
          have Y7 := hide (Y6.out.later hb7)
          clear o7 hb7
          obtain ⟨q0, hq0⟩ : ∃ q0, q0 = (askT T a.client a.request).1 := ⟨_, rfl⟩
          obtain ⟨p0, hp0⟩ : ∃ p0, p0 = (askT T a.client a.request).2 := ⟨_, rfl⟩
          have HQ0 := hide hq0
          rw [← hq0, ← hp0]
          clear hq0 hp0
          go_wp2_with (first
            | (refine wpList_store_rep (m := p0) (by rfl) _ _ (by rfl) (by rfl) (RepAt.new w7) (by rfl) ?_; intro w8 hx hg; have O8 := hide (O7.out.later (below_new hg)); have A8 := hide (A7.out.later (below_new hg)); have Y8 := hide (Y7.out.later (below_new hg)); have k0 := A8.out.cell0; clear hx hg))
          clear k0
          have HST := hide (onceT HI.out a.client)
          obtain ⟨d1, hd1⟩ : ∃ d1, (T.of a.client).done = d1 := ⟨_, rfl⟩
          obtain ⟨l1, hl1⟩ : ∃ l1, (T.of a.client).last = l1 := ⟨_, rfl⟩
          have HD1 := hide hd1
          have HL1 := hide hl1
          have B1 : Hid (decide (d1 < d0) = false) := by
            skip
            have h1 : d1 = d0 := hd1.symm.trans HD0.out.symm
            show _ = _
            simp; omega
          have B2 : Hid (decide (l1 < l0) = false) := by
            skip
            have h1 : l1 = l0 := hl1.symm.trans HL0.out.symm
            show _ = _
            simp; omega
          have B3 : Hid (decide (l1 < d1) = false) := by
            have h1 := HST.out.ord
            rw [hl1, hd1] at h1
            show _ = _
            simp; omega
          clear hd1 hl1
          
          refine wp_region_L (by kernel_rfl) ?_
          refine wpAnyL_take (i := 0) (d := some 126) (v := ?vari0) rfl rfl (by kernel_rfl) (by kernel_rfl) (by kernel_rfl) (fun _ _ _ h => h) (by rfl) ?yari0 ?_
          case yari0 => (intro w' hw'; go_simp; try (with_reducible rfl))
          simp only [Act.put]; try simp only [List.setIfInBounds_toArray]; try simp only [List.set_cons_zero, List.set_cons_succ]
          refine wpAnyL_take (i := 1) (d := some 127) (v := ?vari1) rfl rfl (by kernel_rfl) (by kernel_rfl) (by kernel_rfl) (fun _ _ _ h => h) (by rfl) ?yari1 ?_
          case yari1 => (intro w' hw'; go_simp; try (with_reducible rfl))
          simp only [Act.put]; try simp only [List.setIfInBounds_toArray]; try simp only [List.set_cons_zero, List.set_cons_succ]
          refine wpAnyL_take (i := 2) (d := some 128) (v := ?vari2) rfl rfl (by kernel_rfl) (by kernel_rfl) (by kernel_rfl) (fun _ _ _ h => h) (by rfl) ?yari2 ?_
          case yari2 => (intro w' hw'; have e1 := (A8.out.later ((Below.refl w8.heap.size w8).drew.trans hw')).cell1; go_simp; try (with_reducible rfl))
          simp only [Act.put]; try simp only [List.setIfInBounds_toArray]; try simp only [List.set_cons_zero, List.set_cons_succ]
          refine wpAnyL_take (i := 4) (d := some 130) (v := ?vari4) rfl rfl (by kernel_rfl) (by kernel_rfl) (by kernel_rfl) (fun _ _ _ h => h) (by rfl) ?yari4 ?_
          case yari4 => (intro w' hw'; go_simp; try (with_reducible rfl))
          simp only [Act.put]; try simp only [List.setIfInBounds_toArray]; try simp only [List.set_cons_zero, List.set_cons_succ]
          refine wpAnyL_only (i := 3) rfl (by kernel_rfl) (by rfl) fun K hK => ?_
          go_simp
          refine (own_done (O8.out.later (Below.refl w8.heap.size w8).drew) a.client).mono ?_
          rw [HD1.out]
          rintro e v1 ⟨rfl, p1, hb1⟩
          have P1 := hide p1
          have HB1 := hide ((Below.refl w8.heap.size w8).drew.trans hb1)
          refine hK.out _ _ hb1 ?_
          clear p1 hb1
          clear hK K
          try (simp only [Act.put]; try simp only [List.setIfInBounds_toArray]; try simp only [List.set_cons_zero, List.set_cons_succ])
          refine wpAnyL_take (i := 5) (d := some 131) (v := .bool false) rfl rfl (by kernel_rfl) (by kernel_rfl) (by kernel_rfl) (fun _ _ _ h => h) (by rfl) ?yari5 ?_
          case yari5 => (intro w' hw'; have hb := B1.out; go_simp; try (with_reducible rfl))
          simp only [Act.put]; try simp only [List.setIfInBounds_toArray]; try simp only [List.set_cons_zero, List.set_cons_succ]
          refine wpAnyL_take (i := 6) (d := some 132) (v := ?vari6) rfl rfl (by kernel_rfl) (by kernel_rfl) (by kernel_rfl) (fun _ _ _ h => h) (by rfl) ?yari6 ?_
          case yari6 => (intro w' hw'; go_simp; try (with_reducible rfl))
          simp only [Act.put]; try simp only [List.setIfInBounds_toArray]; try simp only [List.set_cons_zero, List.set_cons_succ]
          refine wpAnyL_take (i := 7) (d := some 133) (v := ?vari7) rfl rfl (by kernel_rfl) (by kernel_rfl) (by kernel_rfl) (fun _ _ _ h => h) (by rfl) ?yari7 ?_
          case yari7 => (intro w' hw'; go_simp; try (with_reducible rfl))
          simp only [Act.put]; try simp only [List.setIfInBounds_toArray]; try simp only [List.set_cons_zero, List.set_cons_succ]
          refine wpAnyL_take (i := 8) (d := some 134) (v := ?vari8) rfl rfl (by kernel_rfl) (by kernel_rfl) (by kernel_rfl) (fun _ _ _ h => h) (by rfl) ?yari8 ?_
          case yari8 => (intro w' hw'; go_simp; try (with_reducible rfl))
          simp only [Act.put]; try simp only [List.setIfInBounds_toArray]; try simp only [List.set_cons_zero, List.set_cons_succ]
          refine wpAnyL_take (i := 9) (d := some 135) (v := ?vari9) rfl rfl (by kernel_rfl) (by kernel_rfl) (by kernel_rfl) (fun _ _ _ h => h) (by rfl) ?yari9 ?_
          case yari9 => (intro w' hw'; have e1 := (A8.out.later (HB1.out.trans (Below.mono hw' HB1.out.size))).cell1; go_simp; try (with_reducible rfl))
          simp only [Act.put]; try simp only [List.setIfInBounds_toArray]; try simp only [List.set_cons_zero, List.set_cons_succ]
          refine wpAnyL_take (i := 11) (d := some 137) (v := ?vari11) rfl rfl (by kernel_rfl) (by kernel_rfl) (by kernel_rfl) (fun _ _ _ h => h) (by rfl) ?yari11 ?_
          case yari11 => (intro w' hw'; go_simp; try (with_reducible rfl))
          simp only [Act.put]; try simp only [List.setIfInBounds_toArray]; try simp only [List.set_cons_zero, List.set_cons_succ]
          refine wpAnyL_only (i := 10) rfl (by kernel_rfl) (by rfl) fun K hK => ?_
          go_simp
          refine (own_last P1.out a.client).mono ?_
          rw [HL1.out]
          rintro e v2 ⟨rfl, p2, hb2⟩
          have P2 := hide p2
          have HB2 := hide (HB1.out.trans (hb2.mono HB1.out.size))
          refine hK.out _ _ hb2 ?_
          clear p2 hb2
          clear hK K
          try (simp only [Act.put]; try simp only [List.setIfInBounds_toArray]; try simp only [List.set_cons_zero, List.set_cons_succ])
          refine wpAnyL_take (i := 12) (d := some 138) (v := .bool false) rfl rfl (by kernel_rfl) (by kernel_rfl) (by kernel_rfl) (fun _ _ _ h => h) (by rfl) ?yari12 ?_
          case yari12 => (intro w' hw'; have hb := B2.out; go_simp; try (with_reducible rfl))
          simp only [Act.put]; try simp only [List.setIfInBounds_toArray]; try simp only [List.set_cons_zero, List.set_cons_succ]
          refine wpAnyL_take (i := 13) (d := some 139) (v := ?vari13) rfl rfl (by kernel_rfl) (by kernel_rfl) (by kernel_rfl) (fun _ _ _ h => h) (by rfl) ?yari13 ?_
          case yari13 => (intro w' hw'; go_simp; try (with_reducible rfl))
          simp only [Act.put]; try simp only [List.setIfInBounds_toArray]; try simp only [List.set_cons_zero, List.set_cons_succ]
          refine wpAnyL_take (i := 14) (d := some 140) (v := ?vari14) rfl rfl (by kernel_rfl) (by kernel_rfl) (by kernel_rfl) (fun _ _ _ h => h) (by rfl) ?yari14 ?_
          case yari14 => (intro w' hw'; go_simp; try (with_reducible rfl))
          simp only [Act.put]; try simp only [List.setIfInBounds_toArray]; try simp only [List.set_cons_zero, List.set_cons_succ]
          refine wpAnyL_take (i := 15) (d := some 141) (v := ?vari15) rfl rfl (by kernel_rfl) (by kernel_rfl) (by kernel_rfl) (fun _ _ _ h => h) (by rfl) ?yari15 ?_
          case yari15 => (intro w' hw'; go_simp; try (with_reducible rfl))
          simp only [Act.put]; try simp only [List.setIfInBounds_toArray]; try simp only [List.set_cons_zero, List.set_cons_succ]
          refine wpAnyL_take (i := 16) (d := some 142) (v := ?vari16) rfl rfl (by kernel_rfl) (by kernel_rfl) (by kernel_rfl) (fun _ _ _ h => h) (by rfl) ?yari16 ?_
          case yari16 => (intro w' hw'; go_simp; try (with_reducible rfl))
          simp only [Act.put]; try simp only [List.setIfInBounds_toArray]; try simp only [List.set_cons_zero, List.set_cons_succ]
          refine wpAnyL_take (i := 17) (d := some 143) (v := ?vari17) rfl rfl (by kernel_rfl) (by kernel_rfl) (by kernel_rfl) (fun _ _ _ h => h) (by rfl) ?yari17 ?_
          case yari17 => (intro w' hw'; have e1 := (A8.out.later (HB2.out.trans (Below.mono hw' HB2.out.size))).cell1; go_simp; try (with_reducible rfl))
          simp only [Act.put]; try simp only [List.setIfInBounds_toArray]; try simp only [List.set_cons_zero, List.set_cons_succ]
          refine wpAnyL_take (i := 19) (d := some 145) (v := ?vari19) rfl rfl (by kernel_rfl) (by kernel_rfl) (by kernel_rfl) (fun _ _ _ h => h) (by rfl) ?yari19 ?_
          case yari19 => (intro w' hw'; go_simp; try (with_reducible rfl))
          simp only [Act.put]; try simp only [List.setIfInBounds_toArray]; try simp only [List.set_cons_zero, List.set_cons_succ]
          refine wpAnyL_take (i := 20) (d := some 146) (v := ?vari20) rfl rfl (by kernel_rfl) (by kernel_rfl) (by kernel_rfl) (fun _ _ _ h => h) (by rfl) ?yari20 ?_
          case yari20 => (intro w' hw'; go_simp; try (with_reducible rfl))
          simp only [Act.put]; try simp only [List.setIfInBounds_toArray]; try simp only [List.set_cons_zero, List.set_cons_succ]
          refine wpAnyL_take (i := 21) (d := some 147) (v := ?vari21) rfl rfl (by kernel_rfl) (by kernel_rfl) (by kernel_rfl) (fun _ _ _ h => h) (by rfl) ?yari21 ?_
          case yari21 => (intro w' hw'; have e1 := (A8.out.later (HB2.out.trans (Below.mono hw' HB2.out.size))).cell1; go_simp; try (with_reducible rfl))
          simp only [Act.put]; try simp only [List.setIfInBounds_toArray]; try simp only [List.set_cons_zero, List.set_cons_succ]
          refine wpAnyL_only (i := 18) rfl (by kernel_rfl) (by rfl) fun K hK => ?_
          go_simp
          refine (own_last P2.out a.client).mono ?_
          rw [HL1.out]
          rintro e v3 ⟨rfl, p3, hb3⟩
          have P3 := hide p3
          have HB3 := hide (HB2.out.trans (hb3.mono HB2.out.size))
          refine hK.out _ _ hb3 ?_
          clear p3 hb3
          clear hK K
          try (simp only [Act.put]; try simp only [List.setIfInBounds_toArray]; try simp only [List.set_cons_zero, List.set_cons_succ])
          refine wpAnyL_only (i := 22) rfl (by kernel_rfl) (by rfl) fun K hK => ?_
          go_simp
          refine (own_done P3.out a.client).mono ?_
          rw [HD1.out]
          rintro e v4 ⟨rfl, p4, hb4⟩
          have P4 := hide p4
          refine hK.out _ _ hb4 ?_
          clear p4 hb4
          clear hK K
          try (simp only [Act.put]; try simp only [List.setIfInBounds_toArray]; try simp only [List.set_cons_zero, List.set_cons_succ])
          refine wpAnyL_take (i := 23) (d := some 149) (v := .bool false) rfl rfl (by kernel_rfl) (by kernel_rfl) (by kernel_rfl) (fun _ _ _ h => h) (by rfl) ?yari23 ?_
          case yari23 => (intro w' hw'; have hb := B3.out; go_simp; try (with_reducible rfl))
          simp only [Act.put]; try simp only [List.setIfInBounds_toArray]; try simp only [List.set_cons_zero, List.set_cons_succ]
          refine wpAnyL_take (i := 24) (d := some 150) (v := ?vari24) rfl rfl (by kernel_rfl) (by kernel_rfl) (by kernel_rfl) (fun _ _ _ h => h) (by rfl) ?yari24 ?_
          case yari24 => (intro w' hw'; go_simp; try (with_reducible rfl))
          simp only [Act.put]; try simp only [List.setIfInBounds_toArray]; try simp only [List.set_cons_zero, List.set_cons_succ]
          refine wpAnyL_done (by kernel_rfl) ?_ _
          go_wp2
          go_roundw
          case rel => exact ⟨k + 1, _, by go_num, by omega, HI.out, P4.out⟩
          case measure => simp [intOf]; omega
          
      · have hlt : decide (k < n') = false := by simpa using hkn
        go_wp2_with (fail)
        refine (lives_any _).mono ?_
        rintro e w2 ⟨rfl, hb2⟩
        have HL := hide (HO.out.later hb2)
        clear hb2
        go_wp2
        go_ret
        exact ⟨rfl, HL.out.2.2⟩
end Go.Proofs.Ytmakibpbodfchaa
