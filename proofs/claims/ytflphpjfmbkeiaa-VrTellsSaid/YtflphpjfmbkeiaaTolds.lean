/- The walks over lastTold and Recovered of package vr: of each node its last answer, and what is gone on from. -/
import Derived.Test.YtflphpjfmbkeiaaTold
import Derived.Test.YtflphpjfmbkeiaaMsgV
import Derived.Test.YtflphpjfmbkeiaaGrown
import Derived.Test.YtflphpjfmbkeiaaOrder
import Derived.Test.YtflphpjfmbkeiaaCopyRel
import Derived.Maps.OwnSet
import Derived.Maps.RangeWalk
import Derived.Lib.MinMax
namespace Go.Proofs.Ytflphpjfmbkeiaa
open Go.RowKit
open Go.Maps (Keyed int_keyed)
open Go

theorem Try.int_law : Keyed Try.prog 3 := int_keyed Try.underlying3
theorem wf_i64 {x : Int} (h : I64 x) : (Lit.int .i64 x).wf = true := by
  unfold I64 at h
  simp [Lit.wf, IntKind.min, IntKind.max, IntKind.signed, IntKind.bits]
  omega
theorem key_i64 {x : Int} (h : I64 x) : keyOf Try.prog 3 (.int .i64 x) = some (.int .i64 x)   := Maps.keyOf_int_mk Try.underlying3 (wf_i64 h)

/-- The call's own map of places. -/
def MapAt (w : World) (b n : Nat) (t : List (Int × Nat)) : Prop := w.ownsMap (H := Unit) Try.prog 3 (plainElem Try.prog 3) b n (mapT t)

set_option maxHeartbeats 2000000 in
set_option maxRecDepth 100000 in
theorem told_any {F : Nat → Prop} {w : World} {v : Value} {ps : List MsgV} {nonce : Int} (h : MsgsIn F w v ps) (hn : ps.length ≤ 1000000) (hs : ∀ p ∈ ps, I64 p.m.src) :
    Calls Try.prog 34 #[v, .int .i64 nonce] w fun e w' => e = .returned (.map (some w.heap.size)) ∧ MapAt w' w.heap.size ps.length (toldT (ps.map MsgV.m) nonce ps.length) ∧ Later w w' := by
  obtain ⟨A, cap, rfl, _, _, _⟩ := FlatAt.shape h.1
  obtain ⟨n, hn1⟩ : ∃ n, ps.length = n := ⟨_, rfl⟩
  have HN := hide hn1
  have HS := hide hs
  rw [hn1] at h hn ⊢
  have HM := hide h
  have hmm := @run_makeMap Try.prog
  clear h hs hn1
  go_enter Try.func34, Try.ntmps34
  go_wp2
  go_loopw [10] (fun j wr => ∃ q : Nat, q ≤ n ∧ j = .int .i64 (q : Int) ∧ MapAt wr w.heap.size q (toldT (ps.map MsgV.m) nonce q) ∧ Later w wr) (fun j _ => n - (Go.RowKit.intOf j).toNat)
  case atStart => exact ⟨0, by omega, rfl, World.ownsMap_made _ _ _ _, (Below.refl _ _).alloc (Nat.le_refl _) _⟩
  case round =>
    obtain ⟨q, hq, rfl, hown, hb⟩ := hrel
    have HO := hide hown
    have HB := hide hb
    clear hown hb
    by_cases hlt : q < n
    · obtain ⟨p, b, off, c', hx, hv, _, _, _, hr, _⟩ := MsgsIn.at_ (MsgsIn.kept (by rw [← HN.out] at HM; exact HM.out) (Kept.of_below HB.out _)) (k := q) (by rw [HN.out]; exact hlt)
      obtain ⟨rfl, rfl⟩ : A = some ⟨b, off, none⟩ ∧ cap = c' := by injection hv with e1 _ e3; exact ⟨e1, e3⟩
      have r0 := hr 0 (.int .i64 p.m.kind) (by rfl)
      have r1 := hr 1 (.int .i64 p.m.src) (by rfl)
      have r7 := hr 7 (.int .i64 p.m.nonce) (by rfl)
      rw [Nat.add_zero] at r0
      have hl : (ps.map MsgV.m)[q]? = some p.m := by rw [List.getElem?_map, hx]; rfl
      have hsrc := HS.out p (List.mem_of_getElem? hx)
      have HK := hide (key_i64 hsrc)
      have HL := hide hl
      obtain ⟨m, ms, mo, mi⟩ := p
      simp only at r0 r1 r7 HK HL
      obtain ⟨kd, hkd⟩ : ∃ kd, m.kind = kd := ⟨_, rfl⟩
      obtain ⟨sr, hsr⟩ : ∃ sr, m.src = sr := ⟨_, rfl⟩
      obtain ⟨nc, hnc⟩ : ∃ nc, m.nonce = nc := ⟨_, rfl⟩
      rw [hkd] at r0
      rw [hsr] at r1 HK
      rw [hnc] at r7
      have HKD := hide hkd
      have HSR := hide hsr
      have HNC := hide hnc
      clear hx hv hr hl hsrc hkd hsr hnc
      by_cases h1 : kd = 10
      · subst h1
        by_cases h2 : nc = nonce
        · subst h2
          have hhit : hitB nc m = true := by simp [hitB, HKD.out, HNC.out]
          have HT := hide (toldT_hit HL.out hhit)
          rw [HSR.out] at HT
          have e2 : (nc == nc) = true := by simp
          clear hhit
          go_wp2_with (at_mapUpdate; refine wpList_mapUpdate_own _ rfl _ _ _ 66 rfl 3 3 Try.int_law Try.underlying66 _ w.heap.size q _ rfl HO.out (by unfold maxLen; omega) _ _ _ rfl rfl HK.out _ [] (plainElem_int Try.underlying3 (wf_i64 (show I64 (q : Int) from ⟨by omega, by omega⟩))) ?_; intro w1 hown1 hg1)
          have h3 : MapAt w1 w.heap.size (q + 1) (toldT (ps.map MsgV.m) nc (q + 1)) := by
            rw [HT.out]
            unfold MapAt
            rw [← put_mapT]
            exact hown1
          have HO1 := hide h3
          have HB1 : Hid (Later w w1) := Below.grown HB.out hg1 (by have := HO.out.lt; omega) (fun k hk => by have := Option.some.inj hk; omega)
          clear hown1 hg1 h3
          go_wp2
          go_roundw
          case rel => exact ⟨q + 1, by omega, by go_num, HO1.out, HB1.out⟩
          case measure => simp [Go.RowKit.intOf]; omega
        · have hhit : hitB nonce m = false := by simp [hitB, HKD.out, HNC.out, h2]
          have HT := hide (toldT_miss HL.out hhit)
          have e2 : (nc == nonce) = false := by simpa using h2
          clear hhit h2
          go_wp2
          go_roundw
          case rel => exact ⟨q + 1, by omega, by go_num, by rw [HT.out]; exact World.ownsMap.mono HO.out (by omega), HB.out⟩
          case measure => simp [Go.RowKit.intOf]; omega
      · have hhit : hitB nonce m = false := by simp [hitB, HKD.out, h1]
        have HT := hide (toldT_miss HL.out hhit)
        have e1 : (kd == 10) = false := by simpa using h1
        clear hhit h1
        go_wp2
        go_roundw
        case rel => exact ⟨q + 1, by omega, by go_num, by rw [HT.out]; exact World.ownsMap.mono HO.out (by omega), HB.out⟩
        case measure => simp [Go.RowKit.intOf]; omega
    · obtain rfl : q = n := by omega
      go_wp2
      go_ret
      exact ⟨rfl, HO.out, HB.out⟩

theorem lead_fit (v n : Int) : 0 ≤ leadI v n ∧ leadI v n ≤ 5 := by
  unfold leadI
  split
  · rename_i h
    obtain ⟨h1, h2⟩ := okN_iff.1 (by simpa using (Bool.and_eq_true _ _ ▸ h : _ ∧ _).2)
    have h3 := Int.emod_nonneg v (show n ≠ 0 by omega)
    have h4 := Int.emod_lt_of_pos v (show 0 < n by omega)
    omega
  · omega
theorem faul_fit (n : Int) : 0 ≤ faulI n ∧ faulI n ≤ 2 := by
  unfold faulI
  split
  · rename_i h
    obtain ⟨h1, h2⟩ := okN_iff.1 h
    omega
  · omega
theorem has_find (t : List (Int × Nat)) (x : Int) : Maps.has (mapT (H := Unit) t) (.int .i64 x) = (t.find? (fun p => p.1 == x)).isSome := by
  rw [has_mapT, Bool.eq_iff_iff, List.find?_isSome]
  simp [List.any_eq_true]
theorem find_at {t : List (Int × Nat)} {x c : Int} (h : ∀ zd : DataW Unit, (mapT t).atKey (.int .i64 x) zd = .lit (.int .i64 c)) : ∃ p ∈ t, p.1 = x ∧ c = (p.2 : Int) := by
  have h1 := h .nil
  rw [at_mapT] at h1
  cases hf : t.find? (fun p => p.1 == x) with
  | none => rw [hf] at h1; cases h1
  | some p =>
    rw [hf] at h1
    refine ⟨p, List.mem_of_find?_eq_some hf, by simpa using List.find?_some hf, ?_⟩
    simp only [DataW.lit.injEq, Lit.int.injEq, true_and] at h1
    exact h1.symm
/-- How far the greatest view is known: of those that have come. -/
def Tops (l : List MsgD) (t : List (Int × Nat)) (left : Lit → Bool) (g : Int) : Prop := -1 ≤ g ∧ (∀ p ∈ t, left (.int .i64 p.1) = false → vAt l p.2 ≤ g) ∧ (g = -1 ∨ ∃ p ∈ t, g = vAt l p.2)
theorem Tops.start (l : List MsgD) (t : List (Int × Nat)) : Tops l t (Maps.has (mapT (H := Unit) t)) (-1) := by
  refine ⟨by omega, fun p hp h => ?_, .inl rfl⟩
  rw [has_mapT] at h
  have := List.any_eq_false.1 h p hp
  simp at this
theorem Tops.next {l : List MsgD} {t : List (Int × Nat)} {left : Lit → Bool} {g : Int} {p : Int × Nat} (h : Tops l t left g) (hp : p ∈ t) (hu : ∀ q ∈ t, q.1 = p.1 → q = p) :
    Tops l t (fun z => left z && !z.sameKey (.int .i64 p.1)) (max g (vAt l p.2)) := by
  obtain ⟨h1, h2, h3⟩ := h
  refine ⟨by omega, fun q hq hl => ?_, ?_⟩
  · by_cases hx : q.1 = p.1
    · rw [hu q hq hx]; omega
    · have : left (.int .i64 q.1) = false := by simpa [Lit.sameKey, hx] using hl
      have := h2 q hq this
      omega
  · by_cases hg : vAt l p.2 ≤ g
    · rw [show max g (vAt l p.2) = g by omega]; exact h3
    · exact .inr ⟨p, hp, by omega⟩
theorem Tops.end_ {l : List MsgD} {t : List (Int × Nat)} {left : Lit → Bool} {g : Int} (h : Tops l t left g) (hl : ∀ kl, left kl = false) : topV l t = g := topV_is h.1 (fun p hp => h.2.1 p hp (hl _)) h.2.2

set_option maxHeartbeats 4000000 in
set_option maxRecDepth 100000 in
theorem recovered_any {F : Nat → Prop} {w : World} {v : Value} {ps : List MsgV} {nonce n : Int} (h : MsgsIn F w v ps) (hn : ps.length ≤ 1000000) (hs : ∀ p ∈ ps, I64 p.m.src) :
    Calls Try.prog 21 #[v, .int .i64 nonce, .int .i64 n] w fun e w' => e = .returned (.tuple #[.int .i64 (recV (ps.map MsgV.m) nonce n).1, .bool (recV (ps.map MsgV.m) nonce n).2]) ∧ Later w w' := by
  have CT := hide (told_any (nonce := nonce) h hn hs)
  obtain ⟨A, cap, rfl, _, hcap, hcap2⟩ := FlatAt.shape h.1
  have HM := hide h
  obtain ⟨T, hT⟩ : ∃ T, toldT (ps.map MsgV.m) nonce ps.length = T := ⟨_, rfl⟩
  have HTM : Hid (∀ p ∈ T, p.2 < ps.length) := fun p hp => by rw [← hT] at hp; exact (toldT_mem hp).1
  have HTU : Hid (∀ p ∈ T, ∀ q ∈ T, p.1 = q.1 → p = q) := fun p hp q hq e => by rw [← hT] at hp hq; exact toldT_uniq hp hq e
  have hrec : recV (ps.map MsgV.m) nonce n = recW (ps.map MsgV.m) T n := by rw [recV, List.length_map, hT]
  rw [hT] at CT
  rw [hrec]
  obtain ⟨N, hN⟩ : ∃ N, ps.length = N := ⟨_, rfl⟩
  have HN := hide hN
  rw [hN] at CT hn ⊢
  clear h hs hT hrec hN
  go_enter Try.func21, Try.ntmps21
  go_wp2_with (fail)
  refine CT.out.mono ?_
  rintro e w1 ⟨rfl, hm1, hl1⟩
  have HM1 := hide hm1
  have HL1 := hide hl1
  clear hm1 hl1 CT
  obtain ⟨f, hf, hf0, hf2⟩ : ∃ f, faulI n = f ∧ 0 ≤ f ∧ f ≤ 2 := ⟨_, rfl, faul_fit n⟩
  have FA : Hid (∀ w, Calls Try.prog 35 #[.int .i64 n] w fun e w' => e = .returned (.int .i64 f) ∧ w = w') := fun w => by rw [← hf]; exact faults_any n w
  have HF := hide hf
  clear hf
  go_wp2_with (at_len; refine wpList_len_own _ rfl _ 66 rfl 3 3 Try.underlying66 _ w.heap.size N _ rfl HM1.out ?_)
  refine (FA.out _).mono ?_
  rintro e w2 ⟨rfl, rfl⟩
  rw [size_mapT]
  by_cases hfew : ((T.length : Nat) : Int) < f + 1
  · have HRF := hide (recW_few (l := ps.map MsgV.m) (by rw [HF.out]; exact hfew))
    have hd : decide (((T.length : Nat) : Int) < f + 1) = true := by simpa using hfew
    clear hfew
    go_wp2
    go_ret2
    exact ⟨by rw [HRF.out]; rfl, HL1.out⟩
  · have HFEW := hide hfew
    have hd : decide (((T.length : Nat) : Int) < f + 1) = false := by simpa using hfew
    clear hfew
    have HIN : Hid (∀ p ∈ T, p.2 < N) := fun p hp => by have := HTM.out p hp; rw [HN.out] at this; exact this
    have hR : w.heap.size ≤ w1.heap.size := Below.size HL1.out
    obtain ⟨R, hRR⟩ : ∃ R, w1.heap.size = R := ⟨_, rfl⟩
    have hR2 : w.heap.size ≤ R := by omega
    have HRR := hide hRR
    clear hRR
    go_wp2_with (at_range; refine wpList_range_own _ rfl _ 66 rfl 3 3 Try.int_law Try.underlying66 _ w.heap.size N _ rfl HM1.out ?_; rw [HRR.out]; intro w2 hrg0 hg0 hs0)
    have HG0 : Hid (Later w w2) := Below.grown HL1.out hg0 hR (fun k hk => by cases hk)
    have HRG0 := hide hrg0
    clear hrg0 hg0 hs0
    go_frame
    go_loopw [9] (fun g wr => ∃ (x : Int) (left : Lit → Bool) (cnt : Nat), g = .int .i64 x ∧ wr.ranges (H := Unit) Try.prog 3 (plainElem Try.prog 3) w.heap.size R N (mapT T) left cnt ∧ Tops (ps.map MsgV.m) T left x ∧ Later w wr) (fun _ wr => wr.rangeLeft w.heap.size R)
    case atStart => exact ⟨-1, _, _, rfl, HRG0.out, Tops.start _ _, HG0.out⟩
    case round =>
      obtain ⟨g, left, cnt, rfl, hrg, htop, hb⟩ := hrel
      have HRG := hide hrg
      have HTOP := hide htop
      have HB := hide hb
      clear hrg htop hb HRG0 HG0
      go_wp2_with (at_next; refine wpList_next_ranges_ii _ rfl _ rfl 3 3 .i64 .i64 Try.int_law Try.underlying3 Try.underlying3 w.heap.size R N _ _ _ rfl HRG.out ?_ ?_)
      · intro _ hl0
        have HTV := hide (HTOP.out.end_ hl0)
        have HOWN := hide (World.ranges.owns HRG.out)
        obtain ⟨L, hL, hL0, hL5⟩ : ∃ L, leadI g n = L ∧ 0 ≤ L ∧ L ≤ 5 := ⟨_, rfl, lead_fit g n⟩
        have LA : Hid (∀ w, Calls Try.prog 36 #[.int .i64 g, .int .i64 n] w fun e w' => e = .returned (.int .i64 L) ∧ w = w') := fun w => by rw [← hL]; exact leader_any g n w
        have HLE := hide hL
        have HKL := hide (key_i64 (x := L) ⟨by omega, by omega⟩)
        clear hL hl0 HTOP HRG
        go_wp2_with (fail)
        refine (LA.out _).mono ?_
        rintro e w3 ⟨rfl, rfl⟩
        by_cases hz : L = 0
        · have HRF := hide (recW_zero (n := n) HTV.out (by rw [HLE.out]; exact hz))
          subst hz
          have e0 : ((0 : Int) == 0) = true := rfl
          obtain ⟨hh, hhh⟩ : ∃ hh, Maps.has (mapT (H := Unit) T) (.int .i64 0) = hh := ⟨_, rfl⟩
          have HH := hide hhh
          clear hhh
          go_wp2_with (at_lookup; refine wpList_lookup_own_ok_int _ rfl _ _ 66 rfl 3 3 .i64 Try.int_law Try.underlying66 Try.underlying3 (by rfl) w.heap.size N _ rfl HOWN.out _ _ rfl HKL.out ?_; rw [HH.out]; intro c hat hwc)
          go_wp2
          go_ret2
          exact ⟨by rw [HRF.out]; rfl, HB.out⟩
        · have e0 : (L == 0) = false := by simpa using hz
          have hhas := has_find T L
          cases hf : T.find? (fun p => p.1 == L) with
          | none =>
            have HRF := hide (recW_none (l := ps.map MsgV.m) (n := n) HTV.out (by rw [HLE.out]; exact hf))
            rw [hf] at hhas
            have HH : Hid (Maps.has (mapT (H := Unit) T) (.int .i64 L) = false) := hhas
            clear hhas hf hz
            go_wp2_with (at_lookup; refine wpList_lookup_own_ok_int _ rfl _ _ 66 rfl 3 3 .i64 Try.int_law Try.underlying66 Try.underlying3 (by rfl) w.heap.size N _ rfl HOWN.out _ _ rfl HKL.out ?_; rw [HH.out]; intro c hat hwc)
            go_wp2
            go_ret2
            exact ⟨by rw [HRF.out]; rfl, HB.out⟩
          | some p =>
            have hfew := HFEW.out
            rw [← HF.out] at hfew
            have hrf := recW_some (l := ps.map MsgV.m) (n := n) (Int.not_lt.mpr hfew) HTV.out (by rw [HLE.out]; exact hf)
            rw [HLE.out] at hrf
            rw [hf] at hhas
            have HH : Hid (Maps.has (mapT (H := Unit) T) (.int .i64 L) = true) := hhas
            have HAT : Hid (∀ zd : DataW Unit, (mapT T).atKey (.int .i64 L) zd = .lit (.int .i64 (p.2 : Int))) := fun zd => by rw [at_mapT, hf]
            have hpn := HIN.out p (List.mem_of_find?_eq_some hf)
            obtain ⟨m, b, off, c', hx, hv, _, _, _, hr, _⟩ := MsgsIn.at_ (MsgsIn.kept HM.out (Kept.of_below HB.out _)) (k := p.2) (by rw [HN.out]; exact hpn)
            rw [HN.out] at hv
            obtain ⟨rfl, rfl⟩ : A = some ⟨b, off, none⟩ ∧ cap = c' := by injection hv with e1 _ e3; exact ⟨e1, e3⟩
            have r3 := hr 3 (.int .i64 m.m.view) (by rfl)
            have r9 := hr 9 (.bool m.m.lead) (by rfl)
            rw [show vAt (ps.map MsgV.m) p.2 = m.m.view from by simp [vAt, hx], show lAt (ps.map MsgV.m) p.2 = m.m.lead from by simp [lAt, hx]] at hrf
            generalize m.m.view = vw at r3 hrf
            generalize m.m.lead = ld at r9 hrf
            obtain ⟨px, pi⟩ := p
            simp only at r3 r9 hpn hrf HAT
            have HZ := hide hz
            clear hhas hf hx hv hr hz hfew
            by_cases hvg : vw = g
            · subst hvg
              have e1 : (vw != vw) = false := by simp
              cases ld with
              | true =>
                have HRF : Hid (recW (ps.map MsgV.m) T n = ((pi : Int), true)) := by show _ = _; rw [hrf, if_neg (by simp [HZ.out])]
                clear hrf
                go_wp2_with (at_lookup; refine wpList_lookup_own_ok_int _ rfl _ _ 66 rfl 3 3 .i64 Try.int_law Try.underlying66 Try.underlying3 (by rfl) w.heap.size N _ rfl HOWN.out _ _ rfl HKL.out ?_; rw [HH.out]; intro c hat hwc; obtain rfl : c = (pi : Int) := by have h := hat; rw [HAT.out] at h; simpa using h.symm)
                go_wp2
                go_ret2
                exact ⟨by rw [HRF.out]; rfl, HB.out⟩
              | false =>
                have HRF : Hid (recW (ps.map MsgV.m) T n = (0, false)) := by show _ = _; rw [hrf, if_pos (by simp)]
                clear hrf
                go_wp2_with (at_lookup; refine wpList_lookup_own_ok_int _ rfl _ _ 66 rfl 3 3 .i64 Try.int_law Try.underlying66 Try.underlying3 (by rfl) w.heap.size N _ rfl HOWN.out _ _ rfl HKL.out ?_; rw [HH.out]; intro c hat hwc; obtain rfl : c = (pi : Int) := by have h := hat; rw [HAT.out] at h; simpa using h.symm)
                go_wp2
                go_ret2
                exact ⟨by rw [HRF.out]; rfl, HB.out⟩
            · have HRF : Hid (recW (ps.map MsgV.m) T n = (0, false)) := by show _ = _; rw [hrf, if_pos (by simp [hvg])]
              have e1 : (vw != g) = true := by simpa using hvg
              clear hrf hvg
              go_wp2_with (at_lookup; refine wpList_lookup_own_ok_int _ rfl _ _ 66 rfl 3 3 .i64 Try.int_law Try.underlying66 Try.underlying3 (by rfl) w.heap.size N _ rfl HOWN.out _ _ rfl HKL.out ?_; rw [HH.out]; intro c hat hwc; obtain rfl : c = (pi : Int) := by have h := hat; rw [HAT.out] at h; simpa using h.symm)
              go_wp2
              go_ret2
              exact ⟨by rw [HRF.out]; rfl, HB.out⟩
      · intro x c w3 cnt3 hwx hwc hlx hat hrg3 hlt hg3 hs3 hen
        obtain ⟨p, hp, hpx, rfl⟩ := find_at hat
        subst hpx
        have HRG3 := hide hrg3
        have HB3 : Hid (Later w w3) := Below.grown HB.out hg3 (Below.size HB.out) (fun k hk => by have := Option.some.inj hk; omega)
        have hpn := HIN.out p hp
        have HT3 := hide (HTOP.out.next hp (fun q hq e => HTU.out q hq p hp e))
        have hltc := hlt
        obtain ⟨m, b, off, c', hx, hv, _, _, _, hr, _⟩ := MsgsIn.at_ (MsgsIn.kept HM.out (Kept.of_below HB3.out _)) (k := p.2) (by rw [HN.out]; exact hpn)
        rw [HN.out] at hv
        obtain ⟨rfl, rfl⟩ : A = some ⟨b, off, none⟩ ∧ cap = c' := by injection hv with e1 _ e3; exact ⟨e1, e3⟩
        have r3 := hr 3 (.int .i64 m.m.view) (by rfl)
        have hvv : vAt (ps.map MsgV.m) p.2 = m.m.view := by simp [vAt, hx]
        rw [hvv] at HT3
        generalize m.m.view = vw at r3 HT3
        obtain ⟨px, pi⟩ := p
        simp only at r3 hpn HT3 HRG3 hen
        clear hat hrg3 hx hv hr hg3 hs3 hvv hwx hwc hlx hp HTOP
        go_wp2
        go_roundw
        case rel => exact ⟨_, _, _, rfl, HRG3.out, HT3.out, HB3.out⟩
        case measure => rw [HRG3.out.left_eq, HRG.out.left_eq]; omega
end Go.Proofs.Ytflphpjfmbkeiaa
