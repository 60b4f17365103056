/- The walks over envelope's putSum, startsCount, size, bounds. -/
import Derived.Test.YtjbnilippcdgeaaDoorEnvMath
import Derived.Test.YtjbnilippcdgeaaDoorPut
import Derived.Test.YtjbnilippcdgeaaDoorGet
import Derived.Test.YtjbnilippcdgeaaDoorCut
import Derived.Test.YtjbnilippcdgeaaDoorSum
namespace Go.Proofs.YtjbnilippcdgeaaDoor
open Go.RowKit

def fourF : Nat → Nat → List Nat
  | 0, _ => []
  | f + 1, s => s % 256 :: fourF f (s / 256)
/-- What the walk of putSum holds. -/
def FourAt (S i s : Nat) (k : List Nat) : Prop := i ≤ 4 ∧ s < 4294967296 ∧ four S = k ++ fourF (4 - i) s ∧ k.length = i
theorem fourAt_start {S : Nat} (h : S < 4294967296) : FourAt S 0 S [] := by
  refine ⟨by omega, h, ?_, rfl⟩
  simp [four, fourF, Nat.div_div_eq_div_mul]
theorem FourAt.small {S i s : Nat} {k : List Nat} (h : FourAt S i s k) : i ≤ 4 ∧ s < 4294967296 ∧ k.length = i := ⟨h.1, h.2.1, h.2.2.2⟩
theorem FourAt.next {S i s : Nat} {k : List Nat} (h : FourAt S i s k) (hi : i < 4) : FourAt S (i + 1) (s / 256) (k ++ [s % 256]) := by
  refine ⟨by omega, by have := h.2.1; omega, ?_, by simp [h.2.2.2]⟩
  rw [h.2.2.1, show 4 - i = (4 - (i + 1)) + 1 by omega]
  simp [fourF]
theorem FourAt.all {S i s : Nat} {k : List Nat} (h : FourAt S i s k) (hi : ¬ i < 4) : four S = k := by
  rw [h.2.2.1, show 4 - i = 0 by omega]
  simp [fourF]

set_option maxHeartbeats 400000 in
theorem putsum_any (base n S : Nat) (bv0 : Value) (l : List Nat) (w : World) (hS : S < 4294967296) (hn : n ≤ 1099511627776) (hbase : base ≤ w.heap.size)
    (ho : w.ownsRow base 5 1 bv0 n (bvs l)) :
    Calls Tryd.prog 14 #[bv0, .int .u32 S] w fun e w' => ∃ v', e = .returned v' ∧ w'.ownsRow base 5 1 v' (n + 4) (bvs (l ++ four S)) ∧ Went w bv0.ownBlock w' v'.ownBlock := by
  have HS := hide hS
  clear hS
  obtain ⟨i0, hi, hz0, hz1, hz2⟩ := info_parts Tryd.infoU8
  go_enter Tryd.func14, Tryd.ntmps14
  go_wp2
  go_loopw [0, 1, 5] (fun b vv vi wr => ∃ (i s : Nat) (k : List Nat), FourAt S i s k ∧ vv = .int .u32 s ∧ vi = .int .i64 i ∧ wr.ownsRow base 5 1 b (n + i) (bvs (l ++ k)) ∧ Went w bv0.ownBlock wr b.ownBlock) (fun _ _ vi _ => 4 - (intOf vi).toNat)
  case atStart => exact ⟨0, S, [], fourAt_start HS.out, rfl, rfl, by simpa using ho, Went.refl _ _⟩
  case round =>
    obtain ⟨i, s, k, hat, rfl, rfl, hown, hbel⟩ := hrel
    obtain ⟨hi4, hs, hkl⟩ := hat.small
    have hsz := hbel.size
    have Hat := hide hat
    clear hat
    by_cases h : i < 4
    · have hnext := Hat.out.next h
      obtain ⟨g, hg⟩ : ∃ g, g = s % 256 := ⟨_, rfl⟩
      have hgs : g < 256 := by omega
      have hgi : (s : Int) % 256 = (g : Int) := by omega
      rw [← hg] at hnext
      have Hnext := hide hnext
      have Hg := hide hg
      clear hnext hg
      go_wp2_with (at_builtin; refine wpList_append_own_at _ rfl (.tmp 7) (.tmp 10) 22 rfl base 5 i0 _ 1 1 Tryd.underlying22 hi hz0 hz1 hz2 rfl (by omega) _ (n + i) (bvs (l ++ k)) rfl (hown.alloc _) ⟨wr.heap.size, 0, none⟩ 1 1 (bvs [g]) rfl rfl (cell_one_new _ _ _) (bvs_cell _) (by simp only [maxLen]; omega) (by omega) (by simp; omega) ?_; intro v1 w1 hown1 hg1 _ hat1)
      go_roundw
      case rel =>
        refine ⟨i + 1, s / 256, k ++ [g], Hnext.out, by go_num, by go_num, ?_, (hbel.alloc _).trans (.of_at hg1 hat1)⟩
        rw [← List.append_assoc, bvs_append]
        exact hown1
      case measure => simp [intOf]; omega
    · have e4 := Hat.out.all h
      have : i = 4 := by omega
      subst this
      go_wp2
      go_ret
      rw [e4]
      exact ⟨_, rfl, hown, hbel⟩

def HighAt (l : List Nat) (n k : Nat) : Prop := k ≤ n ∧ l.length = n ∧ n ≤ 9 ∧ (∀ x ∈ l.take k, 128 ≤ x)
theorem HighAt.next {l : List Nat} {n k : Nat} (h : HighAt l n k) (hk : k < n) (hx : 128 ≤ l.getD k 0) : HighAt l n (k + 1) := by
  have hk' : k < l.length := by rw [h.2.1]; exact hk
  refine ⟨hk, h.2.1, h.2.2.1, fun x hm => ?_⟩
  rw [List.take_succ_eq_append_getElem hk', List.mem_append] at hm
  rcases hm with hm | hm
  · exact h.2.2.2 x hm
  · simp only [List.mem_singleton] at hm
    rw [hm]
    simpa [List.getD, hk'] using hx
theorem HighAt.no {l : List Nat} {n k : Nat} (h : HighAt l n k) (hk : k < n) (hx : l.getD k 0 < 128) : false = high l := by
  have hk' : k < l.length := by rw [h.2.1]; exact hk
  symm
  unfold high
  rw [Bool.and_eq_false_iff]
  right
  rw [List.all_eq_false]
  exact ⟨l[k], List.getElem_mem hk', by simpa [List.getD, hk'] using hx⟩
theorem HighAt.all {l : List Nat} {n k : Nat} (h : HighAt l n k) (hk : ¬ k < n) : true = high l := by
  have e : l.take k = l := List.take_of_length_le (by have := h.1; have := h.2.1; omega)
  symm
  unfold high
  rw [Bool.and_eq_true]
  refine ⟨by have := h.2.1; have := h.2.2.1; simp; omega, ?_⟩
  rw [List.all_eq_true]
  intro x hx
  rw [← e] at hx
  simpa using h.2.2.2 x hx
theorem high_long {l : List Nat} {n : Nat} (h : l.length = n) (hn : 9 < n) : false = high l := by
  unfold high
  simp
  intro h2
  omega

set_option maxRecDepth 100000 in
theorem starts_any (A : Option Addr) (n c B : Nat) (l : List Nat) (w : World) (hl : Holds w B A n l) (hn : n ≤ 1099511627000) :
    Calls Tryd.prog 24 #[.slice A n c] w fun e w' => e = .returned (.bool (high l)) ∧ w = w' := by
  have Hl := hide hl
  clear hl
  by_cases h9 : 9 < n
  · go_enter Tryd.func24, Tryd.ntmps24
    go_wp2
    go_ret
    exact ⟨ret_bool (high_long Hl.out.1 h9), rfl⟩
  · have G0 := hide (show HighAt l n 0 from ⟨Nat.zero_le _, Hl.out.1, by omega, by simp⟩)
    go_enter Tryd.func24, Tryd.ntmps24
    go_wp2
    go_loop [10] (fun vk => ∃ k : Nat, Hid (HighAt l n k) ∧ vk = .int .i64 k) (fun vk => n - (intOf vk).toNat)
    case atStart => exact ⟨0, G0, rfl⟩
    case round =>
      obtain ⟨k, hat, rfl⟩ := hrel
      have hk := hat.out.1
      by_cases h : k < n
      · obtain ⟨b, off, rfl, _, hcs⟩ := Hl.out.2.2 (by omega)
        have hc := hcs k h
        have hb := Hl.out.byte h
        clear hcs
        by_cases hx : l.getD k 0 < 128
        · have hno := hide (hat.out.no h hx)
          generalize l.getD k 0 = x at hc hb hx
          go_wp2
          go_ret
          exact ⟨ret_bool hno.out, rfl⟩
        · have hnext := hide (hat.out.next h (by omega))
          generalize l.getD k 0 = x at hc hb hx
          go_wp2
          go_round
          case rel => exact ⟨k + 1, hnext, by go_num⟩
          case measure => simp [intOf]; omega
      · have hall := hide (hat.out.all h)
        go_wp2
        go_ret
        exact ⟨ret_bool hall.out, rfl⟩

theorem cnt_1 {l : List Nat} {v k e : Nat} (h : num l 0 0 = (v, k, e)) (hk : k = 0) (hh : high l = true) : cnt l = (0, 0, 3) := by
  unfold cnt
  rw [h, if_pos ⟨hk, hh⟩]
theorem cnt_2 {l : List Nat} {v k e : Nat} (h : num l 0 0 = (v, k, e)) (hk : k = 0) (hh : high l = false) : cnt l = (0, 0, 4) := by
  unfold cnt
  rw [h, if_neg (by simp [hh]), if_pos (Or.inl hk)]
theorem cnt_3 {l : List Nat} {v k e : Nat} (h : num l 0 0 = (v, k, e)) (hk : ¬ k = 0) (hv : 65536 < v) : cnt l = (0, 0, 4) := by
  unfold cnt
  rw [h, if_neg (by simp [hk]), if_pos (Or.inr hv)]
theorem cnt_4 {l : List Nat} {v k e : Nat} (h : num l 0 0 = (v, k, e)) (hk : ¬ k = 0) (hv : ¬ 65536 < v) : cnt l = (v, k, 0) := by
  unfold cnt
  rw [h, if_neg (by simp [hk]), if_neg (by simp [hk]; omega)]

theorem getnum_is (A : Option Addr) (n c B v k e : Nat) (l : List Nat) (w : World) (hl : Holds w B A n l) (hn : n ≤ 1099511627000) (h : num l 0 0 = (v, k, e)) :
    Calls Tryd.prog 23 #[.slice A n c] w fun e w' => e = .returned (.tuple #[.int .u64 v, .int .i64 k]) ∧ w = w' :=
  (getuint_any A n c B l w hl hn).mono fun e w' ⟨h1, h2⟩ => by rw [h] at h1; exact ⟨h1, h2⟩

theorem size_any (A : Option Addr) (n c B : Nat) (l : List Nat) (w : World) (hl : Holds w B A n l) (hn : n ≤ 1099511627000) :
    Calls Tryd.prog 22 #[.slice A n c] w fun e w' => e = .returned (.tuple #[.int .i64 (cnt l).1, .int .i64 (cnt l).2.1, .int .i64 (cnt l).2.2]) ∧ w = w' := by
  obtain ⟨v, k, er, hnum⟩ : ∃ v k er, num l 0 0 = (v, k, er) := ⟨_, _, _, rfl⟩
  have hkb : k ≤ 1099511627000 := by
    have := (num_bound l 0 0).1
    rw [hnum] at this
    have := hl.1
    simp only at *
    omega
  have hst := fun w (hl : Holds w B A n l) => starts_any A n c B l w hl hn
  have Hl := hide hl
  have Hst := hide hst
  clear hl hst
  by_cases hk : k = 0
  · cases hh : high l with
    | true =>
      have hc := cnt_1 hnum hk hh
      rw [hc]
      have Hc := hide hc
      rw [hh] at Hst
      subst hk
      go_enter Tryd.func22, Tryd.ntmps22
      go_wp2_with (fail)
      refine (getnum_is A n c B v 0 er l _ Hl.out hn hnum).mono ?_
      rintro e w1 ⟨rfl, rfl⟩
      go_wp2_with (fail)
      refine (Hst.out _ Hl.out).mono ?_
      rintro e w1 ⟨rfl, rfl⟩
      go_wp2
      go_ret3
      exact ⟨rfl, rfl⟩
    | false =>
      have hc := cnt_2 hnum hk hh
      rw [hc]
      have Hc := hide hc
      rw [hh] at Hst
      subst hk
      go_enter Tryd.func22, Tryd.ntmps22
      go_wp2_with (fail)
      refine (getnum_is A n c B v 0 er l _ Hl.out hn hnum).mono ?_
      rintro e w1 ⟨rfl, rfl⟩
      go_wp2_with (fail)
      refine (Hst.out _ Hl.out).mono ?_
      rintro e w1 ⟨rfl, rfl⟩
      go_wp2
      go_ret3
      exact ⟨rfl, rfl⟩
  · have hk' : ((k : Int) == 0) = false := by simp; omega
    by_cases hv : 65536 < v
    · have hc := cnt_3 hnum hk hv
      rw [hc]
      have Hc := hide hc
      go_enter Tryd.func22, Tryd.ntmps22
      go_wp2_with (fail)
      refine (getnum_is A n c B v k er l _ Hl.out hn hnum).mono ?_
      rintro e w1 ⟨rfl, rfl⟩
      go_wp2
      go_ret3
      exact ⟨rfl, rfl⟩
    · have hc := cnt_4 hnum hk hv
      rw [hc]
      have Hc := hide hc
      go_enter Tryd.func22, Tryd.ntmps22
      go_wp2_with (fail)
      refine (getnum_is A n c B v k er l _ Hl.out hn hnum).mono ?_
      rintro e w1 ⟨rfl, rfl⟩
      go_wp2
      go_ret3
      exact ⟨rfl, rfl⟩

theorem bnd_1 {l : List Nat} (h : l.length = 0) : bnd l = (0, 0, 3) := by unfold bnd; rw [if_pos h]
theorem bnd_2 {l : List Nat} (h : ¬ l.length = 0) (h2 : l.getD 0 0 ≠ 3) : bnd l = (0, 0, 5) := by unfold bnd; rw [if_neg h, if_pos h2]
theorem bnd_3 {l : List Nat} {v k e : Nat} (h : ¬ l.length = 0) (h2 : l.getD 0 0 = 3) (hc : cnt (l.drop 1) = (v, k, e)) (he : e ≠ 0) : bnd l = (0, 0, e) := by
  unfold bnd; rw [hc, if_neg h, if_neg (fun hh => hh h2), if_pos he]
theorem bnd_4 {l : List Nat} {v k e : Nat} (h : ¬ l.length = 0) (h2 : l.getD 0 0 = 3) (hc : cnt (l.drop 1) = (v, k, e)) (he : ¬ e ≠ 0) (hs : l.length < 1 + k + (v + 4)) : bnd l = (0, 0, 3) := by
  unfold bnd; rw [hc, if_neg h, if_neg (fun hh => hh h2), if_neg he, if_pos hs]
theorem bnd_5 {l : List Nat} {v k e : Nat} (h : ¬ l.length = 0) (h2 : l.getD 0 0 = 3) (hc : cnt (l.drop 1) = (v, k, e)) (he : ¬ e ≠ 0) (hs : ¬ l.length < 1 + k + (v + 4)) : bnd l = (1 + k, 1 + k + v, 0) := by
  unfold bnd; rw [hc, if_neg h, if_neg (fun hh => hh h2), if_neg he, if_neg hs]

theorem size_is (A : Option Addr) (n c B v k e : Nat) (l : List Nat) (w : World) (hl : Holds w B A n l) (hn : n ≤ 1099511627000) (h : cnt l = (v, k, e)) :
    Calls Tryd.prog 22 #[.slice A n c] w fun e1 w' => e1 = .returned (.tuple #[.int .i64 v, .int .i64 k, .int .i64 e]) ∧ w = w' :=
  (size_any A n c B l w hl hn).mono fun e w' ⟨h1, h2⟩ => by rw [h] at h1; exact ⟨h1, h2⟩

set_option maxHeartbeats 400000 in
theorem bounds_any (A : Option Addr) (n c B : Nat) (l : List Nat) (w : World) (hl : Holds w B A n l) (hn : n ≤ 1099511627000) (hc : n ≤ c) :
    Calls Tryd.prog 18 #[.slice A n c] w fun e w' => e = .returned (.tuple #[.int .i64 (bnd l).1, .int .i64 (bnd l).2.1, .int .i64 (bnd l).2.2]) ∧ w = w' := by
  have Hl := hide hl
  have hlen := hl.1
  clear hl
  by_cases h0 : n = 0
  · have hb := bnd_1 (l := l) (by omega)
    rw [hb]
    have Hb := hide hb
    subst h0
    clear hlen
    go_enter Tryd.func18, Tryd.ntmps18
    go_wp2
    go_ret3
    exact ⟨rfl, rfl⟩
  · obtain ⟨b, off, rfl, _, hcs⟩ := Hl.out.2.2 (by omega)
    have hcell := hcs 0 (by omega)
    rw [Nat.add_zero] at hcell
    have hbyte := Hl.out.byte (show 0 < n by omega)
    clear hcs
    have hn0 : ((n : Int) == 0) = false := by simp; omega
    by_cases h3 : l.getD 0 0 = 3
    · rw [h3] at hcell
      obtain ⟨v, k, er, hcnt⟩ : ∃ v k er, cnt (l.drop 1) = (v, k, er) := ⟨_, _, _, rfl⟩
      have hfit := cnt_fits (l.drop 1)
      rw [hcnt] at hfit
      simp only [List.length_drop] at hfit
      obtain ⟨A', hA', hcut⟩ := cut_from (some ⟨b, off, none⟩) n c 1 (by omega)
      simp only [show ((1 : Nat) : Int) = 1 from rfl] at hcut
      have hd := Hl.out.drop (k := 1) (cap := c) (by omega) hc A' hA'
      have hsz := hide (size_is A' (n - 1) (c - 1) B v k er (l.drop 1) w hd (by omega) hcnt)
      have hk1 : k ≤ 1099511627000 := by omega
      have hv1 : v ≤ 65536 := hfit.1
      have he1 : er ≤ 4 := hfit.2.2
      have Hcnt := hide hcnt
      have HA' := hide hA'
      clear hcnt hA' hd hbyte
      by_cases he : er ≠ 0
      · have hb := bnd_3 (by omega) h3 Hcnt.out he
        rw [hb]
        have Hb := hide hb
        have H3 := hide h3
        have Hfit := hide hfit
        have he2 : ((er : Int) == 0) = false := by simp; omega
        clear hb h3 hfit
        go_enter Tryd.func18, Tryd.ntmps18
        go_wp2_with (fail)
        refine hsz.out.mono ?_
        rintro e w1 ⟨rfl, rfl⟩
        go_wp2
        go_ret3
        exact ⟨rfl, rfl⟩
      · have he0 : er = 0 := by omega
        by_cases hs : l.length < 1 + k + (v + 4)
        · have hb := bnd_4 (by omega) h3 Hcnt.out he hs
          rw [hb]
          have Hb := hide hb
          have H3 := hide h3
          subst he0
          have hs' : n < 1 + k + (v + 4) := by omega
          have hk2 : k ≤ n - 1 := by omega
          have Hfit := hide hfit
          have Hs := hide hs
          clear hb h3 hfit hs
          go_enter Tryd.func18, Tryd.ntmps18
          go_wp2_with (fail)
          refine hsz.out.mono ?_
          rintro e w1 ⟨rfl, rfl⟩
          go_wp2
          go_ret3
          exact ⟨rfl, rfl⟩
        · have hb := bnd_5 (by omega) h3 Hcnt.out he hs
          rw [hb]
          have Hb := hide hb
          have H3 := hide h3
          subst he0
          have hs' : ¬ n < 1 + k + (v + 4) := by omega
          have Hfit := hide hfit
          have Hs := hide hs
          clear hb h3 hfit hs
          go_enter Tryd.func18, Tryd.ntmps18
          go_wp2_with (fail)
          refine hsz.out.mono ?_
          rintro e w1 ⟨rfl, rfl⟩
          go_wp2
          go_ret3
          exact ⟨ret3 (by omega) (by omega) rfl, rfl⟩
    · have hb := bnd_2 (by omega) h3
      rw [hb]
      have Hb := hide hb
      have h3' : (((l.getD 0 0 : Nat) : Int) == 3) = false := by simp only [beq_eq_false_iff_ne]; omega
      have H3 := hide h3
      clear hb h3
      generalize l.getD 0 0 = x at hcell hbyte h3'
      go_enter Tryd.func18, Tryd.ntmps18
      go_wp2
      go_ret3
      exact ⟨rfl, rfl⟩
end Go.Proofs.YtjbnilippcdgeaaDoor
