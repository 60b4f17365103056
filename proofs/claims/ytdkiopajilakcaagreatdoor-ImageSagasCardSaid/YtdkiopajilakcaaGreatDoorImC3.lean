/- Texts merged: NtSum, NtEnv, Uint, Keep, NtSeal, NtWriters, NtReadersD, NtFind, LexM, DefM, PlanM, SagM, ImgM, Shelf, Rune, Sets, Either, Parts, Parts2, PartI, Name, EqS, OrderT, SameDef, Equal, ChkA, StepB, PlanA, PlanB, PlanD, SagA, SagB, SagH, Clone, ChkB, ChkC, RefB. -/
import Derived.Test.YtdkiopajilakcaaGreatDoorImC1
import Derived.Test.YtdkiopajilakcaaGreatDoorImC2
import Derived.Test.YtdkiopajilakcaaGreatDoorProg
import Derived.Laws.BitsAllLaws
import Derived.Laws.BitsLemmas
import Derived.WalkLawsBesides
import Derived.Handy
import Derived.Laws.Strings2
import Derived.Shelf.Strings.Runes
import Derived.Shelf.Small.Utf8
import Derived.Ground.NamesProg
import Derived.Laws.Runes
import Derived.Lib.OthersKept
import Derived.WalkKit
import Derived.WalkMore
import Derived.RegionTactic
import Derived.BigRegion
import Derived.Laws.EntriesVeiled
import Derived.LoopTactic
import Derived.OwnWalk
import Derived.Laws.StructEq
import Derived.Deep.QuietTactic
import Derived.BigQuiet
import Derived.RangeFuncNested
import Derived.RangeFuncBound
import Derived.RangeFuncCalls
import Derived.RangeFuncLeaves
import Derived.Shelf.Abstract
import Derived.Shelf.RegionOpen
import Derived.OwnWalkIn
import Derived.TacticsInMore
import Derived.LoopNIn
import Derived.LoopIn
import Derived.Lib.MinMax
import Derived.ChangeKeysEq
/- The walks over envelope's half and Sum: the sum by half bytes out of the table. -/
namespace Go.Proofs.YtdkiopajilakcaaGreatDoor
open Go.RowKit

def Tab (w : World) : Prop := 0 < w.heap.size ∧ ∀ i, i < 16 → w.cell? ⟨0, i, none⟩ = some (.int .u32 ((tab.getD i 0 : Nat) : Int))
theorem Tab.below {w w' : World} {B : Nat} (h : Tab w) (hb : Below B w w') (hB : 0 < B) : Tab w' :=
  ⟨Nat.lt_of_lt_of_le h.1 hb.size, fun i hi => by rw [hb.cell (p := ⟨0, i, none⟩) hB]; exact h.2 i hi⟩
theorem Tab.later {w w' : World} (h : Tab w) (hb : Below w.heap.size w w') : Tab w' := h.below hb h.1

theorem half_is {s h : Nat} (hh : h < 16) : st4 (s ^^^ h) = s / 16 ^^^ tab.getD (s % 16 ^^^ h) 0 := by
  have e1 : (s ^^^ h) / 16 = s / 16 := by
    have : h / 16 = 0 := by omega
    have e := Nat.shiftRight_xor_distrib (a := s) (b := h) (i := 4)
    simp only [Nat.shiftRight_eq_div_pow] at e
    rw [show (2 : Nat) ^ 4 = 16 by rfl, this, Nat.xor_zero] at e
    exact e
  have e2 : (s ^^^ h) % 16 = s % 16 ^^^ h := by
    have e := Nat.xor_mod_two_pow (a := s) (b := h) (n := 4)
    rw [show (2 : Nat) ^ 4 = 16 by rfl, Nat.mod_eq_of_lt hh] at e
    exact e
  rw [st4_half, e1, e2]

theorem half_any (s h : Nat) (w : World) (hs : s < 4294967296) (hh : h < 16) (hT : Tab w) :
    Calls Tryz.prog 106 #[.int .u32 s, .int .u8 h] w fun e w' => e = .returned (.int .u32 (st4 (s ^^^ h) : Nat)) ∧ w = w' := by
  obtain ⟨x, hx⟩ : ∃ x, x = s % 16 ^^^ h := ⟨_, rfl⟩
  have hx16 : x < 16 := by rw [hx]; exact Nat.xor_lt_two_pow (n := 4) (by omega) hh
  have e1 : bits .xor .u8 ((s : Int) % 16) (h : Int) = (x : Int) := by
    have := u8_xor_nat (s % 16) h (by omega) (by omega)
    rw [← hx] at this
    exact this
  obtain ⟨T, hTx⟩ : ∃ T, T = tab.getD x 0 := ⟨_, rfl⟩
  have e2 : bits .xor .u32 ((s : Int) / 16) (T : Int) = ((st4 (s ^^^ h) : Nat) : Int) := by
    rw [half_is hh, ← hx, ← hTx]
    exact u32_xor_nat (s / 16) T (by omega) (by rw [hTx]; exact tab_lt x hx16)
  have hc := hT.2 x hx16
  rw [← hTx] at hc
  have HTx := hide hTx
  clear hTx
  have Hx := hide hx
  have HT := hide hT
  clear hx hT
  go_enter Tryz.func106, Tryz.ntmps106
  go_wp2
  go_ret
  exact ⟨rfl, rfl⟩

def SumAt (l : List Nat) (n k s : Nat) : Prop := k ≤ n ∧ l.length = n ∧ (∀ x ∈ l, x < 256) ∧ s = crc 4294967295 (l.take k)
theorem SumAt.le {l : List Nat} {n k s : Nat} (h : SumAt l n k s) : k ≤ n := h.1
theorem SumAt.small {l : List Nat} {n k s : Nat} (h : SumAt l n k s) : s < 4294967296 := by
  rw [h.2.2.2]
  exact crc_lt _ (by omega) fun x hx => h.2.2.1 x (List.mem_of_mem_take hx)
theorem SumAt.byte {l : List Nat} {n k s : Nat} (h : SumAt l n k s) (hk : k < n) : l.getD k 0 < 256 := by
  have hk' : k < l.length := by rw [h.2.1]; exact hk
  rw [show l.getD k 0 = l[k] by simp [List.getD, hk']]
  exact h.2.2.1 _ (List.getElem_mem hk')
theorem SumAt.next {l : List Nat} {n k s : Nat} (h : SumAt l n k s) (hk : k < n) : SumAt l n (k + 1) (st8 (s ^^^ l.getD k 0)) := by
  have hk' : k < l.length := by rw [h.2.1]; exact hk
  refine ⟨hk, h.2.1, h.2.2.1, ?_⟩
  rw [List.take_succ_eq_append_getElem hk', crc_snoc, ← h.2.2.2, show l.getD k 0 = l[k] by simp [List.getD, hk']]
theorem SumAt.all {l : List Nat} {n k s : Nat} (h : SumAt l n k s) (hk : ¬ k < n) : s = crc 4294967295 l := by
  rw [h.2.2.2, List.take_of_length_le (by have := h.1; have := h.2.1; omega)]

theorem two_halves (s x : Nat) : st4 (st4 (s ^^^ x % 16) ^^^ x / 16) = st8 (s ^^^ x) := by
  have e : x = x % 16 ^^^ 16 * (x / 16) := by
    rw [Nat.xor_comm]
    exact split16 x
  unfold st8
  conv => rhs; rw [e, ← Nat.xor_assoc, st4_xor, st4_high]

set_option maxHeartbeats 200000 in
theorem nt_sum_any (A : Option Addr) (n c B : Nat) (l : List Nat) (w : World) (hl : Holds w B A n l) (hn : n ≤ 1099511627000) (hT : Tab w) :
    Calls Tryz.prog 75 #[.slice A n c] w fun e w' => e = .returned (.int .u32 (sum l : Nat)) ∧ w = w' := by
  have S0 : SumAt l n 0 4294967295 := ⟨Nat.zero_le _, hl.1, hl.2.1, rfl⟩
  go_enter Tryz.func75, Tryz.ntmps75
  go_wp2
  go_loop [3, 8] (fun vs vk => ∃ k s : Nat, SumAt l n k s ∧ vk = .int .i64 k ∧ vs = .int .u32 s) (fun _ vk => n - (Go.RowKit.intOf vk).toNat)
  case atStart => exact ⟨0, 4294967295, S0, rfl, rfl⟩
  case round =>
    obtain ⟨k, s, hat, rfl, rfl⟩ := hrel
    have hk := hat.le
    have hs := hat.small
    have Hat := hide hat
    clear hat
    by_cases h : k < n
    · have hx := Hat.out.byte h
      obtain ⟨b, off, rfl, _, hcs⟩ := hl.2.2 (by omega)
      have hc := hcs k h
      clear hcs
      have hnext := Hat.out.next h
      have e8 := two_halves s (l.getD k 0)
      rw [← e8] at hnext
      have hs4 : st4 (s ^^^ l.getD k 0 % 16) < 4294967296 := st4_lt (Nat.xor_lt_two_pow (n := 32) hs (by omega))
      have k1 := fun w => half_any s (l.getD k 0 % 16) w hs (by omega)
      have k2 := fun w => half_any (st4 (s ^^^ l.getD k 0 % 16)) (l.getD k 0 / 16) w hs4 (by omega)
      generalize st4 (st4 (s ^^^ l.getD k 0 % 16) ^^^ l.getD k 0 / 16) = s8 at hnext k2
      generalize st4 (s ^^^ l.getD k 0 % 16) = s4 at hs4 k1 k2
      generalize l.getD k 0 = x at hx hc k1 k2
      have Hnext := hide hnext
      have ea : bits .and .u8 (x : Int) 15 = ((x % 16 : Nat) : Int) := (u8_and15 (x := (x : Int)) (by omega) (by omega)).trans (by omega)
      have K1 := hide k1
      have K2 := hide k2
      clear hnext e8 k1 k2
      go_wp2_with (fail)
      refine (K1.out _ hT).mono ?_
      rintro e w1 ⟨rfl, rfl⟩
      go_wp2_with (fail)
      refine (K2.out _ hT).mono ?_
      rintro e w1 ⟨rfl, rfl⟩
      go_wp2
      go_round
      case rel => exact ⟨k + 1, _, Hnext.out, by go_num, rfl⟩
      case measure => simp [Go.RowKit.intOf]; omega
    · have hsum : sum l = s ^^^ 4294967295 := by rw [Hat.out.all h]; rfl
      have e1 : bits .xor .u32 IntKind.u32.max (s : Int) = ((sum l : Nat) : Int) := by
        rw [hsum, Nat.xor_comm]
        exact u32_xor_nat 4294967295 s (by omega) hs
      go_wp2
      go_ret
      exact ⟨rfl, rfl⟩
end Go.Proofs.YtdkiopajilakcaaGreatDoor
/- The walks over envelope's putSum, startsCount, size, bounds. -/
namespace Go.Proofs.YtdkiopajilakcaaGreatDoor
open Go.RowKit

def fourF : Nat → Nat → List Nat
  | 0, _ => []
  | f + 1, s => s % 256 :: fourF f (s / 256)
def FourAt (S i s : Nat) (k : List Nat) : Prop := i ≤ 4 ∧ s < 4294967296 ∧ four S = k ++ fourF (4 - i) s ∧ k.length = i
theorem fourAt_start {S : Nat} (h : S < 4294967296) : FourAt S 0 S [] := by
  refine ⟨by omega, h, ?_, rfl⟩
  simp [four, fourF, Nat.div_div_eq_div_mul]
theorem FourAt.small {S i s : Nat} {k : List Nat} (h : FourAt S i s k) : i ≤ 4 ∧ s < 4294967296 ∧ k.length = i := ⟨h.1, h.2.1, h.2.2.2⟩
theorem FourAt.next {S i s : Nat} {k : List Nat} (h : FourAt S i s k) (hi : i < 4) : FourAt S (i + 1) (s / 256) (k ++ [s % 256]) := by
  refine ⟨by omega, by have := h.2.1; omega, ?_, by simp [h.2.2.2]⟩
  rw [h.2.2.1, show 4 - i = (4 - (i + 1)) + 1 by omega]
  simp [fourF]
theorem FourAt.all {S i s : Nat} {k : List Nat} (h : FourAt S i s k) (hi : ¬ i < 4) : four S = k := by
  rw [h.2.2.1, show 4 - i = 0 by omega]
  simp [fourF]

set_option maxHeartbeats 400000 in
set_option maxRecDepth 100000 in
theorem putsum_any (base n S : Nat) (bv0 : Value) (l : List Nat) (w : World) (hS : S < 4294967296) (hn : n ≤ 1099511627776) (hbase : base ≤ w.heap.size)
    (ho : w.ownsRow base 5 1 bv0 n (bvs l)) :
    Calls Tryz.prog 74 #[bv0, .int .u32 S] w fun e w' => ∃ v', e = .returned v' ∧ w'.ownsRow base 5 1 v' (n + 4) (bvs (l ++ four S)) ∧ Went w bv0.ownBlock w' v'.ownBlock := by
  have HS := hide hS
  clear hS
  obtain ⟨i0, hi, hz0, hz1, hz2⟩ := info_parts Tryz.infoU8
  go_enter Tryz.func74, Tryz.ntmps74
  go_wp2
  go_loopw [0, 1, 5] (fun b vv vi wr => ∃ (i s : Nat) (k : List Nat), FourAt S i s k ∧ vv = .int .u32 s ∧ vi = .int .i64 i ∧ wr.ownsRow base 5 1 b (n + i) (bvs (l ++ k)) ∧ Went w bv0.ownBlock wr b.ownBlock) (fun _ _ vi _ => 4 - (Go.RowKit.intOf vi).toNat)
  case atStart => exact ⟨0, S, [], fourAt_start HS.out, rfl, rfl, by simpa using ho, Went.refl _ _⟩
  case round =>
    obtain ⟨i, s, k, hat, rfl, rfl, hown, hbel⟩ := hrel
    obtain ⟨hi4, hs, hkl⟩ := hat.small
    have hsz := hbel.size
    have Hat := hide hat
    clear hat
    by_cases h : i < 4
    · have hnext := Hat.out.next h
      obtain ⟨g, hg⟩ : ∃ g, g = s % 256 := ⟨_, rfl⟩
      have hgs : g < 256 := by omega
      have hgi : (s : Int) % 256 = (g : Int) := by omega
      rw [← hg] at hnext
      have Hnext := hide hnext
      have Hg := hide hg
      clear hnext hg
      go_wp2_with (at_builtin; refine wpList_append_own_at _ rfl (.tmp 7) (.tmp 10) 28 rfl base 5 i0 _ 1 1 Tryz.underlying28 hi hz0 hz1 hz2 rfl (by omega) _ (n + i) (bvs (l ++ k)) rfl (hown.alloc _) ⟨wr.heap.size, 0, none⟩ 1 1 (bvs [g]) rfl rfl (cell_one_new _ _ _) (bvs_cell _) (by simp only [maxLen]; omega) (by omega) (by simp; omega) ?_; intro v1 w1 hown1 hg1 _ hat1)
      go_roundw
      case rel =>
        refine ⟨i + 1, s / 256, k ++ [g], Hnext.out, by go_num, by go_num, ?_, (hbel.alloc _).trans (.of_at hg1 hat1)⟩
        rw [← List.append_assoc, bvs_append]
        exact hown1
      case measure => simp [Go.RowKit.intOf]; omega
    · have e4 := Hat.out.all h
      have : i = 4 := by omega
      subst this
      go_wp2
      go_ret
      rw [e4]
      exact ⟨_, rfl, hown, hbel⟩

def HighAt (l : List Nat) (n k : Nat) : Prop := k ≤ n ∧ l.length = n ∧ n ≤ 9 ∧ (∀ x ∈ l.take k, 128 ≤ x)
theorem HighAt.next {l : List Nat} {n k : Nat} (h : HighAt l n k) (hk : k < n) (hx : 128 ≤ l.getD k 0) : HighAt l n (k + 1) := by
  have hk' : k < l.length := by rw [h.2.1]; exact hk
  refine ⟨hk, h.2.1, h.2.2.1, fun x hm => ?_⟩
  rw [List.take_succ_eq_append_getElem hk', List.mem_append] at hm
  rcases hm with hm | hm
  · exact h.2.2.2 x hm
  · simp only [List.mem_singleton] at hm
    rw [hm]
    simpa [List.getD, hk'] using hx
theorem HighAt.no {l : List Nat} {n k : Nat} (h : HighAt l n k) (hk : k < n) (hx : l.getD k 0 < 128) : false = high l := by
  have hk' : k < l.length := by rw [h.2.1]; exact hk
  symm
  unfold high
  rw [Bool.and_eq_false_iff]
  right
  rw [List.all_eq_false]
  exact ⟨l[k], List.getElem_mem hk', by simpa [List.getD, hk'] using hx⟩
theorem HighAt.all {l : List Nat} {n k : Nat} (h : HighAt l n k) (hk : ¬ k < n) : true = high l := by
  have e : l.take k = l := List.take_of_length_le (by have := h.1; have := h.2.1; omega)
  symm
  unfold high
  rw [Bool.and_eq_true]
  refine ⟨by have := h.2.1; have := h.2.2.1; simp; omega, ?_⟩
  rw [List.all_eq_true]
  intro x hx
  rw [← e] at hx
  simpa using h.2.2.2 x hx
theorem high_long {l : List Nat} {n : Nat} (h : l.length = n) (hn : 9 < n) : false = high l := by
  unfold high
  simp
  intro h2
  omega

set_option maxRecDepth 100000 in
theorem starts_any (A : Option Addr) (n c B : Nat) (l : List Nat) (w : World) (hl : Holds w B A n l) (hn : n ≤ 1099511627000) :
    Calls Tryz.prog 131 #[.slice A n c] w fun e w' => e = .returned (.bool (high l)) ∧ w = w' := by
  have Hl := hide hl
  clear hl
  by_cases h9 : 9 < n
  · go_enter Tryz.func131, Tryz.ntmps131
    go_wp2
    go_ret
    exact ⟨ret_bool (high_long Hl.out.1 h9), rfl⟩
  · have G0 := hide (show HighAt l n 0 from ⟨Nat.zero_le _, Hl.out.1, by omega, by simp⟩)
    go_enter Tryz.func131, Tryz.ntmps131
    go_wp2
    go_loop [10] (fun vk => ∃ k : Nat, Hid (HighAt l n k) ∧ vk = .int .i64 k) (fun vk => n - (Go.RowKit.intOf vk).toNat)
    case atStart => exact ⟨0, G0, rfl⟩
    case round =>
      obtain ⟨k, hat, rfl⟩ := hrel
      have hk := hat.out.1
      by_cases h : k < n
      · obtain ⟨b, off, rfl, _, hcs⟩ := Hl.out.2.2 (by omega)
        have hc := hcs k h
        have hb := Hl.out.byte h
        clear hcs
        by_cases hx : l.getD k 0 < 128
        · have hno := hide (hat.out.no h hx)
          generalize l.getD k 0 = x at hc hb hx
          go_wp2
          go_ret
          exact ⟨ret_bool hno.out, rfl⟩
        · have hnext := hide (hat.out.next h (by omega))
          generalize l.getD k 0 = x at hc hb hx
          go_wp2
          go_round
          case rel => exact ⟨k + 1, hnext, by go_num⟩
          case measure => simp [Go.RowKit.intOf]; omega
      · have hall := hide (hat.out.all h)
        go_wp2
        go_ret
        exact ⟨ret_bool hall.out, rfl⟩

theorem cnt_1 {l : List Nat} {v k e : Nat} (h : num l 0 0 = (v, k, e)) (hk : k = 0) (hh : high l = true) : cnt l = (0, 0, 3) := by
  unfold cnt
  rw [h, if_pos ⟨hk, hh⟩]
theorem cnt_2 {l : List Nat} {v k e : Nat} (h : num l 0 0 = (v, k, e)) (hk : k = 0) (hh : high l = false) : cnt l = (0, 0, 4) := by
  unfold cnt
  rw [h, if_neg (by simp [hh]), if_pos (Or.inl hk)]
theorem cnt_3 {l : List Nat} {v k e : Nat} (h : num l 0 0 = (v, k, e)) (hk : ¬ k = 0) (hv : 65536 < v) : cnt l = (0, 0, 4) := by
  unfold cnt
  rw [h, if_neg (by simp [hk]), if_pos (Or.inr hv)]
theorem cnt_4 {l : List Nat} {v k e : Nat} (h : num l 0 0 = (v, k, e)) (hk : ¬ k = 0) (hv : ¬ 65536 < v) : cnt l = (v, k, 0) := by
  unfold cnt
  rw [h, if_neg (by simp [hk]), if_neg (by simp [hk]; omega)]

theorem getnum_is (A : Option Addr) (n c B v k e : Nat) (l : List Nat) (w : World) (hl : Holds w B A n l) (hn : n ≤ 1099511627000) (h : num l 0 0 = (v, k, e)) :
    Calls Tryz.prog 130 #[.slice A n c] w fun e w' => e = .returned (.tuple #[.int .u64 v, .int .i64 k]) ∧ w = w' :=
  (getuint_any A n c B l w hl hn).mono fun e w' ⟨h1, h2⟩ => by rw [h] at h1; exact ⟨h1, h2⟩

theorem size_any (A : Option Addr) (n c B : Nat) (l : List Nat) (w : World) (hl : Holds w B A n l) (hn : n ≤ 1099511627000) :
    Calls Tryz.prog 107 #[.slice A n c] w fun e w' => e = .returned (.tuple #[.int .i64 (cnt l).1, .int .i64 (cnt l).2.1, .int .i64 (cnt l).2.2]) ∧ w = w' := by
  obtain ⟨v, k, er, hnum⟩ : ∃ v k er, num l 0 0 = (v, k, er) := ⟨_, _, _, rfl⟩
  have hkb : k ≤ 1099511627000 := by
    have := (num_bound l 0 0).1
    rw [hnum] at this
    have := hl.1
    simp only at *
    omega
  have hst := fun w (hl : Holds w B A n l) => starts_any A n c B l w hl hn
  have Hl := hide hl
  have Hst := hide hst
  clear hl hst
  by_cases hk : k = 0
  · cases hh : high l with
    | true =>
      have hc := cnt_1 hnum hk hh
      rw [hc]
      have Hc := hide hc
      rw [hh] at Hst
      subst hk
      go_enter Tryz.func107, Tryz.ntmps107
      go_wp2_with (fail)
      refine (getnum_is A n c B v 0 er l _ Hl.out hn hnum).mono ?_
      rintro e w1 ⟨rfl, rfl⟩
      go_wp2_with (fail)
      refine (Hst.out _ Hl.out).mono ?_
      rintro e w1 ⟨rfl, rfl⟩
      go_wp2
      go_ret3
      exact ⟨rfl, rfl⟩
    | false =>
      have hc := cnt_2 hnum hk hh
      rw [hc]
      have Hc := hide hc
      rw [hh] at Hst
      subst hk
      go_enter Tryz.func107, Tryz.ntmps107
      go_wp2_with (fail)
      refine (getnum_is A n c B v 0 er l _ Hl.out hn hnum).mono ?_
      rintro e w1 ⟨rfl, rfl⟩
      go_wp2_with (fail)
      refine (Hst.out _ Hl.out).mono ?_
      rintro e w1 ⟨rfl, rfl⟩
      go_wp2
      go_ret3
      exact ⟨rfl, rfl⟩
  · have hk' : ((k : Int) == 0) = false := by simp; omega
    by_cases hv : 65536 < v
    · have hc := cnt_3 hnum hk hv
      rw [hc]
      have Hc := hide hc
      go_enter Tryz.func107, Tryz.ntmps107
      go_wp2_with (fail)
      refine (getnum_is A n c B v k er l _ Hl.out hn hnum).mono ?_
      rintro e w1 ⟨rfl, rfl⟩
      go_wp2
      go_ret3
      exact ⟨rfl, rfl⟩
    · have hc := cnt_4 hnum hk hv
      rw [hc]
      have Hc := hide hc
      go_enter Tryz.func107, Tryz.ntmps107
      go_wp2_with (fail)
      refine (getnum_is A n c B v k er l _ Hl.out hn hnum).mono ?_
      rintro e w1 ⟨rfl, rfl⟩
      go_wp2
      go_ret3
      exact ⟨rfl, rfl⟩

theorem bnd_1 {l : List Nat} (h : l.length = 0) : bnd l = (0, 0, 3) := by unfold bnd; rw [if_pos h]
theorem bnd_2 {l : List Nat} (h : ¬ l.length = 0) (h2 : l.getD 0 0 ≠ 3) : bnd l = (0, 0, 5) := by unfold bnd; rw [if_neg h, if_pos h2]
theorem bnd_3 {l : List Nat} {v k e : Nat} (h : ¬ l.length = 0) (h2 : l.getD 0 0 = 3) (hc : cnt (l.drop 1) = (v, k, e)) (he : e ≠ 0) : bnd l = (0, 0, e) := by
  unfold bnd; rw [hc, if_neg h, if_neg (fun hh => hh h2), if_pos he]
theorem bnd_4 {l : List Nat} {v k e : Nat} (h : ¬ l.length = 0) (h2 : l.getD 0 0 = 3) (hc : cnt (l.drop 1) = (v, k, e)) (he : ¬ e ≠ 0) (hs : l.length < 1 + k + (v + 4)) : bnd l = (0, 0, 3) := by
  unfold bnd; rw [hc, if_neg h, if_neg (fun hh => hh h2), if_neg he, if_pos hs]
theorem bnd_5 {l : List Nat} {v k e : Nat} (h : ¬ l.length = 0) (h2 : l.getD 0 0 = 3) (hc : cnt (l.drop 1) = (v, k, e)) (he : ¬ e ≠ 0) (hs : ¬ l.length < 1 + k + (v + 4)) : bnd l = (1 + k, 1 + k + v, 0) := by
  unfold bnd; rw [hc, if_neg h, if_neg (fun hh => hh h2), if_neg he, if_neg hs]

theorem size_is (A : Option Addr) (n c B v k e : Nat) (l : List Nat) (w : World) (hl : Holds w B A n l) (hn : n ≤ 1099511627000) (h : cnt l = (v, k, e)) :
    Calls Tryz.prog 107 #[.slice A n c] w fun e1 w' => e1 = .returned (.tuple #[.int .i64 v, .int .i64 k, .int .i64 e]) ∧ w = w' :=
  (size_any A n c B l w hl hn).mono fun e w' ⟨h1, h2⟩ => by rw [h] at h1; exact ⟨h1, h2⟩

set_option maxHeartbeats 400000 in
set_option maxRecDepth 100000 in
theorem bounds_any (A : Option Addr) (n c B : Nat) (l : List Nat) (w : World) (hl : Holds w B A n l) (hn : n ≤ 1099511627000) (hc : n ≤ c) :
    Calls Tryz.prog 76 #[.slice A n c] w fun e w' => e = .returned (.tuple #[.int .i64 (bnd l).1, .int .i64 (bnd l).2.1, .int .i64 (bnd l).2.2]) ∧ w = w' := by
  have Hl := hide hl
  have hlen := hl.1
  clear hl
  by_cases h0 : n = 0
  · have hb := bnd_1 (l := l) (by omega)
    rw [hb]
    have Hb := hide hb
    subst h0
    clear hlen
    go_enter Tryz.func76, Tryz.ntmps76
    go_wp2
    go_ret3
    exact ⟨rfl, rfl⟩
  · obtain ⟨b, off, rfl, _, hcs⟩ := Hl.out.2.2 (by omega)
    have hcell := hcs 0 (by omega)
    rw [Nat.add_zero] at hcell
    have hbyte := Hl.out.byte (show 0 < n by omega)
    clear hcs
    have hn0 : ((n : Int) == 0) = false := by simp; omega
    by_cases h3 : l.getD 0 0 = 3
    · rw [h3] at hcell
      obtain ⟨v, k, er, hcnt⟩ : ∃ v k er, cnt (l.drop 1) = (v, k, er) := ⟨_, _, _, rfl⟩
      have hfit := cnt_fits (l.drop 1)
      rw [hcnt] at hfit
      simp only [List.length_drop] at hfit
      obtain ⟨A', hA', hcut⟩ := cut_from (some ⟨b, off, none⟩) n c 1 (by omega)
      simp only [show ((1 : Nat) : Int) = 1 from rfl] at hcut
      have hd := Hl.out.drop (k := 1) (cap := c) (by omega) hc A' hA'
      have hsz := hide (size_is A' (n - 1) (c - 1) B v k er (l.drop 1) w hd (by omega) hcnt)
      have hk1 : k ≤ 1099511627000 := by omega
      have hv1 : v ≤ 65536 := hfit.1
      have he1 : er ≤ 4 := hfit.2.2
      have Hcnt := hide hcnt
      have HA' := hide hA'
      clear hcnt hA' hd hbyte
      by_cases he : er ≠ 0
      · have hb := bnd_3 (by omega) h3 Hcnt.out he
        rw [hb]
        have Hb := hide hb
        have H3 := hide h3
        have Hfit := hide hfit
        have he2 : ((er : Int) == 0) = false := by simp; omega
        clear hb h3 hfit
        go_enter Tryz.func76, Tryz.ntmps76
        go_wp2_with (fail)
        refine hsz.out.mono ?_
        rintro e w1 ⟨rfl, rfl⟩
        go_wp2
        go_ret3
        exact ⟨rfl, rfl⟩
      · have he0 : er = 0 := by omega
        by_cases hs : l.length < 1 + k + (v + 4)
        · have hb := bnd_4 (by omega) h3 Hcnt.out he hs
          rw [hb]
          have Hb := hide hb
          have H3 := hide h3
          subst he0
          have hs' : n < 1 + k + (v + 4) := by omega
          have hk2 : k ≤ n - 1 := by omega
          have Hfit := hide hfit
          have Hs := hide hs
          clear hb h3 hfit hs
          go_enter Tryz.func76, Tryz.ntmps76
          go_wp2_with (fail)
          refine hsz.out.mono ?_
          rintro e w1 ⟨rfl, rfl⟩
          go_wp2
          go_ret3
          exact ⟨rfl, rfl⟩
        · have hb := bnd_5 (by omega) h3 Hcnt.out he hs
          rw [hb]
          have Hb := hide hb
          have H3 := hide h3
          subst he0
          have hs' : ¬ n < 1 + k + (v + 4) := by omega
          have Hfit := hide hfit
          have Hs := hide hs
          clear hb h3 hfit hs
          go_enter Tryz.func76, Tryz.ntmps76
          go_wp2_with (fail)
          refine hsz.out.mono ?_
          rintro e w1 ⟨rfl, rfl⟩
          go_wp2
          go_ret3
          exact ⟨ret3 (by omega) (by omega) rfl, rfl⟩
    · have hb := bnd_2 (by omega) h3
      rw [hb]
      have Hb := hide hb
      have h3' : (((l.getD 0 0 : Nat) : Int) == 3) = false := by simp only [beq_eq_false_iff_ne]; omega
      have H3 := hide h3
      clear hb h3
      generalize l.getD 0 0 = x at hcell hbyte h3'
      go_enter Tryz.func76, Tryz.ntmps76
      go_wp2
      go_ret3
      exact ⟨rfl, rfl⟩
end Go.Proofs.YtdkiopajilakcaaGreatDoor
/- The walk over field.Uint: the bytes that came in, and the groups of the number behind them, in new memory. -/
namespace Go.Proofs.YtdkiopajilakcaaGreatDoor
open Go.RowKit

set_option maxHeartbeats 400000 in
theorem uint_any (A : Option Addr) (n c V : Nat) (l : List Nat) (B : Nat) (w : World) (hV : V < 18446744073709551616) (hn : n ≤ 1099511627000) (hl : Holds w B A n l) (hB : B ≤ w.heap.size) :
    Calls Tryz.prog 73 #[.slice A n c, .int .u64 V] w fun e w' => ∃ v', e = .returned v' ∧ w'.ownsRow w.heap.size 5 1 v' (n + (enc V).length) (bvs (l ++ enc V)) ∧ Below w.heap.size w w' := by
  obtain ⟨i0, hi, hz0, hz1, hz2⟩ := info_parts Tryz.infoU8
  have HV := hide hV
  clear hV
  go_enter Tryz.func73, Tryz.ntmps73
  go_wp2_with (first
    | (at_make; refine wpList_make_own _ rfl _ _ 28 rfl w.heap.size 5 i0 (.int .u8 0) 1 Tryz.underlying28 hi hz0 hz1 _ _ _ (n + 10) rfl rfl (by omega) (by rw [hz2]; omega) (by simp only [maxLen]; omega) (Nat.le_refl _) ?_; intro w1 hown1 hg1)
    | (at_builtin; refine wpList_append_bytes _ rfl (.tmp 11) (.tmp 12) 28 rfl w.heap.size 5 i0 (.int .u8 0) Tryz.underlying28 hi hz0 hz1 hz2 rfl _ 0 [] rfl hown1 B A n c l rfl (hl.below ((Below.refl _ _).grown hg1 hB (by simp))) (by omega) hg1.size ?_; intro v2 w2 hown2 hg2)
    | (go_at_call 105; refine (put_any w.heap.size (0 + n) V _ l _ HV.out (by omega) (Nat.le_trans hg1.size hg2.size) hown2).mono ?_; rintro e w3 ⟨v3, rfl, hown3, hg3⟩))
  go_ret
  have b1 : Below w.heap.size w w1 := (Below.refl _ _).grown hg1 (Nat.le_refl _) (by simp)
  have b2 := hg2.below hown1 hg1.size
  have b3 := hg3.below hown2 (Nat.le_trans hg1.size hg2.size)
  exact ⟨v3, rfl, by simpa using hown3, (b1.trans b2).trans b3⟩
end Go.Proofs.YtdkiopajilakcaaGreatDoor
/- Rows of the call's own, carried over; the cells that were there. -/
namespace Go.Proofs.YtdkiopajilakcaaGreatDoor
open Go.RowKit

end Go.Proofs.YtdkiopajilakcaaGreatDoor
/- The walks over envelope's Seal, bytes.Equal; of droverref02: Sum, four, Seal. -/
namespace Go.Proofs.YtdkiopajilakcaaGreatDoor
open Go.RowKit

theorem byte_holds (w : World) (x : Nat) (hx : x < 256) (t : TypeId) : Holds (w.alloc (.cells #[.int .u8 (x : Int)] t)) (w.heap.size + 1) (some ⟨w.heap.size, 0, none⟩) 1 [x] := by
  refine ⟨rfl, by simpa using hx, fun _ => ⟨w.heap.size, 0, rfl, by omega, fun i hi => ?_⟩⟩
  obtain rfl : i = 0 := by omega
  simp
theorem newBytes_nil (w : World) : NewBytes w [] (.returned (.slice none 0 0)) w :=
  ⟨none, 0, 0, rfl, World.ownsRow_nil _ _ _ _, Holds.nil_ _ _, Nat.le_refl _, Below.refl _ _⟩

set_option maxHeartbeats 1000000 in
set_option maxRecDepth 100000 in
theorem seal_any (A : Option Addr) (n c B : Nat) (l : List Nat) (w : World) (hl : Holds w B A n l) (hB : B ≤ w.heap.size) (hn : n ≤ 9223372036854775807) (hT : Tab w) :
    Calls Tryz.prog 38 #[.slice A n c] w (NewBytes w (sealed l)) := by
  have hlen := hl.1
  have hsm := hide (sealed_small hl.2.1)
  have Hl := hide hl
  have HT := hide hT
  clear hl hT
  by_cases hbig : 65536 < n
  · have e : sealed l = [] := by unfold sealed; rw [if_pos (by omega)]
    rw [e]
    have He := hide e
    clear e hlen
    go_enter Tryz.func38, Tryz.ntmps38
    go_wp2
    go_ret
    exact newBytes_nil w
  · have hp : sealP l = [3] ++ enc n ++ l := by simp [sealP, hlen]
    have e : sealed l = ([3] ++ enc n ++ l) ++ four (sum ([3] ++ enc n ++ l)) := by
      unfold sealed
      rw [if_neg (by omega), hp]
    have hsm2 := hide (sealP_small Hl.out.2.1)
    rw [hp] at hsm2
    obtain ⟨R, hR⟩ : ∃ R, R = sealed l := ⟨_, rfl⟩
    obtain ⟨q, hq⟩ : ∃ q, q = sum ([3] ++ enc n ++ l) := ⟨_, rfl⟩
    have hq32 : q < 4294967296 := by rw [hq]; exact sum_lt hsm2.out
    rw [← hR] at hsm ⊢
    rw [← hR, ← hq] at e
    have He := hide e
    have Hq := hide hq
    have Hlen := hide hlen
    have hel := (enc_len n).2
    clear e hlen hp hR hq
    obtain ⟨i0, hi, hz0, hz1, hz2⟩ := info_parts Tryz.infoU8
    go_enter Tryz.func38, Tryz.ntmps38
    go_wp2_with (fail)
    refine (uint_any (some ⟨w.heap.size, 0, none⟩) 1 1 n [3] (w.heap.size + 1) _ (by omega) (by omega) (byte_holds w 3 (by omega) _) (by simp)).mono ?_
    rintro e w1 ⟨v1, rfl, o1, b1⟩
    have ba : Below w.heap.size w (w.alloc (.cells #[.int .u8 ((3 : Nat) : Int)] 5)) := (Below.refl _ _).alloc (Nat.le_refl _) _
    have L1 := hide (ba.trans (b1.mono (by simp)))
    have S1 : w.heap.size + 1 ≤ w1.heap.size := by simpa using b1.size
    have o1' := own_base (base' := w.heap.size) o1 (by simp)
    clear o1 b1 ba
    go_wp2_with (at_builtin; refine wpList_append_bytes _ rfl (.tmp 12) (.tmp 13) 28 rfl w.heap.size 5 i0 (.int .u8 0) Tryz.underlying28 hi hz0 hz1 hz2 rfl _ (1 + (enc n).length) ([3] ++ enc n |> bvs) rfl o1' B A n c l rfl (Hl.out.below (L1.out.mono hB)) (by omega) (by omega) ?_; intro v2 w2 o2 g2)
    have o2' : w2.ownsRow w.heap.size 5 1 v2 (1 + (enc n).length + n) (bvs ([3] ++ enc n ++ l)) := by
      rw [bvs_append]
      exact o2
    have b2 := g2.below o1' (by omega)
    have L2 := hide (L1.out.trans b2)
    have S2 := L2.out.size
    obtain ⟨A2, c2, rfl, hc2, _, h2⟩ := Holds.of_own o2' hsm2.out
    have H2 := hide h2
    have O2 := hide o2'
    clear o1' o2 g2 b2 o2' h2
    refine (nt_sum_any A2 _ c2 _ _ w2 H2.out (by omega) (HT.out.later L2.out)).mono ?_
    rintro e w3 ⟨rfl, rfl⟩
    rw [← Hq.out]
    go_wp2_with (fail)
    refine (putsum_any w.heap.size _ q _ _ w2 hq32 (by omega) S2 O2.out).mono ?_
    rintro e w3 ⟨v3, rfl, o3, g3⟩
    have L3 := hide (L2.out.trans (g3.below O2.out S2))
    have O3 := hide o3
    clear o3 g3
    go_wp2
    go_ret
    have o4 := O3.out
    rw [← He.out] at o4
    exact newBytes_of o4 hsm.out L3.out

theorem equal_any (A A2 : Option Addr) (n c m c2 B B2 : Nat) (l l2 : List Nat) (w : World) (hl : Holds w B A n l) (h2 : Holds w B2 A2 m l2) :
    Calls Tryz.prog 77 #[.slice A n c, .slice A2 m c2] w fun e w' => e = .returned (.bool (decide (l = l2))) ∧ w = w' := by
  have d1 := run_str w B A n c l hl
  have d2 := run_str w B2 A2 m c2 l2 h2
  have hs1 := hide hl.2.1
  have hs2 := hide h2.2.1
  clear hl h2
  by_cases h : l = l2
  · subst h
    have hb := str_beq l
    rw [decide_eq_true rfl]
    go_enter Tryz.func77, Tryz.ntmps77
    go_wp2
    go_ret
    exact ⟨rfl, rfl⟩
  · have hb := str_bne hs1.out hs2.out h
    rw [decide_eq_false h]
    have H := hide h
    clear h
    go_enter Tryz.func77, Tryz.ntmps77
    go_wp2
    go_ret
    exact ⟨rfl, rfl⟩
end Go.Proofs.YtdkiopajilakcaaGreatDoor
/- The walks over OpBytes, DefBytes, Bytes, Good: what is written. -/
namespace Go.Proofs.YtdkiopajilakcaaGreatDoor
open Go.RowKit

theorem NewBytes.of {w w1 w2 : World} {l : List Nat} {e : Ending} (h : NewBytes w1 l e w2) (hl : Later w w1) : NewBytes w l e w2 := by
  obtain ⟨A, n, c, he, ho, hh, hc, hb⟩ := h
  exact ⟨A, n, c, he, own_base ho (Below.size hl), hh, hc, hl.trans hb⟩
def NtDefBox (w0 : Nat) (F : Nat → Prop) (name : ByteArray) (l : List StepD) (v : Value) (w : World) : Prop := w0 < w.heap.size ∧ w.heap[w0]? = some (.cells #[.string name, v] 24 (0, 0)) ∧ StepsAt F w v l
theorem NtDefBox.later {w0 : Nat} {F : Nat → Prop} {name : ByteArray} {l : List StepD} {v : Value} {w w' : World} (h : NtDefBox w0 F name l v w) (hl : Later w w') : NtDefBox w0 F name l v w' :=
  ⟨by have := Below.size hl; have := h.1; omega, (Below.block hl _ h.1).trans h.2.1, h.2.2.kept (Kept.of_below hl F)⟩
set_option maxHeartbeats 2000000 in
set_option maxRecDepth 100000 in
theorem defbytes_any {F : Nat → Prop} {name : ByteArray} {l : List StepD} {sA : Option Addr} {n sc k : Nat} {w : World} (hsm : DefD.sm k ⟨name, l⟩) (hk : k ≤ 5000) (h : StepsAt F w (.slice sA n sc) l) :
    Calls Tryz.prog 27 #[.agg #[.string name, .slice sA n sc]] w (NewBytes w (defB ⟨name, l⟩)) := by
  have hl : Later w (w.alloc (.cells #[.string name, .slice sA n sc] 24 (0, 0))) := Later.alloc _ _
  have hb : NtDefBox w.heap.size F name l (.slice sA n sc) (w.alloc (.cells #[.string name, .slice sA n sc] 24 (0, 0))) := ⟨by rw [World.size_alloc]; omega, heap_alloc_new _ _, h.kept (Kept.of_below hl F)⟩
  have C := hide (defParts_any (w := w.alloc (.cells #[.string name, .slice sA n sc] 24 (0, 0))) (g := w.heap.size) (o := 0) hb.1)
  have HL := hide hl
  have HB := hide hb
  have HSM := hide hsm
  have HK := hide hk
  clear h hl hb hsm hk
  go_enter Tryz.func27, Tryz.ntmps27
  go_wp2_with (fail)
  refine C.out.mono ?_
  rintro e w1 ⟨A1, ps, rfl, hlen, hpa, l1, hsub⟩
  have HL1 := hide (HL.out.trans l1)
  have D := hide (nwrite_any (St := NtDefBox w.heap.size F name l (.slice sA n sc)) hpa hlen.symm (Stay.refl (Nat.le_refl _)) (HB.out.later l1) (fun wa wb h hl => h.later hl)
    (hsub.1 _ ⟨name, l⟩ k HSM.out HK.out (fun wx h => ⟨box_at h.2.1 0 _ rfl, _, F, box_at h.2.1 1 _ rfl, h.2.2⟩)) (by have h1 := defF_room HSM.out; have h2 := k_small HK.out; have h3 := HK.out; rw [defFs_flat]; omega))
  clear hlen hpa l1 hsub C
  go_wp2_with (fail)
  refine D.out.mono ?_
  rintro e w2 ⟨A2, n2, c2, rfl, ho, hh, hc, hb⟩
  have R := hide (NewBytes.of (w := w) ⟨A2, n2, c2, rfl, ho, hh, hc, hb⟩ HL1.out)
  clear ho hh hc hb D
  go_wp2
  go_ret
  exact R.out
def OpBox (w0 : Nat) (F : Nat → Prop) (x : OpD) (v : Value) (w : World) : Prop := w0 < w.heap.size ∧ w.heap[w0]? = some (.cells (x.cells v).toArray 104 (0, 0)) ∧ StepsAt F w v x.steps
theorem OpBox.later {w0 : Nat} {F : Nat → Prop} {x : OpD} {v : Value} {w w' : World} (h : OpBox w0 F x v w) (hl : Later w w') : OpBox w0 F x v w' :=
  ⟨by have := Below.size hl; have := h.1; omega, (Below.block hl _ h.1).trans h.2.1, h.2.2.kept (Kept.of_below hl F)⟩
end Go.Proofs.YtdkiopajilakcaaGreatDoor
/- The walk over readGood, for definitions. -/
namespace Go.Proofs.YtdkiopajilakcaaGreatDoor
open Go.RowKit

def readDef (l : List Nat) : Nat × DefD := if (pread l).1 ≠ 0 then ((pread l).1, .zero) else if defG (defR l) = true ∧ defB (defR l) = l then (0, defR l) else (4, .zero)
theorem readDef_1 {l : List Nat} (h : (pread l).1 ≠ 0) : readDef l = ((pread l).1, .zero) := by unfold readDef; rw [if_pos h]
theorem readDef_2 {l : List Nat} (h : (pread l).1 = 0) (h2 : ¬ (defG (defR l) = true ∧ defB (defR l) = l)) : readDef l = (4, .zero) := by unfold readDef; rw [if_neg (by simpa using h), if_neg h2]
theorem readDef_3 {l : List Nat} (h : (pread l).1 = 0) (h2 : defG (defR l) = true) (h3 : defB (defR l) = l) : readDef l = (0, defR l) := by unfold readDef; rw [if_neg (by simpa using h), if_pos ⟨h2, h3⟩]
def GotDef (w : World) (q : Nat × DefD) (e : Ending) (w' : World) : Prop :=
  ∃ (x : DefD) (er : Nat) (sA : Option Addr) (sc : Nat), x = q.2 ∧ er = q.1 ∧ e = .returned (.tuple #[.agg #[.string x.name, .slice sA x.steps.length sc], .int .i64 (er : Int)]) ∧ StepsAt (w.heap.size ≤ ·) w' (.slice sA x.steps.length sc) x.steps ∧ Later w w'
set_option maxHeartbeats 2000000 in
set_option maxRecDepth 100000 in
theorem readgoodDef_any {w : World} {A : Option Addr} {n c : Nat} {l : List Nat} (hl : Holds w w.heap.size A n l) (hn : n ≤ 950000) (hc : n ≤ c) :
    Calls Tryz.prog 42 #[.slice A n c, .func (.func 43) #[] #[], .func (.func 44) #[] #[]] w (GotDef w (readDef l)) := by
  obtain ⟨W9, hW9⟩ : ∃ W, W = (((w.alloc (.cells #[.string ⟨#[]⟩, .slice none 0 0] 24 (0, 0))).alloc (.cells #[.string ⟨#[]⟩, .slice none 0 0] 24 (0, 0))).alloc (.cells #[.string ⟨#[]⟩, .slice none 0 0] 24 (0, 0))) := ⟨_, rfl⟩
  have hL9 : Later w W9 := by rw [hW9]; exact ((Later.alloc _ _).trans (Later.alloc _ _)).trans (Later.alloc _ _)
  obtain ⟨x0, x1, hz⟩ := heap_firsts w (.cells #[.string ⟨#[]⟩, .slice none 0 0] 24 (0, 0)) (.cells #[.string ⟨#[]⟩, .slice none 0 0] 24 (0, 0)) (.cells #[.string ⟨#[]⟩, .slice none 0 0] 24 (0, 0))
  have x2 := heap_third w (.cells #[.string ⟨#[]⟩, .slice none 0 0] 24 (0, 0)) (.cells #[.string ⟨#[]⟩, .slice none 0 0] 24 (0, 0)) (.cells #[.string ⟨#[]⟩, .slice none 0 0] 24 (0, 0))
  rw [← hW9] at x0 x1 x2 hz
  have C := hide (defParts_any (w := W9) (g := w.heap.size + 1) (o := 0) (by omega))
  have HL9 := hide hL9
  have X0 := hide x0
  have X1 := hide x1
  have X2 := hide x2
  have HZ := hide hz
  have HH := hide hl
  have HN := hide hn
  have HC := hide hc
  obtain ⟨er, her⟩ : ∃ q, (pread l).1 = q := ⟨_, rfl⟩
  have HER := hide her
  clear hL9 x0 x1 x2 hz hl hn hc her
  go_enter Tryz.func42, Tryz.ntmps42
  go_wp2_with (fail)
  rw [← hW9]
  clear hW9
  refine C.out.mono ?_
  rintro e w1 ⟨A1, ps, rfl, hlen, hpa, l1, hsub⟩
  have hz1 := Below.size l1
  have L1 := hide l1
  have Y1 : Hid (w1.heap[w.heap.size + 1]? = some (.cells #[.string ⟨#[]⟩, .slice none 0 0] 24 (0, 0))) := (Below.block l1 _ (by have := HZ.out; omega)).trans X1.out
  have D := hide (nread_any (P := fun k => k = w.heap.size + 1 ∨ w1.heap.size ≤ k) (A := A) (n := n) (c := c) (l := l) (s := DefD.zero) (invdef_ok (w.heap.size + 1)) hpa hlen.symm (Stay.refl (Nat.le_refl _))
    (hsub.2 _ _ defSz (Lens.id DefD) (invdef_ok (w.heap.size + 1)) (invdef_pl (w.heap.size + 1))) (lift_nodup _ defPs_own) (def_grow (invdef_pl (w.heap.size + 1))) (fun k h1 h2 h => by have := HZ.out; rcases h with h | h <;> omega) (fun k h => Or.inr h)
    (invdef_zero (Or.inl rfl) Y1.out) (((HH.out.below HL9.out).more (Below.size HL9.out)).later l1) (by have := HN.out; omega) HC.out (by simp only [defSz, DefD.zero, List.length_nil]; have := HN.out; omega))
  have HPA := hide hpa
  have HLEN := hide hlen
  have HSUB := hide hsub
  clear hpa hlen hsub l1 C
  rw [HER.out] at D
  go_wp2_with (fail)
  refine D.out.mono ?_
  rintro e w2 ⟨rfl, hv2, ht2⟩
  have hs2 := ht2.size
  have hb9 : Below (w.heap.size + 1) W9 w2 := (show Below (w.heap.size + 1) W9 w1 from Below.mono L1.out (by have := HZ.out; omega)).trans (ht2.below (fun k h => by have := HZ.out; rcases h with h | h <;> omega) (by have := HZ.out; omega))
  have HLW : Hid (Later w w2) := Below.trans HL9.out (Below.mono hb9 (by omega))
  have X0' : Hid (w2.heap[w.heap.size]? = some (.cells #[.string ⟨#[]⟩, .slice none 0 0] 24 (0, 0))) := (hb9.block _ (by omega)).trans X0.out
  have X2' : Hid (w2.heap[w.heap.size + 1 + 1]? = some (.cells #[.string ⟨#[]⟩, .slice none 0 0] 24 (0, 0))) := (ht2.block _ (by have := HZ.out; omega) (fun h => by have := HZ.out; rcases h with h | h <;> omega)).trans ((Below.block L1.out _ (by have := HZ.out; omega)).trans X2.out)
  have hv3 : InvDef (w.heap.size + 1) (fun k => k = w.heap.size + 1 ∨ w1.heap.size ≤ k) (defR l) w2 := by
    rw [Lens.rdB] at hv2
    exact hv2
  obtain ⟨x, hx⟩ : ∃ x, x = defR l := ⟨_, rfl⟩
  rw [← hx] at hv3
  have HXE := hide hx
  obtain ⟨_, _, sv, hx6, hos⟩ := hv3
  obtain ⟨sA, sc, rfl⟩ := own_shape hos.1
  have HSW : Hid (StepsAt (w.heap.size < ·) w2 (.slice sA x.steps.length sc) x.steps) := hos.flat fun q h => by have := HZ.out; rcases h with h | h <;> omega
  have HS : Hid (StepsAt (fun _ => True) w2 (.slice sA x.steps.length sc) x.steps) := HSW.out.mono fun _ _ _ => trivial
  have X6 : Hid (w2.heap[w.heap.size + 1]? = some (.cells #[.string x.name, .slice sA x.steps.length sc] 24 (0, 0))) := hx6
  have HST : Hid (Stay W9.heap.size w1.heap.size w1 w2) := (Stay.refl (Nat.le_refl _)).turned ht2 (fun k h1 h2 h => by have := HZ.out; rcases h with h | h <;> omega)
  have HPA2 : Hid (NtPartsAt W9.heap.size w1.heap.size w2 (.slice A1 2 2) ps) := HPA.out.stay HST.out hs2
  have HBH : Hid (Holds w2 w.heap.size A n l) := HH.out.below HLW.out
  have HW0 : Hid (w.heap.size + 2 < w2.heap.size) := by show _ < _; have := HZ.out; omega
  clear hv2 ht2 hs2 hb9 hx hx6 hos D
  by_cases h0 : er = 0
  · subst h0
    have G := hide (gooddef_any (fun _ => True) x.name x.steps sA x.steps.length sc w2 rfl HS.out)
    obtain ⟨t, ht⟩ : ∃ t, defG x = t := ⟨_, rfl⟩
    have ht9 : defG ⟨x.name, x.steps⟩ = t := ht
    rw [ht9] at G
    have HG := hide ht
    clear ht ht9
    go_wp2_with (refine wpList_load_box (by rfl) 24 _ (by rfl) (w.heap.size + 1) 0 (by rfl) 24 _ X6.out 2 _ Tryz.underlying24 (by rfl) (by kernel_rfl) [.string x.name, .slice sA x.steps.length sc] (by rfl) (by rfl) ?_)
    refine G.out.mono ?_
    rintro e w3 ⟨rfl, l3⟩
    have L3 := hide l3
    have HLW3 := hide (HLW.out.trans l3)
    have X63 := hide ((Below.block l3 _ (by have := HW0.out; omega)).trans X6.out)
    have X03 := hide ((Below.block l3 _ (by have := HW0.out; omega)).trans X0'.out)
    have X23 := hide ((Below.block l3 _ (by have := HW0.out; omega)).trans X2'.out)
    have HSW3 := hide (StepsAt.kept HSW.out (Kept.of_below l3 _))
    clear l3 G
    cases t with
    | false =>
      go_wp2_with (first
        | (refine wpList_load_box (by rfl) 24 _ (by rfl) (w.heap.size + 1 + 1) 0 (by rfl) 24 _ X23.out 2 _ Tryz.underlying24 (by rfl) (by kernel_rfl) [.string ⟨#[]⟩, .slice none 0 0] (by rfl) (by rfl) ?_)
        | (refine wpList_store_box (by rfl) 24 _ _ (by rfl) w.heap.size 0 #[.string ⟨#[]⟩, .slice none 0 0] (by rfl) (by rfl) 24 _ X03.out (by kernel_rfl) (by exact Nat.le_of_ble_eq_true rfl) (by intro u hu; simp at hu; rcases hu with rfl | rfl <;> rfl) ?_; intro w5 hb5 hg5))
      have hb6 : w5.heap[w.heap.size]? = some (.cells #[.string ⟨#[]⟩, .slice none 0 0] 24 (0, 0)) := by simpa [putAt] using hb5
      refine bodyPost_ret (results_box2 Tryz.results42 _ _ w.heap.size 24 _ _ (by rfl) hb6 Tryz.underlying24 (by rfl) (by kernel_rfl) _ (by rfl)) (by rfl) ?_
      refine ⟨.zero, 4, none, 0, by rw [readDef_2 HER.out (by rw [← HXE.out, HG.out]; simp)], by rw [readDef_2 HER.out (by rw [← HXE.out, HG.out]; simp)], rfl, StepsAt.nil_ _ _, ?_⟩
      exact Below.trans HLW3.out ((Below.refl _ _).grown hg5 (Below.size HLW3.out) fun k hk => by have := Option.some.inj hk; omega)
    | true =>
      have E := hide (nwrite_any (St := NtDefBox (w.heap.size + 1) (fun _ => True) x.name x.steps (.slice sA x.steps.length sc)) (HPA2.out.stay ((Stay.refl HST.out.1).later L3.out) (Below.size L3.out)) HLEN.out.symm (HST.out.later L3.out) ⟨by have := Below.size L3.out; have := HW0.out; omega, X63.out, StepsAt.kept HS.out (Kept.of_below L3.out _)⟩ (fun wa wb h hl => h.later hl)
        (let hsub := HSUB.out; hsub.1 _ x 16 ((defG_sm HG.out)) (by omega) (fun wx h => ⟨box_at h.2.1 0 _ rfl, _, _, box_at h.2.1 1 _ rfl, h.2.2⟩)) (by have h1 := defF_room (defG_sm HG.out); rw [defFs_flat]; omega))
      go_wp2_with (fail)
      refine E.out.mono ?_
      rintro e w4 ⟨A2, n2, c2, rfl, ho, hh, hc2, hb4⟩
      have L4 := hide (show Later w3 w4 from hb4)
      have HLW4 := hide (HLW3.out.trans L4.out)
      have X64 := hide ((Below.block hb4 _ (lt_of_block X63.out)).trans X63.out)
      have X04 := hide ((Below.block hb4 _ (lt_of_block X03.out)).trans X03.out)
      have X24 := hide ((Below.block hb4 _ (lt_of_block X23.out)).trans X23.out)
      have HSW4 := hide (StepsAt.kept HSW3.out (Kept.of_below hb4 _))
      obtain ⟨q, hq⟩ : ∃ q, decide (defB x = l) = q := ⟨_, rfl⟩
      have hh' : Holds w4 w4.heap.size A2 n2 (defB x) := hh
      have K := hide (equal_any A2 A n2 c2 n c _ _ _ _ w4 hh' ((HBH.out.below (Below.mono L3.out (Below.size HLW.out))).below (Below.mono hb4 (Below.size HLW3.out))))
      rw [hq] at K
      have HQ := hide hq
      clear ho hh hh' hb4 hq E
      go_wp2_with (fail)
      refine K.out.mono ?_
      rintro e w5 ⟨rfl, rfl⟩
      clear K
      cases q with
      | false =>
        go_wp2_with (first
          | (refine wpList_load_box (by rfl) 24 _ (by rfl) (w.heap.size + 1 + 1) 0 (by rfl) 24 _ X24.out 2 _ Tryz.underlying24 (by rfl) (by kernel_rfl) [.string ⟨#[]⟩, .slice none 0 0] (by rfl) (by rfl) ?_)
          | (refine wpList_store_box (by rfl) 24 _ _ (by rfl) w.heap.size 0 #[.string ⟨#[]⟩, .slice none 0 0] (by rfl) (by rfl) 24 _ X04.out (by kernel_rfl) (by exact Nat.le_of_ble_eq_true rfl) (by intro u hu; simp at hu; rcases hu with rfl | rfl <;> rfl) ?_; intro w5 hb5 hg5))
        have hb6 : w5.heap[w.heap.size]? = some (.cells #[.string ⟨#[]⟩, .slice none 0 0] 24 (0, 0)) := by simpa [putAt] using hb5
        refine bodyPost_ret (results_box2 Tryz.results42 _ _ w.heap.size 24 _ _ (by rfl) hb6 Tryz.underlying24 (by rfl) (by kernel_rfl) _ (by rfl)) (by rfl) ?_
        have hno : ¬ (defG (defR l) = true ∧ defB (defR l) = l) := fun h => by rw [← HXE.out] at h; exact of_decide_eq_false HQ.out h.2
        refine ⟨.zero, 4, none, 0, by rw [readDef_2 HER.out hno], by rw [readDef_2 HER.out hno], rfl, StepsAt.nil_ _ _, ?_⟩
        exact Below.trans HLW4.out ((Below.refl _ _).grown hg5 (Below.size HLW4.out) fun k hk => by have := Option.some.inj hk; omega)
      | true =>
        go_wp2_with (first
          | (refine wpList_load_box (by rfl) 24 _ (by rfl) (w.heap.size + 1) 0 (by rfl) 24 _ X64.out 2 _ Tryz.underlying24 (by rfl) (by kernel_rfl) [.string x.name, .slice sA x.steps.length sc] (by rfl) (by rfl) ?_)
          | (refine wpList_store_box (by rfl) 24 _ _ (by rfl) w.heap.size 0 #[.string x.name, .slice sA x.steps.length sc] (by rfl) (by rfl) 24 _ X04.out (by kernel_rfl) (by exact Nat.le_of_ble_eq_true rfl) (by intro u hu; simp at hu; rcases hu with rfl | rfl <;> rfl) ?_; intro w5 hb5 hg5))
        have hb6 : w5.heap[w.heap.size]? = some (.cells #[.string x.name, .slice sA x.steps.length sc] 24 (0, 0)) := by simpa [putAt] using hb5
        refine bodyPost_ret (results_box2 Tryz.results42 _ _ w.heap.size 24 _ _ (by rfl) hb6 Tryz.underlying24 (by rfl) (by kernel_rfl) _ (by rfl)) (by rfl) ?_
        have hyes := readDef_3 HER.out (by rw [← HXE.out]; exact HG.out) (by rw [← HXE.out]; exact of_decide_eq_true HQ.out)
        refine ⟨x, 0, sA, sc, by rw [hyes, HXE.out], by rw [hyes], rfl, ?_, ?_⟩
        · exact (HSW4.out.kept (Kept.of_grown hg5 fun g hg h => by have := Option.some.inj hg; omega)).mono fun _ _ h => Nat.le_of_lt h
        · exact Below.trans HLW4.out ((Below.refl _ _).grown hg5 (Below.size HLW4.out) fun k hk => by have := Option.some.inj hk; omega)
  · have hnz : ((er : Int) != 0) = true := by simp; omega
    have H0 := hide h0
    clear h0
    go_wp2_with (first
      | (refine wpList_load_box (by rfl) 24 _ (by rfl) (w.heap.size + 1 + 1) 0 (by rfl) 24 _ X2'.out 2 _ Tryz.underlying24 (by rfl) (by kernel_rfl) [.string ⟨#[]⟩, .slice none 0 0] (by rfl) (by rfl) ?_)
      | (refine wpList_store_box (by rfl) 24 _ _ (by rfl) w.heap.size 0 #[.string ⟨#[]⟩, .slice none 0 0] (by rfl) (by rfl) 24 _ X0'.out (by kernel_rfl) (by exact Nat.le_of_ble_eq_true rfl) (by intro u hu; simp at hu; rcases hu with rfl | rfl <;> rfl) ?_; intro w5 hb5 hg5))
    have hb6 : w5.heap[w.heap.size]? = some (.cells #[.string ⟨#[]⟩, .slice none 0 0] 24 (0, 0)) := by simpa [putAt] using hb5
    refine bodyPost_ret (results_box2 Tryz.results42 _ _ w.heap.size 24 _ _ (by rfl) hb6 Tryz.underlying24 (by rfl) (by kernel_rfl) _ (by rfl)) (by rfl) ?_
    have hr := readDef_1 (l := l) (by rw [HER.out]; exact H0.out)
    refine ⟨.zero, er, none, 0, by rw [hr], by rw [hr, HER.out], rfl, StepsAt.nil_ _ _, ?_⟩
    exact Below.trans HLW.out ((Below.refl _ _).grown hg5 (Below.size HLW.out) fun k hk => by have := Option.some.inj hk; omega)
end Go.Proofs.YtdkiopajilakcaaGreatDoor
/- The walks over field.Find and droverref01.Find: the last field of a number. -/
namespace Go.Proofs.YtdkiopajilakcaaGreatDoor
open Go.RowKit

def pfind (ps : List PF) (m : Int) : PF × Bool := match ps.reverse.find? (fun p => p.1 == m) with
  | some p => (p, true)
  | none => (pz, false)
theorem pfind_nil (m : Int) : pfind [] m = (pz, false) := rfl
theorem pfind_snoc (ps : List PF) (p : PF) (m : Int) : pfind (ps ++ [p]) m = if p.1 = m then (p, true) else pfind ps m := by
  unfold pfind
  rw [List.reverse_append]
  by_cases h : p.1 = m
  · simp [h]
  · have : (p.1 == m) = false := by simpa using h
    simp [this, h]
theorem pfind_append (ps qs : List PF) (m : Int) : pfind (ps ++ qs) m = if (pfind qs m).2 then pfind qs m else pfind ps m := by
  unfold pfind
  rw [List.reverse_append, List.find?_append]
  cases h : qs.reverse.find? (fun p => p.1 == m) <;> simp

def FindAt (fs : List Fd) (m : Int) (k : Nat) : Prop := pfind (fs.map Fd.pf) m = pfind ((fs.take k).map Fd.pf) m
theorem findAt_start {fs : List Fd} {n : Nat} (h : fs.length = n) (m : Int) : FindAt fs m n := by
  unfold FindAt
  rw [List.take_of_length_le (by omega)]
theorem FindAt.hit {fs : List Fd} {m : Int} {k : Nat} {f : Fd} (h : FindAt fs m (k + 1)) (ht : fs.take (k + 1) = fs.take k ++ [f]) (hm : f.num = m) : pfind (fs.map Fd.pf) m = (f.pf, true) := by
  unfold FindAt at h
  rw [h, ht, List.map_append, List.map_cons, List.map_nil, pfind_snoc, if_pos (by exact hm)]
theorem FindAt.miss {fs : List Fd} {m : Int} {k : Nat} {f : Fd} (h : FindAt fs m (k + 1)) (ht : fs.take (k + 1) = fs.take k ++ [f]) (hm : f.num ≠ m) : FindAt fs m k := by
  unfold FindAt at h ⊢
  rw [h, ht, List.map_append, List.map_cons, List.map_nil, pfind_snoc, if_neg (by exact hm)]
theorem FindAt.none {fs : List Fd} {m : Int} (h : FindAt fs m 0) : pfind (fs.map Fd.pf) m = (pz, false) := h

def FindIs (w : World) (q : PF × Bool) (e : Ending) (w' : World) : Prop :=
  ∃ f : Fd, e = .returned (.tuple #[.agg #[.int .i64 f.num, .bool f.text, .int .u64 f.v, .slice f.a f.n f.c], .bool q.2]) ∧ f.pf = q.1 ∧ f.ok w' w'.heap.size ∧ Later w w'

theorem fz_ok (w : World) (B : Nat) : fz.ok w B := ⟨⟨by decide, by decide⟩, by decide, Nat.le_refl _, Holds.nil_ _ _⟩
theorem Fd.ok.later {w w' : World} {f : Fd} (h : f.ok w w.heap.size) (hl : Later w w') : f.ok w' w'.heap.size := ⟨h.1, h.2.1, h.2.2.1, h.2.2.2.later hl⟩
end Go.Proofs.YtdkiopajilakcaaGreatDoor
/- The words of a text, as data: kinds of bytes, tokens, texts of tokens, names. -/
namespace Go.Proofs.YtdkiopajilakcaaGreatDoor

def smallB (b : Nat) : Bool := decide (97 ≤ b) && decide (b ≤ 122)
def digitB (b : Nat) : Bool := decide (48 ≤ b) && decide (b ≤ 57)
def partB (b : Nat) : Bool := smallB b || (digitB b || (b == 45 || b == 95))
def signB (b : Nat) : Bool := b == 123 || (b == 125 || b == 59)
def blankB (b : Nat) : Bool := b == 32 || (b == 9 || b == 10)
def kindB (b : Nat) : Nat := if smallB b then 1 else if digitB b then 2 else if signB b then 3 else if blankB b then 4 else if b == 35 then 5 else 0
def goB (k b : Nat) : Bool := if k = 1 then partB b else if k = 2 then digitB b else if k = 5 then b != 10 else false

structure Tok where
  k : Nat
  s : List UInt8
  n : Nat
  at_ : Nat
def valF (l : List UInt8) : Nat := l.foldl (fun n c => min 1000000 (10 * n + (c.toNat - 48))) 0

def more (k : Nat) (r : List UInt8) : List UInt8 := r.takeWhile (fun c => goB k c.toNat)
def rest (k : Nat) (r : List UInt8) : List UInt8 := r.dropWhile (fun c => goB k c.toNat)
theorem more_rest (k : Nat) (r : List UInt8) : more k r ++ rest k r = r := List.takeWhile_append_dropWhile ..
theorem rest_len (k : Nat) (r : List UInt8) : (more k r).length + (rest k r).length = r.length := by
  have := congrArg List.length (more_rest k r)
  simpa using this
def tokOf (k : Nat) (b : UInt8) (r : List UInt8) (a : Nat) : Tok := ⟨k, b :: more k r, if k = 2 then valF (b :: more k r) else 0, a⟩
def ahead (l : List Tok) (p : List Tok × Option Nat) : List Tok × Option Nat := match p.2 with
  | some e => ([], some e)
  | none => (l ++ p.1, none)

def toks (l : List UInt8) (a : Nat) : List Tok × Option Nat := match l with
  | [] => ([], none)
  | b :: r => if kindB b.toNat = 0 then ([], some a) else
    ahead (if kindB b.toNat ≤ 3 then [tokOf (kindB b.toNat) b r a] else []) (toks (rest (kindB b.toNat) r) (a + 1 + (more (kindB b.toNat) r).length))
termination_by l.length
decreasing_by
  have := rest_len (kindB b.toNat) r
  simp
  omega

theorem toks_nil (a : Nat) : toks [] a = ([], none) := by rw [toks]
theorem toks_bad {b : UInt8} (r : List UInt8) (a : Nat) (h : kindB b.toNat = 0) : toks (b :: r) a = ([], some a) := by rw [toks, if_pos h]
theorem toks_cons {b : UInt8} (r : List UInt8) (a : Nat) (h : kindB b.toNat ≠ 0) : toks (b :: r) a =
    ahead (if kindB b.toNat ≤ 3 then [tokOf (kindB b.toNat) b r a] else []) (toks (rest (kindB b.toNat) r) (a + 1 + (more (kindB b.toNat) r).length)) := by rw [toks, if_neg h]

theorem ahead_nil (p : List Tok × Option Nat) (h : p.2 ≠ none → p.1 = []) : ahead [] p = p := by
  obtain ⟨l, e⟩ := p
  cases e with
  | none => rfl
  | some x =>
    have : l = [] := h (by simp)
    rw [this]
    rfl
theorem ahead_err (l : List Tok) (p : List Tok × Option Nat) : (ahead l p).2 = p.2 := by
  obtain ⟨x, e⟩ := p
  cases e <;> rfl

theorem toks_none (l : List UInt8) (a : Nat) : (toks l a).2 ≠ none → (toks l a).1 = [] := by
  cases l with
  | nil => rw [toks_nil]; simp
  | cons b r =>
    by_cases h : kindB b.toNat = 0
    · rw [toks_bad r a h]; simp
    · rw [toks_cons r a h]
      intro h2
      rw [ahead_err] at h2
      unfold ahead
      cases hp : (toks (rest (kindB b.toNat) r) (a + 1 + (more (kindB b.toNat) r).length)).2 with
      | none => exact absurd hp h2
      | some _ => rfl

def Tok.wf (t : Tok) : Prop := ∃ b m, t.s = b :: m ∧ kindB b.toNat = t.k ∧ 1 ≤ t.k ∧ t.k ≤ 3 ∧ (∀ c ∈ m, goB t.k c.toNat = true) ∧ t.n = if t.k = 2 then valF t.s else 0

def Alike (a b : List Tok) : Prop := a.map (fun t => (t.k, t.s, t.n)) = b.map (fun t => (t.k, t.s, t.n))

theorem more_stop (k : Nat) (m r : List UInt8) (hm : ∀ c ∈ m, goB k c.toNat = true) (hr : ∀ c t, r = c :: t → goB k c.toNat = false) : more k (m ++ r) = m ∧ rest k (m ++ r) = r := by
  induction m with
  | nil =>
    cases r with
    | nil => exact ⟨rfl, rfl⟩
    | cons c t =>
      have := hr c t rfl
      simp [more, rest, this]
  | cons x m ih =>
    have hx := hm x (by simp)
    have ⟨i1, i2⟩ := ih (fun c hc => hm c (by simp [hc]))
    unfold more at i1
    unfold rest at i2
    unfold more rest
    simp [hx, i1, i2]

theorem tok_step {t : Tok} (h : t.wf) (r : List UInt8) (a : Nat) (hr : ∀ c u, r = c :: u → goB t.k c.toNat = false) : toks (t.s ++ r) a = ahead [{ t with at_ := a }] (toks r (a + t.s.length)) := by
  obtain ⟨b, m, hs, hk, h1, h3, hm, hn⟩ := h
  obtain ⟨k, s, n, at_⟩ := t
  simp only at hs hk h1 h3 hm hn hr ⊢
  subst hs hn
  have ⟨e1, e2⟩ := more_stop k m r hm hr
  rw [List.cons_append, toks_cons (m ++ r) a (by omega), hk, if_pos h3, e1, e2]
  simp only [tokOf, e1, List.length_cons]
  rw [show a + 1 + m.length = a + (m.length + 1) from by omega]

theorem goB_blank (k : Nat) (h1 : 1 ≤ k) (h3 : k ≤ 3) : goB k 32 = false := by
  have : k = 1 ∨ k = 2 ∨ k = 3 := by omega
  rcases this with rfl | rfl | rfl <;> decide
theorem blank_step (c : UInt8) (hc : kindB c.toNat = 4) (r : List UInt8) (a : Nat) : toks (c :: r) a = toks r (a + 1) := by
  have e1 : more 4 r = [] ∧ rest 4 r = r := by
    cases r <;> simp [more, rest, goB]
  rw [toks_cons r a (by omega), hc, e1.1, e1.2, if_neg (by omega), List.length_nil, Nat.add_zero]
  exact ahead_nil _ (toks_none _ _)

def textF : List Tok → List UInt8
  | [] => []
  | t :: r => t.s ++ r.flatMap (fun x => 32 :: x.s)

theorem back_go : ∀ (r : List Tok) (a : Nat), (∀ t ∈ r, t.wf) → (toks (r.flatMap (fun x => 32 :: x.s)) a).2 = none ∧ Alike (toks (r.flatMap (fun x => 32 :: x.s)) a).1 r
  | [], a, _ => by simp [toks_nil, Alike]
  | t :: r, a, h => by
    have ht := h t (by simp)
    obtain ⟨b, m, hs, hk, h1, h3, _⟩ := id ht
    have ih := back_go r (a + 1 + t.s.length) (fun x hx => h x (by simp [hx]))
    rw [List.flatMap_cons, List.cons_append, blank_step 32 (by decide), tok_step ht _ _ (by
      intro c u e
      cases r with
      | nil => simp at e
      | cons y r =>
        simp at e
        rw [← e.1]
        exact goB_blank t.k h1 h3)]
    unfold ahead
    simp only [ih.1]
    exact ⟨trivial, by unfold Alike at *; simp [ih.2]⟩
theorem back (ts : List Tok) (h : ∀ t ∈ ts, t.wf) : (toks (textF ts) 0).2 = none ∧ Alike (toks (textF ts) 0).1 ts := by
  cases ts with
  | nil => simp [textF, toks_nil, Alike]
  | cons t r =>
    have ht := h t (by simp)
    obtain ⟨b, m, hs, hk, h1, h3, _⟩ := id ht
    have ih := back_go r (0 + t.s.length) (fun x hx => h x (by simp [hx]))
    unfold textF
    rw [tok_step ht _ _ (by
      intro c u e
      cases r with
      | nil => simp at e
      | cons y r =>
        simp at e
        rw [← e.1]
        exact goB_blank t.k h1 h3)]
    unfold ahead
    simp only [ih.1]
    exact ⟨trivial, by unfold Alike at *; simpa using ih.2⟩
def nameF (l : List UInt8) : Bool := match l with
  | [] => false
  | b :: r => decide (r.length < 16) && (smallB b.toNat && r.all (fun c => partB c.toNat))
def answer (l : List UInt8) : List Tok × Nat × Nat :=
  if 400 < l.length then ([], 0, 12) else match (toks l 0).2 with
    | some e => ([], e, 11)
    | none => ((toks l 0).1, 0, 0)

end Go.Proofs.YtdkiopajilakcaaGreatDoor
/- A definition, as data: what may be in it, and what tokens say it. -/
namespace Go.Proofs.YtdkiopajilakcaaGreatDoor
open Go.RowKit

def outB (n lo hi : Int) : Bool := decide (n < lo) || decide (hi < n)
def stepBad (s : StepD) : Bool := !nameF s.name.data.toList || (outB s.stub 1 4 || (outB s.retry 0 9 || outB s.wait 1 99))
def namedB (done : List StepD) (s : StepD) : Bool := done.any fun a => decide (a.name = s.name)
def pivotB (done : List StepD) : Bool := done.any fun a => a.pivot
def stepErr (done : List StepD) (s : StepD) : Nat :=
  if stepBad s then 2 else if namedB done s || (pivotB done && s.pivot) then 9 else if s.undo == (pivotB done || s.pivot) then 10 else 0
def firstBad : List StepD → List StepD → Nat × Nat
  | _, [] => (0, 0)
  | done, s :: r => if stepErr done s = 0 then firstBad (done ++ [s]) r else (done.length + 1, stepErr done s)
def checkF (name : ByteArray) (steps : List StepD) : Nat × Nat :=
  if !nameF name.data.toList || (decide (steps.length < 1) || decide (8 < steps.length)) then (0, 2) else firstBad [] steps

theorem firstBad_at {l : List StepD} {k : Nat} {s : StepD} (h : l[k]? = some s) : firstBad (l.take k) (l.drop k) = if stepErr (l.take k) s = 0 then firstBad (l.take (k + 1)) (l.drop (k + 1)) else (k + 1, stepErr (l.take k) s) := by
  obtain ⟨hk, rfl⟩ := List.getElem?_eq_some_iff.1 h
  rw [List.drop_eq_getElem_cons hk, firstBad, List.take_succ_eq_append_getElem hk, List.length_take, Nat.min_eq_left (Nat.le_of_lt hk)]
theorem firstBad_end {l : List StepD} : firstBad (l.take l.length) (l.drop l.length) = (0, 0) := by
  rw [List.drop_length]; rfl
structure Rd where
  l : List Tok
  bad : Bool
def isP (f : Tok → Bool) (r : Rd) : Bool := match r.bad, r.l with
  | false, t :: _ => f t
  | _, _ => false
def Rd.go (r : Rd) : Rd := ⟨r.l.tail, r.bad⟩
def mayP (f : Tok → Bool) (r : Rd) : Rd := if isP f r then r.go else r
def mustP (f : Tok → Bool) (r : Rd) : Rd := if isP f r then r.go else ⟨r.l, true⟩
def noTok : Tok := ⟨0, [], 0, 0⟩
def tokP (f : Tok → Bool) (r : Rd) : Tok := if isP f r then r.l.headD noTok else noTok
def justF (s : List UInt8) (t : Tok) : Bool := decide (t.s = s)
def someF (k : Nat) (t : Tok) : Bool := t.k == k

abbrev wSaga : List UInt8 := [115, 97, 103, 97]
abbrev wStep : List UInt8 := [115, 116, 101, 112]
abbrev wStub : List UInt8 := [115, 116, 117, 98]
abbrev wRetry : List UInt8 := [114, 101, 116, 114, 121]
abbrev wWait : List UInt8 := [119, 97, 105, 116]
abbrev wUndo : List UInt8 := [117, 110, 100, 111]
abbrev wPivot : List UInt8 := [112, 105, 118, 111, 116]

def numP (s : List UInt8) (d : Nat) (r : Rd) : Nat := if isP (justF s) r then (tokP (someF 2) r.go).n else d
def numR (s : List UInt8) (r : Rd) : Rd := if isP (justF s) r then mustP (someF 2) r.go else r

def s1 (r : Rd) : Rd := mustP (someF 1) r
def s2 (r : Rd) : Rd := mustP (justF wStub) (s1 r)
def s3 (r : Rd) : Rd := mustP (someF 2) (s2 r)
def s4 (r : Rd) : Rd := numR wRetry (s3 r)
def s5 (r : Rd) : Rd := numR wWait (s4 r)
def s6 (r : Rd) : Rd := mayP (justF wUndo) (s5 r)
def s7 (r : Rd) : Rd := mayP (justF wPivot) (s6 r)
def s8 (r : Rd) : Rd := mustP (justF [59]) (s7 r)
def stepP (r : Rd) : StepD := ⟨⟨(tokP (someF 1) r).s.toArray⟩, ((tokP (someF 2) (s2 r)).n : Int), (numP wRetry 0 (s3 r) : Int), (numP wWait 10 (s4 r) : Int), isP (justF wUndo) (s5 r), isP (justF wPivot) (s6 r)⟩
def placeP (r : Rd) : Nat := (tokP (someF 1) r).at_

theorem go_len (r : Rd) : r.go.l.length = r.l.length - 1 := by simp [Rd.go]
theorem may_len (f : Tok → Bool) (r : Rd) : (mayP f r).l.length ≤ r.l.length := by
  unfold mayP; split
  · rw [go_len]; omega
  · exact Nat.le_refl _
theorem must_len (f : Tok → Bool) (r : Rd) : (mustP f r).l.length ≤ r.l.length := by
  unfold mustP; split
  · rw [go_len]; omega
  · exact Nat.le_refl _
theorem num_len (s : List UInt8) (r : Rd) : (numR s r).l.length ≤ r.l.length := by
  unfold numR; split
  · have := must_len (someF 2) r.go
    rw [go_len] at this
    omega
  · exact Nat.le_refl _
theorem s8_len (r : Rd) : (s8 r).l.length ≤ r.l.length := by
  have h1 : (s1 r).l.length ≤ r.l.length := must_len (someF 1) r
  have h2 : (s2 r).l.length ≤ (s1 r).l.length := must_len (justF wStub) (s1 r)
  have h3 : (s3 r).l.length ≤ (s2 r).l.length := must_len (someF 2) (s2 r)
  have h4 : (s4 r).l.length ≤ (s3 r).l.length := num_len wRetry (s3 r)
  have h5 : (s5 r).l.length ≤ (s4 r).l.length := num_len wWait (s4 r)
  have h6 : (s6 r).l.length ≤ (s5 r).l.length := may_len (justF wUndo) (s5 r)
  have h7 : (s7 r).l.length ≤ (s6 r).l.length := may_len (justF wPivot) (s6 r)
  have h8 : (s8 r).l.length ≤ (s7 r).l.length := must_len (justF [59]) (s7 r)
  omega
theorem isP_len {f : Tok → Bool} {r : Rd} (h : isP f r = true) : 0 < r.l.length := by
  unfold isP at h
  obtain ⟨l, b⟩ := r
  cases b with
  | true => simp at h
  | false =>
    cases l with
    | nil => simp at h
    | cons t l => simp
def stepsP (r : Rd) : List (StepD × Nat) × Rd :=
  if _h : isP (justF wStep) r = true then ((stepP r.go, placeP r.go) :: (stepsP (s8 r.go)).1, (stepsP (s8 r.go)).2) else ([], r)
termination_by r.l.length
decreasing_by
  all_goals
    have h1 := isP_len (by assumption)
    have h2 := s8_len r.go
    have h3 := go_len r
    omega
def d1 (ts : List Tok) : Rd := mustP (justF wSaga) ⟨ts, false⟩
def d2 (ts : List Tok) : Rd := mustP (someF 1) (d1 ts)
def d3 (ts : List Tok) : Rd := mustP (justF [123]) (d2 ts)
def d4 (ts : List Tok) : Rd := (stepsP (d3 ts)).2
def d5 (ts : List Tok) : Rd := mustP (justF [125]) (d4 ts)
def d6 (ts : List Tok) : Rd := ⟨(d5 ts).l, (d5 ts).bad || !(d5 ts).l.isEmpty⟩
end Go.Proofs.YtdkiopajilakcaaGreatDoor
/- What a definition means, as data: its pivot, tries, the way down, and sums. -/
namespace Go.Proofs.YtdkiopajilakcaaGreatDoor
open Go.RowKit

def triesF (s : StepD) : Int := if outB s.retry 0 9 then 0 else s.retry + 1
def triesN (l : List StepD) (k : Int) : Int := if k < 1 ∨ (l.length : Int) < k then 0 else ((l[(k - 1).toNat]?).map triesF).getD 0
theorem firstBad_good : ∀ (l done : List StepD), (firstBad done l).2 = 0 → ∀ s ∈ l, stepBad s = false
  | [], _, _, _, h => by cases h
  | x :: r, done, h, s, hs => by
    unfold firstBad at h
    split at h
    · rename_i h0
      rcases List.mem_cons.1 hs with rfl | hs
      · cases hb : stepBad s with
        | false => rfl
        | true => unfold stepErr at h0; rw [if_pos hb] at h0; cases h0
      · exact firstBad_good r _ h s hs
    · exact absurd h ‹_›
theorem check_good {name : ByteArray} {l : List StepD} (h : (checkF name l).2 = 0) : l.length ≤ 8 ∧ 1 ≤ l.length ∧ nameF name.data.toList = true ∧ ∀ s ∈ l, stepBad s = false := by
  unfold checkF at h
  split at h
  · cases h
  · rename_i hb
    have h1 : nameF name.data.toList = true := by cases hq : nameF name.data.toList <;> simp_all
    have h2 : ¬ l.length < 1 := fun hl => hb (by rw [h1, decide_eq_true hl]; rfl)
    have h3 : ¬ 8 < l.length := fun hl => hb (by rw [h1, decide_eq_true hl]; simp)
    exact ⟨by omega, by omega, h1, firstBad_good l [] h⟩
theorem good_nums {s : StepD} (h : stepBad s = false) : 0 ≤ s.retry ∧ s.retry ≤ 9 ∧ 1 ≤ s.wait ∧ s.wait ≤ 99 := by
  unfold stepBad outB at h
  simp at h
  omega
theorem tries_good {s : StepD} (h : stepBad s = false) : triesF s = s.retry + 1 := by
  have := good_nums h
  unfold triesF outB
  rw [if_neg (by simp; omega)]
end Go.Proofs.YtdkiopajilakcaaGreatDoor
/- A saga, as data: what its calls make of it. -/
namespace Go.Proofs.YtdkiopajilakcaaGreatDoor
open Go.RowKit

structure Hits where
  a0 : Bool
  a1 : Bool
  a2 : Bool
  a3 : Bool
  a4 : Bool
  a5 : Bool
  a6 : Bool
  a7 : Bool
  deriving DecidableEq
def Hits.l (x : Hits) : List Bool := [x.a0, x.a1, x.a2, x.a3, x.a4, x.a5, x.a6, x.a7]
def Hits.cells (x : Hits) : List Value := [.bool x.a0, .bool x.a1, .bool x.a2, .bool x.a3, .bool x.a4, .bool x.a5, .bool x.a6, .bool x.a7]
abbrev Hits.val (x : Hits) : Value := .agg x.cells.toArray
def Hits.set (x : Hits) (k : Nat) (b : Bool) : Hits := match k with
  | 0 => { x with a0 := b }
  | 1 => { x with a1 := b }
  | 2 => { x with a2 := b }
  | 3 => { x with a3 := b }
  | 4 => { x with a4 := b }
  | 5 => { x with a5 := b }
  | 6 => { x with a6 := b }
  | 7 => { x with a7 := b }
  | _ => x
def upH (k : Int) : Hits := ⟨decide (0 < k), decide (1 < k), decide (2 < k), decide (3 < k), decide (4 < k), decide (5 < k), decide (6 < k), decide (7 < k)⟩

structure SagaD where
  name : ByteArray
  p : Option Addr
  n : Nat
  c : Nat
  st : Int
  step : Int
  tr : Int
  hit : Hits
def SagaD.cells (s : SagaD) : List Value := [.string s.name, .slice s.p s.n s.c, .int .i64 s.st, .int .i64 s.step, .int .i64 s.tr, .bool s.hit.a0, .bool s.hit.a1, .bool s.hit.a2, .bool s.hit.a3, .bool s.hit.a4, .bool s.hit.a5, .bool s.hit.a6, .bool s.hit.a7]
abbrev SagaD.v (s : SagaD) : Value := .slice s.p s.n s.c
abbrev SagaD.val (s : SagaD) : Value := .agg s.cells.toArray
def SagaD.zero : SagaD := ⟨⟨#[]⟩, none, 0, 0, 0, 0, 0, upH 0⟩
def SagaD.at_ (s : SagaD) (st step : Int) : SagaD := ⟨s.name, s.p, s.n, s.c, st, step, 1, s.hit⟩
def SagaD.hitN (s : SagaD) (b : Bool) : SagaD := ⟨s.name, s.p, s.n, s.c, s.st, s.step, s.tr, s.hit.set (s.step - 1).toNat b⟩
def SagaD.withV (s : SagaD) (p : Option Addr) (n c : Nat) : SagaD := ⟨s.name, p, n, c, s.st, s.step, s.tr, s.hit⟩
def cameF (s : SagaD) : Bool := decide (s.hit = upH (s.step - 1)) || decide (s.hit = upH s.step)
def undoAt (l : List StepD) (k : Int) : Bool := ((l[(k - 1).toNat]?).map (fun s => s.undo)).getD false
def goodF (l : List StepD) (s : SagaD) : Bool :=
  if (checkF s.name l).2 ≠ 0 then false
  else if s.st = 1 then decide (1 ≤ s.tr) && (decide (s.tr ≤ triesN l s.step) && cameF s)
  else if s.st = 2 then decide (1 ≤ s.tr) && (decide (s.tr ≤ triesN l s.step) && (decide (s.hit = upH s.step) && undoAt l s.step))
  else if s.st = 5 then decide (s.tr = 0) && (decide (0 < triesN l s.step) && cameF s)
  else if s.st = 3 then decide (s.tr = 0) && (decide (s.step = 0) && decide (s.hit = upH l.length))
  else if s.st = 4 then decide (s.tr = 0) && (decide (s.step = 0) && decide (s.hit = upH 0))
  else false
structure CmdD where
  stub : Int
  step : Int
  tr : Int
  back : Bool
def CmdD.cells (c : CmdD) : List Value := [.int .i64 0, .int .i64 c.stub, .int .i64 0, .int .i64 c.step, .int .i64 c.tr, .bool c.back]
abbrev CmdD.val (c : CmdD) : Value := .agg c.cells.toArray
def wantsB (l : List StepD) (s : SagaD) : Bool := goodF l s && (decide (s.st = 1) || decide (s.st = 2))
end Go.Proofs.YtdkiopajilakcaaGreatDoor
/- A saga in bytes, on data alone: its fields, what either reader keeps of a record's fields, and that good sagas come back. -/
namespace Go.Proofs.YtdkiopajilakcaaGreatDoor
open Go.RowKit

structure SagaQ where
  d : DefD
  st : Int
  step : Int
  tr : Int
  hit : Hits
def SagaQ.zero : SagaQ := ⟨.zero, 0, 0, 0, upH 0⟩
def SagaQ.sd (q : SagaQ) : SagaD := ⟨q.d.name, none, 0, 0, q.st, q.step, q.tr, q.hit⟩
def SagaD.q (s : SagaD) (l : List StepD) : SagaQ := ⟨⟨s.name, l⟩, s.st, s.step, s.tr, s.hit⟩
def SagaQ.good (q : SagaQ) : Bool := goodF q.d.steps q.sd
def pbit (k : Int) (b : Bool) : List PF := if b then [pint 5 k] else []
def hitF (h : Hits) : List PF := [pbit 1 h.a0, pbit 2 h.a1, pbit 3 h.a2, pbit 4 h.a3, pbit 5 h.a4, pbit 6 h.a5, pbit 7 h.a6, pbit 8 h.a7].flatten
def SagaQ.F (q : SagaQ) : List PF := [ptext 1 (defB q.d), pnum 2 q.st, pnum 3 q.step, pnum 4 q.tr, hitF q.hit].flatten
def SagaQ.B (q : SagaQ) : List Nat := prec q.F
def sagaO (q : SagaQ) : List Nat := if q.good then q.B else []

def hitSet (h : Hits) (n : Int) : Hits := if 1 ≤ n ∧ n ≤ 8 then h.set (n - 1).toNat true else h
def hitOn (h : Hits) (f : PF) : Hits := if f.1 = 5 then hitSet h (zag f.2.2.1) else h
def hitsOf (l : List PF) (h : Hits) : Hits := l.foldl hitOn h
def sagOn (q : SagaQ) (f : PF) : SagaQ :=
  if f.1 = 1 then { q with d := (readDef f.2.2.2).2 }
  else if f.1 = 2 then { q with st := zag f.2.2.1 }
  else if f.1 = 3 then { q with step := zag f.2.2.1 }
  else if f.1 = 4 then { q with tr := zag f.2.2.1 }
  else { q with hit := hitOn q.hit f }
def sagC (l : List PF) : SagaQ := l.foldl sagOn .zero
def valQ (l : List PF) (n : Int) : Int := zag (pfind l n).1.2.2.1
def rowQ (l : List PF) (n : Int) : List Nat := (pfind l n).1.2.2.2
def sagD (l : List PF) : SagaQ := ⟨(readDef (rowQ l 1)).2, valQ l 2, valQ l 3, valQ l 4, hitsOf l (upH 0)⟩

theorem sagOn_num2 (q : SagaQ) (v : Int) (h : q.st = 0) : (pnum 2 v).foldl sagOn q = { q with st := v } := by
  unfold pnum
  split
  · rename_i e; subst e; cases q; simp only at h; subst h; rfl
  · simp [sagOn, zag_zig]
theorem sagOn_num3 (q : SagaQ) (v : Int) (h : q.step = 0) : (pnum 3 v).foldl sagOn q = { q with step := v } := by
  unfold pnum
  split
  · rename_i e; subst e; cases q; simp only at h; subst h; rfl
  · simp [sagOn, zag_zig]
theorem sagOn_num4 (q : SagaQ) (v : Int) (h : q.tr = 0) : (pnum 4 v).foldl sagOn q = { q with tr := v } := by
  unfold pnum
  split
  · rename_i e; subst e; cases q; simp only at h; subst h; rfl
  · simp [sagOn, zag_zig]
theorem sagOn_bit (q : SagaQ) (k : Int) (b : Bool) : (pbit k b).foldl sagOn q = { q with hit := (pbit k b).foldl hitOn q.hit } := by
  unfold pbit
  cases b
  · rfl
  · simp [sagOn, pint]
theorem sagOn_hits (q : SagaQ) (h : Hits) : (hitF h).foldl sagOn q = { q with hit := (hitF h).foldl hitOn q.hit } := by
  unfold hitF
  simp only [List.flatten_cons, List.flatten_nil, List.append_nil, List.foldl_append, sagOn_bit]
theorem hits_back : ∀ a0 a1 a2 a3 a4 a5 a6 a7 : Bool, (hitF ⟨a0, a1, a2, a3, a4, a5, a6, a7⟩).foldl hitOn (upH 0) = ⟨a0, a1, a2, a3, a4, a5, a6, a7⟩ := by
  decide +kernel
theorem name_size {n : ByteArray} (h : nameF n.data.toList = true) : n.size ≤ 16 := by
  unfold nameF at h
  split at h
  · cases h
  · rename_i b r e
    simp only [Bool.and_eq_true, decide_eq_true_eq] at h
    have h1 : n.data.toList.length = r.length + 1 := by rw [e]; rfl
    have h2 : n.size = n.data.toList.length := by rw [Array.length_toList]; rfl
    omega
theorem name_some {n : ByteArray} (h : nameF n.data.toList = true) : n ≠ ⟨#[]⟩ := by
  rintro rfl
  cases h
theorem step_fits {s : StepD} (h : stepBad s = false) : s.sm 16 ∧ stepG s = true := by
  unfold stepBad outB at h
  simp only [Bool.or_eq_false_iff, Bool.not_eq_false', decide_eq_false_iff_not] at h
  have hn := name_size (n := s.name) (by first | exact h.1 | exact h.1.1 | exact h.1.1.1)
  unfold stepG mayB StepD.sm I64
  simp
  omega
theorem check_fits {n : ByteArray} {l : List StepD} (h : (checkF n l).2 = 0) : DefD.sm 16 ⟨n, l⟩ ∧ defG ⟨n, l⟩ = true ∧ defB ⟨n, l⟩ ≠ [] := by
  obtain ⟨h8, h1, hn, hs⟩ := check_good h
  have hz := name_size hn
  have hsm : DefD.sm 16 ⟨n, l⟩ := ⟨hz, by show l.length ≤ 16; omega, fun s hx => (step_fits (hs s hx)).1⟩
  refine ⟨hsm, ?_, fun e => ?_⟩
  · unfold defG
    simp only [Bool.and_eq_true, decide_eq_true_eq, List.all_eq_true]
    exact ⟨⟨hz, h8⟩, fun s hx => (step_fits (hs s hx)).2⟩
  · have e0 : (⟨n, l⟩ : DefD) = .zero := defF_nil ((prec_nil_iff (defF_fine hsm (by omega))).1 e)
    exact name_some hn (congrArg DefD.name e0)
theorem good_check {l : List StepD} {s : SagaD} (h : goodF l s = true) : (checkF s.name l).2 = 0 := by
  unfold goodF at h
  split at h
  · cases h
  · rename_i e
    exact Classical.not_not.1 e
theorem readDef_back {d : DefD} (h : d.sm 16) (hg : defG d = true) : readDef (defB d) = (0, d) := by
  have h1 : pread (defB d) = (0, defF d) := pread_fine (defF_fine h (by omega))
  have h2 := defR_B h (by omega)
  rw [readDef_3 (by rw [h1]) (by rw [h2]; exact hg) (by rw [h2]), h2]
theorem good_fits {q : SagaQ} (h : q.good = true) : DefD.sm 16 q.d ∧ defG q.d = true ∧ defB q.d ≠ [] := check_fits (good_check h)
theorem sagC_F {q : SagaQ} (h : q.good = true) : sagC q.F = q := by
  obtain ⟨hsm, hg, hne⟩ := good_fits h
  have e1 : (ptext 1 (defB q.d)).foldl sagOn .zero = { SagaQ.zero with d := q.d } := by
    unfold ptext
    rw [if_neg hne]
    simp [sagOn, readDef_back hsm hg, SagaQ.zero]
  unfold sagC SagaQ.F
  simp only [List.flatten_cons, List.flatten_nil, List.append_nil, List.foldl_append]
  rw [e1, sagOn_num2 _ _ rfl, sagOn_num3 _ _ rfl, sagOn_num4 _ _ rfl, sagOn_hits]
  obtain ⟨d, st, step, tr, a0, a1, a2, a3, a4, a5, a6, a7⟩ := q
  show SagaQ.mk d st step tr ((hitF ⟨a0, a1, a2, a3, a4, a5, a6, a7⟩).foldl hitOn (upH 0)) = _
  rw [hits_back]
theorem pfind_no {a : List PF} {m : Int} (h : ∀ f ∈ a, f.1 ≠ m) : pfind a m = (pz, false) := by
  unfold pfind
  rw [List.find?_eq_none.2 (by intro x hx; simpa using h x (List.mem_reverse.1 hx))]
theorem pfind_one (p : PF) : pfind [p] p.1 = (p, true) := by
  have h := pfind_snoc [] p p.1
  rw [if_pos rfl, List.nil_append] at h
  exact h
theorem in_text {n : Int} {l : List Nat} : ∀ f ∈ ptext n l, f.1 = n := by
  intro f hf
  unfold ptext at hf
  split at hf
  · cases hf
  · rw [List.mem_singleton.1 hf]
theorem in_num {n v : Int} : ∀ f ∈ pnum n v, f.1 = n := by
  intro f hf
  unfold pnum at hf
  split at hf
  · cases hf
  · rw [List.mem_singleton.1 hf]
theorem in_bit {k : Int} {b : Bool} : ∀ f ∈ pbit k b, f.1 = 5 := by
  intro f hf
  unfold pbit at hf
  split at hf
  · rw [List.mem_singleton.1 hf]; rfl
  · cases hf
theorem in_hits {h : Hits} : ∀ f ∈ hitF h, f.1 = 5 := by
  intro f hf
  unfold hitF at hf
  obtain ⟨l, hl, hf⟩ := List.mem_flatten.1 hf
  simp only [List.mem_cons, List.not_mem_nil, or_false] at hl
  rcases hl with rfl | rfl | rfl | rfl | rfl | rfl | rfl | rfl <;> exact in_bit f hf
theorem valQ_at {a b : List PF} {n v : Int} (ha : ∀ f ∈ a, f.1 ≠ n) (hb : ∀ f ∈ b, f.1 ≠ n) : valQ (a ++ (pnum n v ++ b)) n = v := by
  unfold valQ
  rw [pfind_append, pfind_append, pfind_no hb, pfind_no ha]
  unfold pnum
  by_cases hv : v = 0
  · rw [if_pos hv, pfind_nil, hv]
    rfl
  · rw [if_neg hv, show pfind [((n, false, zig v, []) : PF)] n = ((n, false, zig v, []), true) from pfind_one (n, false, zig v, [])]
    simp [zag_zig]
theorem rowQ_at {b : List PF} {n : Int} {l : List Nat} (hl : l ≠ []) (hb : ∀ f ∈ b, f.1 ≠ n) : rowQ (ptext n l ++ b) n = l := by
  unfold rowQ ptext
  rw [if_neg hl, pfind_append, pfind_no hb, show pfind [((n, true, 0, l) : PF)] n = ((n, true, 0, l), true) from pfind_one (n, true, 0, l)]
  simp
theorem hits_skip : ∀ (a : List PF) (x : Hits), (∀ f ∈ a, f.1 ≠ 5) → a.foldl hitOn x = x
  | [], _, _ => rfl
  | f :: r, x, h => by
    have h1 : hitOn x f = x := by unfold hitOn; rw [if_neg (h f (by simp))]
    rw [List.foldl_cons, h1, hits_skip r x (fun g hg => h g (by simp [hg]))]
theorem sagD_F {q : SagaQ} (h : q.good = true) : sagD q.F = q := by
  obtain ⟨hsm, hg, hne⟩ := good_fits h
  have hF : q.F = ptext 1 (defB q.d) ++ (pnum 2 q.st ++ (pnum 3 q.step ++ (pnum 4 q.tr ++ hitF q.hit))) := by
    unfold SagaQ.F
    simp only [List.flatten_cons, List.flatten_nil, List.append_nil, List.append_assoc]
  have n1 : ∀ {m : Int}, (1 : Int) ≠ m → ∀ f ∈ ptext 1 (defB q.d), f.1 ≠ m := fun hm f hf => by rw [in_text f hf]; exact hm
  have n2 : ∀ {m : Int}, (2 : Int) ≠ m → ∀ f ∈ pnum 2 q.st, f.1 ≠ m := fun hm f hf => by rw [in_num f hf]; exact hm
  have n3 : ∀ {m : Int}, (3 : Int) ≠ m → ∀ f ∈ pnum 3 q.step, f.1 ≠ m := fun hm f hf => by rw [in_num f hf]; exact hm
  have n4 : ∀ {m : Int}, (4 : Int) ≠ m → ∀ f ∈ pnum 4 q.tr, f.1 ≠ m := fun hm f hf => by rw [in_num f hf]; exact hm
  have n5 : ∀ {m : Int}, (5 : Int) ≠ m → ∀ f ∈ hitF q.hit, f.1 ≠ m := fun hm f hf => by rw [in_hits f hf]; exact hm
  have ap : ∀ {a b : List PF} {m : Int}, (∀ f ∈ a, f.1 ≠ m) → (∀ f ∈ b, f.1 ≠ m) → ∀ f ∈ a ++ b, f.1 ≠ m := fun h1 h2 f hf => (List.mem_append.1 hf).elim (h1 f) (h2 f)
  have v1 : rowQ q.F 1 = defB q.d := by rw [hF]; exact rowQ_at hne (ap (n2 (by decide)) (ap (n3 (by decide)) (ap (n4 (by decide)) (n5 (by decide)))))
  have v2 : valQ q.F 2 = q.st := by rw [hF]; exact valQ_at (n1 (by decide)) (ap (n3 (by decide)) (ap (n4 (by decide)) (n5 (by decide))))
  have v3 : valQ q.F 3 = q.step := by
    rw [hF, ← List.append_assoc]
    exact valQ_at (ap (n1 (by decide)) (n2 (by decide))) (ap (n4 (by decide)) (n5 (by decide)))
  have v4 : valQ q.F 4 = q.tr := by
    rw [hF, ← List.append_assoc, ← List.append_assoc]
    exact valQ_at (ap (ap (n1 (by decide)) (n2 (by decide))) (n3 (by decide))) (n5 (by decide))
  have v5 : hitsOf q.F (upH 0) = q.hit := by
    unfold hitsOf
    rw [hF, List.foldl_append, List.foldl_append, List.foldl_append, List.foldl_append, hits_skip _ _ (n1 (by decide)), hits_skip _ _ (n2 (by decide)), hits_skip _ _ (n3 (by decide)), hits_skip _ _ (n4 (by decide))]
    obtain ⟨d, st, step, tr, a0, a1, a2, a3, a4, a5, a6, a7⟩ := q
    exact hits_back a0 a1 a2 a3 a4 a5 a6 a7
  unfold sagD
  rw [v1, v2, v3, v4, v5, readDef_back hsm hg]
def readS (l : List Nat) : Nat × SagaQ := if (pread l).1 ≠ 0 then ((pread l).1, .zero) else if (sagC (pread l).2).good = true ∧ (sagC (pread l).2).B = l then (0, sagC (pread l).2) else (4, .zero)
def readSD (l : List Nat) : Nat × SagaQ := if (pread l).1 ≠ 0 then ((pread l).1, .zero) else if (sagD (pread l).2).good = true ∧ (sagD (pread l).2).B = l then (0, sagD (pread l).2) else (4, .zero)
def SagaQ.fits (q : SagaQ) : Prop := I64 q.st ∧ I64 q.step ∧ I64 q.tr
theorem sagF_fine {q : SagaQ} (h : q.good = true) (hi : q.fits) : ∀ p ∈ q.F, fine p := by
  obtain ⟨hsm, hg, hne⟩ := good_fits h
  have hl := defB_len hsm (by omega)
  refine mem_flatten_cons (fine_text (by omega) (by omega) (by omega) (defB_small hsm (by omega))) (mem_flatten_cons (fine_num (by omega) (by omega) hi.1) (mem_flatten_cons (fine_num (by omega) (by omega) hi.2.1) (mem_flatten_cons (fine_num (by omega) (by omega) hi.2.2) (mem_flatten_cons ?_ (by simp)))))
  intro p hp
  unfold hitF at hp
  obtain ⟨l, hl, hp⟩ := List.mem_flatten.1 hp
  have hb : ∀ (k : Int) (b : Bool), I64 k → ∀ p ∈ pbit k b, fine p := fun k b hk p hp => by
    unfold pbit at hp
    split at hp
    · rw [List.mem_singleton.1 hp]; exact fine_int (by omega) (by omega) hk
    · cases hp
  simp only [List.mem_cons, List.not_mem_nil, or_false] at hl
  rcases hl with rfl | rfl | rfl | rfl | rfl | rfl | rfl | rfl <;> exact hb _ _ ⟨by decide, by decide⟩ p hp
theorem pread_B {q : SagaQ} (h : q.good = true) (hi : q.fits) : pread q.B = (0, q.F) := pread_fine (sagF_fine h hi)
end Go.Proofs.YtdkiopajilakcaaGreatDoor
/- Contracts of the library laid at this program: its numbers, and that its bodies are the ones that the contracts speak of. -/
namespace Go.Proofs.YtdkiopajilakcaaGreatDoor
open Go.Shelf
def Tryz.ixbA_ren : Go.Shelf.Ren := ⟨fun | 137 => 175 | 217 => 179 | 266 => 180 | n => n, fun | 9 => 9 | 5 => 5 | 3 => 3 | n => n, fun | n => n⟩
theorem Tryz.ixbA : Go.Proofs.Lays.n137 Tryz.prog Tryz.ixbA_ren := {
  mixed := by kernel_rfl
  f137 := Tryz.func175.trans (congrArg some (by kernel_rfl))
  f217 := Tryz.func179.trans (congrArg some (by kernel_rfl))
  f266 := Tryz.func180.trans (congrArg some (by kernel_rfl))
  t3 := Tryz.underlying3
  a3 := Tryz.isAgg3
  z3 := Tryz.sizeOf3
  v3 := Tryz.zeroValue3
  t5 := Tryz.underlying5
  a5 := Tryz.isAgg5
  z5 := Tryz.sizeOf5
  v5 := Tryz.zeroValue5
  t9 := Tryz.underlying9
  a9 := Tryz.isAgg9
  z9 := Tryz.sizeOf9
  v9 := Tryz.zeroValue9 }
def Tryz.vruneA_ren : Go.Shelf.Ren := ⟨fun | 119 => 176 | n => n, fun | 21 => 21 | 4 => 4 | n => n, fun | n => n⟩
theorem Tryz.vruneA : Go.Proofs.Lays.n119 Tryz.prog Tryz.vruneA_ren := {
  mixed := by kernel_rfl
  f119 := Tryz.func176.trans (congrArg some (by kernel_rfl))
  t4 := Tryz.underlying4
  a4 := Tryz.isAgg4
  z4 := Tryz.sizeOf4
  v4 := Tryz.zeroValue4
  t21 := Tryz.underlying21
  a21 := Tryz.isAgg21
  z21 := Tryz.sizeOf21
  v21 := Tryz.zeroValue21 }
def Tryz.iruneA_ren : Go.Shelf.Ren := ⟨fun | 152 => 173 | 137 => 175 | 119 => 176 | 224 => 177 | 225 => 178 | 217 => 179 | 266 => 180 | n => n, fun | 9 => 9 | 21 => 21 | 3 => 3 | 4 => 4 | 5 => 5 | 0 => 0 | 46 => 92 | n => n, fun | n => n⟩
theorem Tryz.iruneA : Go.Proofs.Lays.n152 Tryz.prog Tryz.iruneA_ren := {
  mixed := by kernel_rfl
  f119 := Tryz.func176.trans (congrArg some (by kernel_rfl))
  f137 := Tryz.func175.trans (congrArg some (by kernel_rfl))
  f152 := Tryz.func173.trans (congrArg some (by kernel_rfl))
  f217 := Tryz.func179.trans (congrArg some (by kernel_rfl))
  f224 := Tryz.func177.trans (congrArg some (by kernel_rfl))
  f225 := Tryz.func178.trans (congrArg some (by kernel_rfl))
  f266 := Tryz.func180.trans (congrArg some (by kernel_rfl))
  t0 := Tryz.underlying0
  a0 := Tryz.isAgg0
  z0 := Tryz.sizeOf0
  v0 := Tryz.zeroValue0
  t3 := Tryz.underlying3
  a3 := Tryz.isAgg3
  z3 := Tryz.sizeOf3
  v3 := Tryz.zeroValue3
  t4 := Tryz.underlying4
  a4 := Tryz.isAgg4
  z4 := Tryz.sizeOf4
  v4 := Tryz.zeroValue4
  t5 := Tryz.underlying5
  a5 := Tryz.isAgg5
  z5 := Tryz.sizeOf5
  v5 := Tryz.zeroValue5
  t9 := Tryz.underlying9
  a9 := Tryz.isAgg9
  z9 := Tryz.sizeOf9
  v9 := Tryz.zeroValue9
  t21 := Tryz.underlying21
  a21 := Tryz.isAgg21
  z21 := Tryz.sizeOf21
  v21 := Tryz.zeroValue21
  t46 := Tryz.underlying92
  a46 := Tryz.isAgg92
  z46 := Tryz.sizeOf92
  v46 := Tryz.zeroValue92 }
end Go.Proofs.YtdkiopajilakcaaGreatDoor
/- Which bytes a text has: the library's IndexRune and ContainsRune at short texts of small bytes, whatever rune is asked. -/
namespace Go.Proofs.YtdkiopajilakcaaGreatDoor
open Go.RowKit

theorem ixb_none (l : List UInt8) (c : UInt8) (h : ∀ b ∈ l, b ≠ c) : Lib.indexByte l c = -1 := by
  induction l with
  | nil => rfl
  | cons b l ih =>
    have hb : (b == c) = false := by simpa using h b (by simp)
    simp [Lib.indexByte, hb, ih (fun x hx => h x (by simp [hx]))]
theorem ixb_yes (l : List UInt8) (c : UInt8) : decide (0 ≤ Lib.indexByte l c) = l.contains c := by
  induction l with
  | nil => rfl
  | cons b l ih =>
    by_cases hb : b = c
    · subst hb
      simp [Lib.indexByte]
    · have hb' : (b == c) = false := by simpa using hb
      have hc' : (c == b) = false := by simpa using (fun e : c = b => hb e.symm)
      unfold Lib.indexByte
      rw [List.contains_cons, hb', hc', Bool.false_or, ← ih]
      by_cases h1 : Lib.indexByte l c = -1
      · simp [h1]
      · have : (Lib.indexByte l c == -1) = false := by simpa using h1
        have hge : -1 ≤ Lib.indexByte l c := by
          clear ih hb hb' hc' h1 this
          induction l with
          | nil => exact Int.le_refl _
          | cons x l ih =>
            unfold Lib.indexByte
            repeat' split
            all_goals omega
        simp [this]
        omega

set_option maxHeartbeats 2000000 in
set_option maxRecDepth 1000000 in
theorem irune_high (s : ByteArray) (r : Nat) (w : World) (hs : ∀ b ∈ s.data.toList, b.toNat < 128) (h0 : 128 ≤ r) (h1 : r < 2147483648) :
    Calls Tryz.prog 173 #[.string s, .int .i32 (r : Int)] w fun e w' => e = .returned (.int .i64 (-1)) ∧ Later w w' := by
  have HL0 : Hid (Later w w) := Later.refl w
  have hV := fun W : World => Any.utf8_ValidRune (P := Tryz.prog) (ρ := Tryz.vruneA_ren) { Tryz.vruneA with } (r : Int) W
  have hget : ∀ (j : Nat) (hj : j < s.size), (s[j]'hj).toNat < 128 := fun j hj => hs _ (by
    show s.data[j] ∈ s.data.toList
    simp)
  go_enter Tryz.func173, Tryz.ntmps173
  have hr0 : (0 : Int) ≤ (r : Int) := by omega
  have hr1 : ¬ ((r : Int) < 128) := by omega
  by_cases he : r = 65533
  · have he' : (r : Int) = 65533 := by omega
    clear he hV
    go_wp2
    go_loopw [] (fun wr => ∃ pos : Nat, wr.heap[w.heap.size]? = some (.stringIter s pos) ∧ Later w wr) (fun wr => s.size - wr.iterPos w.heap.size)
    case atStart =>
      exact ⟨0, World.iter_heap w s 0, (Below.refl _ w).alloc (Nat.le_refl _) _⟩
    case round =>
      obtain ⟨pos, hit, hbw⟩ := hrel
      have hsz : w.heap.size < wr.heap.size := (Array.getElem?_eq_some_iff.1 hit).1
      by_cases hp : pos < s.size
      · have ha := hget pos hp
        have hnx : ∀ ty, (Instr.next (.pointer (some ⟨w.heap.size, 0, none⟩)) true ty).run Tryz.prog wr = _ := fun ty => Lib.run_next_ascii_at wr w.heap.size s pos ty hit hp ha
        have hx : ¬ (((s[pos]'hp).toNat : Int) = 65533) := by omega
        go_wp2
        go_roundw
        case rel => exact ⟨pos + 1, Lib.iterAt_heap wr w.heap.size s pos (pos + 1) hit, Lib.below_iterAt hbw (Nat.le_refl _) s (pos + 1)⟩
        case measure =>
          simp only [World.iterPos, Lib.iterAt_heap wr w.heap.size s pos (pos + 1) hit, hit]
          omega
      · have hnx : ∀ ty, (Instr.next (.pointer (some ⟨w.heap.size, 0, none⟩)) true ty).run Tryz.prog wr = _ := fun ty => Lib.run_next_end_at wr w.heap.size s pos ty hit hp
        go_wp2
        go_ret
        exact ⟨rfl, hbw⟩
  · have he' : ((r : Int) == 65533) = false := by
      rw [beq_eq_false_iff_ne]
      omega
    have hQ := fun W : World => hV W
    clear he hV
    cases hv : Lib.validRune (r : Int) with
    | false =>
      simp only [hv] at hQ
      go_wp2_with (go_at_call 176; refine (hQ _).mono ?_; rintro e w' ⟨rfl, rfl⟩)
      go_ret
      exact ⟨rfl, HL0.out⟩
    | true =>
      simp only [hv] at hQ
      have hval : Utf8.valid (r : Int) = true := by
        simp only [Lib.validRune, decide_eq_true_eq] at hv
        simp [Utf8.valid]
        omega
      obtain ⟨E, hE⟩ : ∃ E, Utf8.encode (r : Int) = E := ⟨_, rfl⟩
      have hf := encode_facts (r : Int) hval (by omega)
      rw [hE] at hf
      obtain ⟨h2, h4, h5⟩ := hf
      obtain ⟨q, hq⟩ : ∃ q, E.size = q + 1 := ⟨E.size - 1, by omega⟩
      have hl := h5 (by omega)
      have hqs : (E.size : Int) - 1 = (q : Int) := by omega
      have hq1 : (q : Int) < (E.size : Int) := by omega
      have hq4 : q ≤ 3 := by omega
      obtain ⟨lb, hlb⟩ : ∃ lb : Nat, (E[q]'(by omega)).toNat = lb := ⟨_, rfl⟩
      have hlb128 : 128 ≤ lb := by rw [← hlb]; simpa [hq] using hl
      have hlb256 : lb < 256 := by rw [← hlb]; exact (E[q]'(by omega)).toNat_lt
      have hI : ∀ W : World, Calls Tryz.prog 175 #[.string (s.extract (q + 1) s.size), .int .u8 (lb : Int)] W fun e w' => e = .returned (.int .i64 (-1)) ∧ w' = W := fun W =>
        (Any.strings_IndexByte (P := Tryz.prog) (ρ := Tryz.ixbA_ren) { Tryz.ixbA with } (s.extract (q + 1) s.size) (lb : Int) W).mono fun e w' ⟨h1, h2⟩ => ⟨by
          rw [h1, ixb_none]
          intro b hb e2
          have hb2 : b ∈ s.data.toList := by
            rw [ByteArray.data_extract] at hb
            simp only [Array.toList_extract, List.extract_eq_take_drop] at hb
            exact List.mem_of_mem_drop (List.mem_of_mem_take hb)
          have := hs b hb2
          rw [e2] at this
          simp at this
          omega, h2⟩
      clear hval h5 hl hv
      have HE := hide hE
      have HI := hide hI
      clear hE hI
      go_wp2_with (fail)
      refine (hQ _).mono ?_
      rintro e w' ⟨rfl, rfl⟩
      clear hQ
      have hcv : ∀ W : World, (convert 21 9 (.int .i32 (r : Int))).run Tryz.prog W = .ok (.string E) W := fun W => by
        rw [run_convert_int_string W 21 9 .i32 (r : Int) (by rw [Tryz.underlying21]; rfl) Tryz.underlying9, HE.out]
      by_cases hlt : q < s.size
      · have hx := hget q hlt
        obtain ⟨x, hxx⟩ : ∃ x : Nat, (s[q]'hlt).toNat = x := ⟨_, rfl⟩
        have hxne : ((x : Int) == (lb : Int)) = false := by
          rw [beq_eq_false_iff_ne]
          omega
        have hlt' : (q : Int) < (s.size : Int) := by omega
        have hle' : (q : Int) + 1 ≤ (s.size : Int) := by omega
        have hq0 : (0 : Int) ≤ (q : Int) + 1 := by omega
        have htn : ((q : Int) + 1).toNat = q + 1 := by omega
        clear hget hs
        have hsl : ∀ W : World, (Instr.slice 9 (.string s) (some (.int .i64 ((q : Int) + 1))) none none).run Tryz.prog W = .ok (.string (s.extract (q + 1) s.size)) W := fun W => by
          rw [run_slice_string_from_if (P := Tryz.prog) W 9 s .i64 ((q : Int) + 1) Tryz.underlying9, if_pos ⟨hq0, hle'⟩, htn]
        have HSL := hide hsl
        clear hsl
        go_wp2_with (fail)
        go_step3
        go_wp2_with (fail)
        have hI := HI.out
        go_loopw [9] (fun v wr => v = .int .i64 (q : Int) ∧ wr = w') (fun _ _ => 0)
        case atStart => exact ⟨rfl, rfl⟩
        case round =>
          obtain ⟨rfl, rfl⟩ := hrel
          go_wp2_with (fail)
          go_step3
          go_wp2_with (fail)
          go_region
          go_wp2_with (fail)
          have hsl := HSL.out
          have hw1 : IntKind.i64.wrap ((q : Int) + 1) = (q : Int) + 1 := wrap_small _ (by omega) (by omega)
          clear hxne hxx hcv hqs he'
          refine wp_region_L (by kernel_rfl) ?_
          refine wpAnyL_take (i := 0) (d := some 34) (v := ?vaa0) rfl rfl (by kernel_rfl) (by kernel_rfl) (by kernel_rfl) (fun _ _ _ h => h) (by rfl) ?yaa0 ?_
          case yaa0 => (intro w' hw'; go_simp; try (with_reducible rfl))
          simp only [Act.put]; try simp only [sA_, sZ_, sS_]
          refine wpAnyL_take (i := 1) (d := some 35) (v := ?vaa1) rfl rfl (by kernel_rfl) (by kernel_rfl) (by kernel_rfl) (fun _ _ _ h => h) (by rfl) ?yaa1 ?_
          case yaa1 => (intro w' hw'; go_simp; try (with_reducible rfl))
          simp only [Act.put]; try simp only [sA_, sZ_, sS_]
          refine wpAnyL_take (i := 2) (d := some 36) (v := ?vaa2) rfl rfl (by kernel_rfl) (by kernel_rfl) (by kernel_rfl) (fun _ _ _ h => h) (by rfl) ?yaa2 ?_
          case yaa2 => (intro w' hw'; go_simp; try (with_reducible rfl))
          simp only [Act.put]; try simp only [sA_, sZ_, sS_]
          refine wpAnyL_take (i := 3) (d := some 37) (v := .string (s.extract (q + 1) s.size)) rfl rfl (by kernel_rfl) (by kernel_rfl) (by kernel_rfl) (fun _ _ _ h => h) (by rfl) ?yaa3 ?_
          case yaa3 => (intro w' hw'; go_simp; try (intro h; exfalso; omega))
          simp only [Act.put]; try simp only [sA_, sZ_, sS_]
          refine wpAnyL_take (i := 4) (d := some 38) (v := ?vaa4) rfl rfl (by kernel_rfl) (by kernel_rfl) (by kernel_rfl) (fun _ _ _ h => h) (by rfl) ?yaa4 ?_
          case yaa4 => (intro w' hw'; go_simp; try (with_reducible rfl))
          simp only [Act.put]; try simp only [sA_, sZ_, sS_]
          refine wpAnyL_take (i := 5) (d := some 39) (v := ?vaa5) rfl rfl (by kernel_rfl) (by kernel_rfl) (by kernel_rfl) (fun _ _ _ h => h) (by rfl) ?yaa5 ?_
          case yaa5 => (intro w' hw'; go_simp; try (with_reducible rfl))
          simp only [Act.put]; try simp only [sA_, sZ_, sS_]
          refine wpAnyL_take (i := 6) (d := some 40) (v := .int .u8 (lb : Int)) rfl rfl (by kernel_rfl) (by kernel_rfl) (by kernel_rfl) (fun _ _ _ h => h) (by rfl) ?yaa6 ?_
          case yaa6 => (intro w' hw'; go_simp; try (intro h; exfalso; omega))
          simp only [Act.put]; try simp only [sA_, sZ_, sS_]
          refine wpAnyL_only (i := 7) rfl (by kernel_rfl) (by rfl) fun K hK => ?_
          go_simp
          refine (hI _).mono ?_
          rintro e w1 ⟨rfl, rfl⟩
          refine hK.out _ _ (Below.refl _ _) ?_
          clear hK K
          try (simp only [Act.put]; try simp only [sA_, sZ_, sS_])
          refine wpAnyL_take (i := 8) (d := some 11) (v := ?vaa8) rfl rfl (by kernel_rfl) (by kernel_rfl) (by kernel_rfl) (fun _ _ _ h => h) (by rfl) ?yaa8 ?_
          case yaa8 => (intro w' hw'; go_simp; try (with_reducible rfl))
          simp only [Act.put]; try simp only [sA_, sZ_, sS_]
          refine wpAnyL_done (by kernel_rfl) ?_ _
          go_wp2_with (fail)
          refine (?_ : bodyPost Tryz.prog Tryz.f173 (fun e w' => e = .returned (.int .i64 (-1)) ∧ Later wr w') .ret _ _)
          go_ret
          exact ⟨rfl, (Below.refl _ _).drew.drew⟩
      · have hlt' : ¬ ((q : Int) < (s.size : Int)) := by omega
        clear hget hs
        go_wp2_with (fail)
        go_step3
        go_wp2_with (fail)
        go_loopw [9] (fun v wr => v = .int .i64 (q : Int) ∧ wr = w') (fun _ _ => 0)
        case atStart => exact ⟨rfl, rfl⟩
        case round =>
          obtain ⟨rfl, rfl⟩ := hrel
          go_wp2_with (fail)
          rw [Exit.noGoto_ret]
          go_ret
          exact ⟨rfl, HL0.out⟩
end Go.Proofs.YtdkiopajilakcaaGreatDoor
/- Sets of bytes: closures that capture bounds, texts, sets, lists of sets. -/
namespace Go.Proofs.YtdkiopajilakcaaGreatDoor
open Go.RowKit

def Enters (F : FuncId) : Prop := ∀ (args : Array Value) (w : World), (callFunc F args).run Tryz.prog w = .ok (.enter F args) w
structure SetV where
  F : FuncId
  cs : Array Value
def SetV.val (v : SetV) : Value := .func (.func v.F) #[] v.cs
def SetAt (w : World) (v : SetV) (f : Nat → Bool) : Prop :=
  Enters v.F ∧ ∀ (W : World) (c : Nat), Later w W → c < 2147483648 → Calls Tryz.prog v.F (#[.int .i32 (c : Int)] ++ v.cs) W fun e W' => e = .returned (.bool (f c)) ∧ Later W W'
theorem SetAt.later {w w' : World} {v : SetV} {f : Nat → Bool} (h : SetAt w v f) (hl : Later w w') : SetAt w' v f := ⟨h.1, fun W c h1 => h.2 W c (hl.trans h1)⟩
def NewSet (w : World) (f : Nat → Bool) (e : Ending) (w' : World) : Prop := ∃ v : SetV, e = .returned v.val ∧ SetAt w' v f ∧ Later w w'

section
variable {w : World}
theorem cell_later {w W : World} {b : Nat} {v : Value} {t : TypeId} (h : w.heap[b]? = some (.cells #[v] t (0, 0))) (hl : Later w W) : W.cell? ⟨b, 0, none⟩ = some v := by
  have h2 := (Below.block hl b (lt_of_block h)).trans h
  have := cell_of_row W b 0 _ _ _ h2
  simpa using this

def betw (lo hi c : Nat) : Bool := decide (lo ≤ c) && decide (c ≤ hi)
theorem between1_any (W : World) (lo hi c b1 b2 : Nat) (h1 : W.cell? ⟨b1, 0, none⟩ = some (.int .i32 (lo : Int))) (h2 : W.cell? ⟨b2, 0, none⟩ = some (.int .i32 (hi : Int))) :
    Calls Tryz.prog 159 #[.int .i32 (c : Int), .pointer (some ⟨b1, 0, none⟩), .pointer (some ⟨b2, 0, none⟩)] W fun e W' => e = .returned (.bool (betw lo hi c)) ∧ Later W W' := by
  have HL := hide (Later.refl W)
  unfold betw
  go_enter Tryz.func159, Tryz.ntmps159
  by_cases hlo : lo ≤ c
  · by_cases hhi : c ≤ hi
    · have e1 : (lo : Int) ≤ (c : Int) := by omega
      have e2 : (c : Int) ≤ (hi : Int) := by omega
      go_wp2
      go_ret
      exact ⟨ret_bool (by simp [hlo, hhi]), HL.out⟩
    · have e1 : (lo : Int) ≤ (c : Int) := by omega
      have e2 : ¬ (c : Int) ≤ (hi : Int) := by omega
      go_wp2
      go_ret
      exact ⟨ret_bool (by simp), HL.out⟩
  · have e1 : ¬ (lo : Int) ≤ (c : Int) := by omega
    go_wp2
    go_ret
    exact ⟨ret_bool (by simp), HL.out⟩
theorem enters_between1 : Enters 159 := fun args w => by go_simp
theorem between_any (lo hi : Nat) : Calls Tryz.prog 141 #[.int .i32 (lo : Int), .int .i32 (hi : Int)] w (NewSet w (betw lo hi)) := by
  have X1 := hide (heap_alloc2_old w (.cells #[.int .i32 (lo : Int)] 21 (0, 0)) (.cells #[.int .i32 (hi : Int)] 21 (0, 0)))
  have X2 := hide (heap_alloc2_new w (.cells #[.int .i32 (lo : Int)] 21 (0, 0)) (.cells #[.int .i32 (hi : Int)] 21 (0, 0)))
  have HB : Hid (Later w ((w.alloc (.cells #[.int .i32 (lo : Int)] 21 (0, 0))).alloc (.cells #[.int .i32 (hi : Int)] 21 (0, 0)))) := ((Below.refl _ _).alloc (Nat.le_refl _) _).alloc (by simp) _
  go_enter Tryz.func141, Tryz.ntmps141
  go_wp2
  go_ret
  exact ⟨⟨159, #[.pointer (some ⟨w.heap.size, 0, none⟩), .pointer (some ⟨w.heap.size + 1, 0, none⟩)]⟩, rfl, ⟨enters_between1, fun W c hl _ => between1_any W lo hi c _ _ (cell_later X1.out hl) (cell_later X2.out hl)⟩, HB.out⟩
theorem letter_any : Calls Tryz.prog 120 #[] w (NewSet w smallB) := by
  have C := hide (between_any (w := w) 97 122)
  go_enter Tryz.func120, Tryz.ntmps120
  go_wp2_with (fail)
  refine C.out.mono ?_
  rintro e w1 ⟨v, rfl, hs, hl⟩
  have HS := hide hs
  have HL := hide hl
  clear hs hl C
  go_wp2
  go_ret
  exact ⟨v, rfl, HS.out, HL.out⟩
theorem digit_any : Calls Tryz.prog 143 #[] w (NewSet w digitB) := by
  have C := hide (between_any (w := w) 48 57)
  go_enter Tryz.func143, Tryz.ntmps143
  go_wp2_with (fail)
  refine C.out.mono ?_
  rintro e w1 ⟨v, rfl, hs, hl⟩
  have HS := hide hs
  have HL := hide hl
  clear hs hl C
  go_wp2
  go_ret
  exact ⟨v, rfl, HS.out, HL.out⟩

def hasB (s : List UInt8) (c : Nat) : Bool := decide (c < 128) && s.contains (UInt8.ofNat c)
theorem contains_rune (W : World) (l : List UInt8) (c : Nat) (hs : ∀ b ∈ l, b.toNat < 128) (hc : c < 2147483648) :
    Calls Tryz.prog 164 #[.string ⟨l.toArray⟩, .int .i32 (c : Int)] W fun e W' => e = .returned (.bool (hasB l c)) ∧ Later W W' := by
  by_cases h : c < 128
  · have C : Hid (Calls Tryz.prog 173 #[.string ⟨l.toArray⟩, .int .i32 (c : Int)] W fun e W' => e = .returned (.int .i64 (Lib.indexByte l (UInt8.ofNat c))) ∧ W' = W) :=
      (Any.strings_IndexRune_ascii (P := Tryz.prog) (ρ := Tryz.iruneA_ren) { Tryz.iruneA with } ⟨l.toArray⟩ (c : Int) W (by omega) (by omega)).mono fun e w' ⟨h1, h2⟩ => ⟨by rw [h1]; simp, h2⟩
    have e0 : hasB l c = decide (0 ≤ Lib.indexByte l (UInt8.ofNat c)) := by rw [ixb_yes, hasB]; simp [h]
    rw [e0]
    clear e0
    generalize Lib.indexByte l (UInt8.ofNat c) = z at C ⊢
    have HL := hide (Later.refl W)
    go_enter Tryz.func164, Tryz.ntmps164
    go_wp2_with (fail)
    refine C.out.mono ?_
    rintro e w1 ⟨rfl, rfl⟩
    clear C
    go_wp2
    go_ret
    exact ⟨rfl, HL.out⟩
  · have C := hide (irune_high ⟨l.toArray⟩ c W (by simpa using hs) (by omega) hc)
    have e0 : hasB l c = false := by simp [hasB, h]
    rw [e0]
    clear e0
    go_enter Tryz.func164, Tryz.ntmps164
    go_wp2_with (fail)
    refine C.out.mono ?_
    rintro e w1 ⟨rfl, hl⟩
    have HL := hide hl
    clear C hl
    go_wp2
    go_ret
    exact ⟨rfl, HL.out⟩
theorem among1_any (W : World) (l : List UInt8) (c b : Nat) (h : W.cell? ⟨b, 0, none⟩ = some (.string ⟨l.toArray⟩)) (hs : ∀ b ∈ l, b.toNat < 128) (hc : c < 2147483648) :
    Calls Tryz.prog 163 #[.int .i32 (c : Int), .pointer (some ⟨b, 0, none⟩)] W fun e W' => e = .returned (.bool (hasB l c)) ∧ Later W W' := by
  have C := hide (contains_rune W l c hs hc)
  clear hs hc
  go_enter Tryz.func163, Tryz.ntmps163
  go_wp2_with (fail)
  refine C.out.mono ?_
  rintro e w1 ⟨rfl, hl⟩
  have HL := hide hl
  clear C hl h
  go_wp2
  go_ret
  exact ⟨rfl, HL.out⟩
theorem enters_among1 : Enters 163 := fun args w => by go_simp
theorem among_any (l : List UInt8) (hs : ∀ b ∈ l, b.toNat < 128) : Calls Tryz.prog 144 #[.string ⟨l.toArray⟩] w (NewSet w (hasB l)) := by
  have X1 := hide (heap_alloc_new w (.cells #[.string ⟨l.toArray⟩] 9 (0, 0)))
  have HB : Hid (Later w (w.alloc (.cells #[.string ⟨l.toArray⟩] 9 (0, 0)))) := (Below.refl _ _).alloc (Nat.le_refl _) _
  have HS := hide hs
  clear hs
  go_enter Tryz.func144, Tryz.ntmps144
  go_wp2
  go_ret
  exact ⟨⟨163, #[.pointer (some ⟨w.heap.size, 0, none⟩)]⟩, rfl, ⟨enters_among1, fun W c hl hc => among1_any W l c _ (cell_later X1.out hl) HS.out hc⟩, HB.out⟩

end
end Go.Proofs.YtdkiopajilakcaaGreatDoor
/- A set that is one of several: the library's ContainsFunc at closures. -/
namespace Go.Proofs.YtdkiopajilakcaaGreatDoor
open Go.RowKit

def SetsAt (w : World) (v : Value) (l : List (SetV × (Nat → Bool))) : Prop := FlatAt (fun _ => True) w 1 v l.length (l.map fun p => p.1.val) ∧ ∀ p ∈ l, SetAt w p.1 p.2
theorem SetsAt.later {w w' : World} {v : Value} {l : List (SetV × (Nat → Bool))} (h : SetsAt w v l) (hl : Later w w') : SetsAt w' v l := ⟨h.1.kept (Kept.of_below hl _), fun p hp => (h.2 p hp).later hl⟩
theorem SetsAt.at_ {w : World} {A : Option Addr} {n cap : Nat} {l : List (SetV × (Nat → Bool))} (h : SetsAt w (.slice A n cap) l) {i : Nat} (hi : i < n) :
    ∃ b off p, A = some ⟨b, off, none⟩ ∧ n ≤ cap ∧ l[i]? = some p ∧ b < w.heap.size ∧ w.cell? ⟨b, off + i, none⟩ = some p.1.val ∧ SetAt w p.1 p.2 := by
  have hn : n = l.length := by obtain ⟨A', c', e, _⟩ := h.1.shape; injection e
  subst hn
  obtain ⟨b, off, c, hv, hc, _, hb, hr⟩ := h.1.elem hi
  injection hv with e1 _ e3
  subst e1 e3
  have hp : l[i]? = some l[i] := List.getElem?_eq_getElem hi
  refine ⟨b, off, l[i], rfl, hc, hp, hb, ?_, h.2 _ (List.getElem_mem hi)⟩
  have := hr 0 l[i].1.val (by simp [hi])
  simpa using this

section
variable {w : World}
theorem either11_any (W : World) (v : SetV) (f : Nat → Bool) (c b : Nat) (h : W.cell? ⟨b, 0, none⟩ = some (.int .i32 (c : Int))) (hv : SetAt W v f) (hc : c < 2147483648) :
    Calls Tryz.prog 162 #[v.val, .pointer (some ⟨b, 0, none⟩)] W fun e W' => e = .returned (.bool (f c)) ∧ Later W W' := by
  have C := hide (hv.2 W c (Later.refl _) hc)
  have eg := hv.1
  obtain ⟨F, cs⟩ := v
  unfold Enters at eg
  unfold SetV.val
  simp only at eg C
  clear hv hc
  go_enter Tryz.func162, Tryz.ntmps162
  go_wp2_with (fail)
  refine C.out.mono ?_
  rintro e w1 ⟨rfl, hl⟩
  have HL := hide hl
  clear C hl h eg
  go_wp2
  go_ret
  exact ⟨rfl, HL.out⟩
theorem enters_either11 : Enters 162 := fun args w => by go_simp

set_option maxHeartbeats 2000000 in
set_option maxRecDepth 100000 in
theorem index_sets {A : Option Addr} {n cap b c : Nat} {l : List (SetV × (Nat → Bool))} (hb : w.heap[b]? = some (.cells #[.int .i32 (c : Int)] 21 (0, 0))) (h : SetsAt w (.slice A n cap) l) (hn : n = l.length) (hc : c < 2147483648) (hs : n ≤ 100) :
    Calls Tryz.prog 172 #[.slice A n cap, .func (.func 162) #[] #[.pointer (some ⟨b, 0, none⟩)]] w fun e w' => ∃ i : Int, e = .returned (.int .i64 i) ∧ decide (0 ≤ i) = l.any (fun p => p.2 c) ∧ Later w w' := by
  have H := hide h
  have HN := hide hn
  have HB := hide hb
  have eg : ∀ (args : Array Value) (w : World), (callFunc 162 args).run Tryz.prog w = .ok (.enter 162 args) w := enters_either11
  clear h hn hb
  go_enter Tryz.func172, Tryz.ntmps172
  go_wp2
  go_loopw [8] (fun i wr => ∃ q : Nat, q ≤ n ∧ i = .int .i64 (q : Int) ∧ (l.take q).any (fun p => p.2 c) = false ∧ Later w wr) (fun i _ => n - (Go.RowKit.intOf i).toNat)
  case atStart => exact ⟨0, by omega, rfl, by simp, Later.refl _⟩
  case round =>
    obtain ⟨q, hq, rfl, hall, hlat⟩ := hrel
    have HA := hide hall
    have HL := hide hlat
    clear hall hlat
    by_cases hlt : q < n
    · obtain ⟨k, off, p, rfl, hnc, hp, hkb, hcell, hset⟩ := (H.out.later HL.out).at_ hlt
      have HP := hide hp
      have C := hide (either11_any wr p.1 p.2 c b (cell_later HB.out HL.out) hset hc)
      obtain ⟨t, ht⟩ : ∃ t, p.2 c = t := ⟨_, rfl⟩
      rw [ht] at C
      have HT := hide ht
      obtain ⟨vv, hvv⟩ : ∃ vv, p.1.val = vv := ⟨_, rfl⟩
      rw [hvv] at C hcell
      have hone : vv.oneCell' = true := by rw [← hvv]; rfl
      clear hp ht hset hvv
      go_wp2_with (fail)
      refine C.out.mono ?_
      rintro e w1 ⟨rfl, hl⟩
      have HL1 := hide (HL.out.trans hl)
      clear hl C hcell
      cases t with
      | false =>
        go_wp2
        go_roundw
        case rel =>
          refine ⟨q + 1, by omega, by go_num, ?_, HL1.out⟩
          rw [List.take_add_one, HP.out, List.any_append, HA.out]
          simp [HT.out]
        case measure => simp [Go.RowKit.intOf]; omega
      | true =>
        go_wp2
        go_ret
        refine ⟨(q : Int), rfl, ?_, HL1.out⟩
        have hyes : l.any (fun p => p.2 c) = true := by
          rw [List.any_eq_true]
          exact ⟨p, List.mem_of_getElem? HP.out, HT.out⟩
        rw [hyes]
        simp
    · have hall : l.any (fun p => p.2 c) = false := by
        have h1 := HA.out
        rwa [List.take_of_length_le (by have := HN.out; omega)] at h1
      have HALL := hide hall
      clear hall
      go_wp2
      go_ret
      exact ⟨-1, rfl, by rw [HALL.out]; decide, HL.out⟩
theorem contains_sets {A : Option Addr} {n cap b c : Nat} {l : List (SetV × (Nat → Bool))} (hb : w.heap[b]? = some (.cells #[.int .i32 (c : Int)] 21 (0, 0))) (h : SetsAt w (.slice A n cap) l) (hn : n = l.length) (hc : c < 2147483648) (hs : n ≤ 100) :
    Calls Tryz.prog 161 #[.slice A n cap, .func (.func 162) #[] #[.pointer (some ⟨b, 0, none⟩)]] w fun e w' => e = .returned (.bool (l.any (fun p => p.2 c))) ∧ Later w w' := by
  have C := hide (index_sets hb h hn hc hs)
  clear h hn hb
  go_enter Tryz.func161, Tryz.ntmps161
  go_wp2_with (fail)
  refine C.out.mono ?_
  rintro e w1 ⟨i, rfl, hi, hl⟩
  have HI := hide hi
  have HL := hide hl
  clear hi hl C
  go_wp2
  go_ret
  exact ⟨ret_bool HI.out, HL.out⟩
theorem either1_any (W : World) {A : Option Addr} {n cap b c : Nat} {l : List (SetV × (Nat → Bool))} (hb : W.cell? ⟨b, 0, none⟩ = some (.slice A n cap)) (h : SetsAt W (.slice A n cap) l) (hn : n = l.length) (hc : c < 2147483648) (hs : n ≤ 100) :
    Calls Tryz.prog 160 #[.int .i32 (c : Int), .pointer (some ⟨b, 0, none⟩)] W fun e w' => e = .returned (.bool (l.any (fun p => p.2 c))) ∧ Later W w' := by
  have HB : Hid (Later W (W.alloc (.cells #[.int .i32 (c : Int)] 21 (0, 0)))) := (Below.refl _ _).alloc (Nat.le_refl _) _
  have X1 := heap_alloc_new W (.cells #[.int .i32 (c : Int)] 21 (0, 0))
  have C := hide (contains_sets X1 (h.later HB.out) hn hc hs)
  have hlt : b < W.heap.size := by
    rcases Nat.lt_or_ge b W.heap.size with h1 | h1
    · exact h1
    · simp [World.cell?, Array.getElem?_eq_none h1] at hb
  have hcell := (Below.cell HB.out (p := ⟨b, 0, none⟩) hlt).trans hb
  clear X1 h hn hb
  go_enter Tryz.func160, Tryz.ntmps160
  go_wp2_with (fail)
  refine C.out.mono ?_
  rintro e w1 ⟨rfl, hl⟩
  have HL := hide (HB.out.trans hl)
  clear hl C
  go_wp2
  go_ret
  exact ⟨rfl, HL.out⟩
theorem enters_either1 : Enters 160 := fun args w => by go_simp
theorem either_any {A : Option Addr} {n cap : Nat} {l : List (SetV × (Nat → Bool))} (h : SetsAt w (.slice A n cap) l) (hn : n = l.length) (hs : n ≤ 100) :
    Calls Tryz.prog 142 #[.slice A n cap] w (NewSet w fun c => l.any (fun p => p.2 c)) := by
  have X1 := hide (heap_alloc_new w (.cells #[.slice A n cap] 191 (0, 0)))
  have HB : Hid (Later w (w.alloc (.cells #[.slice A n cap] 191 (0, 0)))) := (Below.refl _ _).alloc (Nat.le_refl _) _
  have H := hide h
  have HN := hide hn
  clear h hn
  go_enter Tryz.func142, Tryz.ntmps142
  go_wp2
  go_ret
  exact ⟨⟨160, #[.pointer (some ⟨w.heap.size, 0, none⟩)]⟩, rfl, ⟨enters_either1, fun W c hl hc => either1_any W (cell_later X1.out hl) (H.out.later (HB.out.trans hl)) HN.out hc hs⟩, HB.out⟩
end
end Go.Proofs.YtdkiopajilakcaaGreatDoor
/- The parts that a text consists of: what each begins with, and goes on with. -/
namespace Go.Proofs.YtdkiopajilakcaaGreatDoor
open Go.RowKit

theorem hasB_eq (l : List UInt8) (hl : ∀ b ∈ l, b.toNat < 128) (c : Nat) : hasB l c = l.any (fun b => c == b.toNat) := by
  unfold hasB
  by_cases h : c < 128
  · have e : ∀ b ∈ l, (b == UInt8.ofNat c) = (c == b.toNat) := fun b _ => by
      have hc : (UInt8.ofNat c).toNat = c := by simp; omega
      rw [Bool.eq_iff_iff, beq_iff_eq, beq_iff_eq]
      exact ⟨fun e => by rw [e, hc], fun e => UInt8.toNat_inj.1 (by rw [hc, e])⟩
    have h1 : decide (c < 128) = true := by simpa using h
    rw [h1, Bool.true_and]
    clear h1
    induction l with
    | nil => rfl
    | cons b l ih =>
      rw [List.contains_cons, List.any_cons, ih (fun x hx => hl x (by simp [hx])) (fun x hx => e x (by simp [hx])), ← e b (by simp)]
      congr 1
      exact Bool.eq_iff_iff.2 ⟨fun h => by simpa using (by simpa using h : UInt8.ofNat c = b).symm, fun h => by simpa using (by simpa using h : b = UInt8.ofNat c).symm⟩
  · have h1 : decide (c < 128) = false := by simpa using h
    rw [h1, Bool.false_and]
    symm
    rw [List.any_eq_false]
    intro b hb
    have := hl b hb
    simp
    omega
theorem has_name : (fun c => hasB [45, 95] c) = fun c => (c == 45 || c == 95) := funext fun c => by
  rw [hasB_eq [45, 95] (by decide)]
  simp
section
variable {w : World}
set_option maxHeartbeats 1000000 in
theorem ofName_any : Calls Tryz.prog 121 #[] w (NewSet w partB) := by
  have C1 := hide (letter_any (w := w))
  go_enter Tryz.func121, Tryz.ntmps121
  go_wp2_with (fail)
  refine C1.out.mono ?_
  rintro e w1 ⟨v1, rfl, hs1, hl1⟩
  have S1 := hide hs1
  have L1 := hide hl1
  clear hs1 hl1 C1
  go_wp2_with (fail)
  refine (digit_any (w := w1)).mono ?_
  rintro e w2 ⟨v2, rfl, hs2, hl2⟩
  have S2 := hide hs2
  have S12 := hide (S1.out.later hl2)
  have L2 := hide (L1.out.trans hl2)
  clear hs2 hl2 S1 L1
  go_wp2_with (fail)
  refine (among_any (w := w2) [45, 95] (by decide)).mono ?_
  rintro e w3 ⟨v3, rfl, hs3, hl3⟩
  have S3 := hide hs3
  have S23 := hide (S2.out.later hl3)
  have S13 := hide (S12.out.later hl3)
  have L3 := hide (L2.out.trans hl3)
  clear hs3 hl3 S2 S12 L2
  have HB : Hid (Later w3 (w3.alloc (.cells #[v1.val, v2.val, v3.val] 167 (0, 0)))) := (Below.refl _ _).alloc (Nat.le_refl _) _
  have X1 := hide (heap_alloc_new w3 (.cells #[v1.val, v2.val, v3.val] 167 (0, 0)))
  have H : Hid (SetsAt (w3.alloc (.cells #[v1.val, v2.val, v3.val] 167 (0, 0))) (.slice (some ⟨w3.heap.size, 0, none⟩) 3 3) [(v1, smallB), (v2, digitB), (v3, hasB [45, 95])]) := by
    refine ⟨⟨rfl, ?_, some ⟨w3.heap.size, 0, none⟩, 3, rfl, Nat.le_refl _, by unfold maxLen; omega, (fun h => by cases h), fun _ => ⟨w3.heap.size, 0, rfl, trivial, lt_of_block X1.out, fun j u hj => ?_⟩⟩, ?_⟩
    · intro u hu
      simp at hu
      rcases hu with rfl | rfl | rfl <;> rfl
    · rw [cell_of_row _ _ _ _ _ _ X1.out, Nat.zero_add]
      simpa using hj
    · intro p hp
      simp at hp
      rcases hp with rfl | rfl | rfl
      · exact S13.out.later HB.out
      · exact S23.out.later HB.out
      · exact S3.out.later HB.out
  have C := hide (either_any H.out rfl (by omega))
  clear X1 S3 S13 S23 H
  unfold SetV.val at *
  go_wp2_with (fail)
  refine C.out.mono ?_
  rintro e w4 ⟨v4, rfl, hs4, hl4⟩
  have S4 := hide hs4
  have L4 := hide (L3.out.trans (HB.out.trans hl4))
  clear hs4 hl4 C
  go_wp2
  go_ret
  refine ⟨v4, rfl, ?_, L4.out⟩
  have e : (fun c => [(v1, smallB), (v2, digitB), (v3, hasB [45, 95])].any (fun p => p.2 c)) = partB := funext fun c => by
    have := congrFun has_name c
    simp only [List.any_cons, List.any_nil, Bool.or_false, this]
    rfl
  have := S4.out
  rwa [e] at this
end
end Go.Proofs.YtdkiopajilakcaaGreatDoor
/- The list of the parts of a text, in memory. -/
namespace Go.Proofs.YtdkiopajilakcaaGreatDoor
open Go.RowKit

structure PartD where
  k : Nat
  b : SetV
  g : SetV
  fb : Nat → Bool
  fg : Nat → Bool
namespace PartD
def cells (p : PartD) : List Value := [.int .i64 (p.k : Int), p.b.val, p.g.val]
theorem one (p : PartD) : ∀ u ∈ p.cells, u.oneCell' = true := by simp [cells, SetV.val, Value.oneCell']
end PartD
def PartsAt (w : World) (v : Value) (l : List PartD) : Prop := FlatAt (fun _ => True) w 3 v l.length (l.flatMap PartD.cells) ∧ ∀ p ∈ l, SetAt w p.b p.fb ∧ SetAt w p.g p.fg
theorem PartsAt.later {w w' : World} {v : Value} {l : List PartD} (h : PartsAt w v l) (hl : Later w w') : PartsAt w' v l := ⟨h.1.kept (Kept.of_below hl _), fun p hp => ⟨(h.2 p hp).1.later hl, (h.2 p hp).2.later hl⟩⟩
theorem PartsAt.at_ {w : World} {A : Option Addr} {n cap : Nat} {l : List PartD} (h : PartsAt w (.slice A n cap) l) {i : Nat} (hi : i < n) :
    ∃ b off p, A = some ⟨b, off, none⟩ ∧ n ≤ cap ∧ l[i]? = some p ∧ b < w.heap.size ∧ w.rangeAt b (off + i * 3) p.cells ∧ SetAt w p.b p.fb ∧ SetAt w p.g p.fg := by
  have hn : n = l.length := by obtain ⟨A', c', e, _⟩ := h.1.shape; injection e
  subst hn
  obtain ⟨b, off, c, hv, hc, _, hb, hr⟩ := h.1.elem hi
  injection hv with e1 _ e3
  subst e1 e3
  have hp : l[i]? = some l[i] := List.getElem?_eq_getElem hi
  refine ⟨b, off, l[i], rfl, hc, hp, hb, ?_, h.2 _ (List.getElem_mem hi)⟩
  rwa [flat_get PartD.cells 3 l i l[i] (fun _ _ => rfl) hp] at hr
def sorts : List (Nat × (Nat → Bool) × (Nat → Bool)) := [(1, smallB, partB), (2, digitB, digitB), (3, signB, fun _ => false), (0, blankB, fun _ => false), (0, fun c => c == 35, fun c => c != 10)]
def SortsAt (w : World) (v : Value) : Prop := ∃ l : List PartD, PartsAt w v l ∧ l.map (fun p => (p.k, p.fb, p.fg)) = sorts
theorem SortsAt.later {w w' : World} {v : Value} (h : SortsAt w v) (hl : Later w w') : SortsAt w' v := let ⟨l, h1, h2⟩ := h; ⟨l, h1.later hl, h2⟩

section
variable {w : World}
end
end Go.Proofs.YtdkiopajilakcaaGreatDoor
/- Which part a byte begins; how many bytes of a text a part takes; tokens. -/
namespace Go.Proofs.YtdkiopajilakcaaGreatDoor
open Go.RowKit

section
variable {w : World}
theorem later_cell {W w' : World} {b o : Nat} {v : Value} (h : Later W w') (hc : W.cell? ⟨b, o, none⟩ = some v) : w'.cell? ⟨b, o, none⟩ = some v := by
  have hb : b < W.heap.size := by
    rcases Nat.lt_or_ge b W.heap.size with h1 | h1
    · exact h1
    · simp [World.cell?, Array.getElem?_eq_none h1] at hc
  exact (Below.cell h (p := ⟨b, o, none⟩) hb).trans hc
theorem byte_at (s : ByteArray) (q : Nat) (h : q < s.size) : ∃ c : UInt8, s.data.toList[q]? = some c ∧ (s[q]'h).toNat = c.toNat ∧ c.toNat < 256 := ⟨s[q]'h, by
  show s.data.toList[q]? = some (s.data[q]'h)
  rw [Array.getElem?_toList, Array.getElem?_eq_getElem], rfl, (s[q]'h).toNat_lt⟩

end
end Go.Proofs.YtdkiopajilakcaaGreatDoor
/- A name, told by a range over the text. -/
namespace Go.Proofs.YtdkiopajilakcaaGreatDoor
open Go.RowKit

theorem small_part {c : Nat} (h : smallB c = true) : partB c = true := by simp [partB, h]
theorem part_low {c : Nat} (h : partB c = true) : c < 128 := by
  simp only [partB, smallB, digitB, Bool.or_eq_true, Bool.and_eq_true, decide_eq_true_eq, beq_iff_eq] at h
  omega
theorem high_no {c : Nat} (h : 128 ≤ c) : smallB c = false ∧ partB c = false := by
  have h2 : partB c = false := by
    cases h3 : partB c with
    | false => rfl
    | true => have := part_low h3; omega
  refine ⟨?_, h2⟩
  cases h3 : smallB c with
  | false => rfl
  | true => rw [small_part h3] at h2; cases h2
theorem nameF_iff (L : List UInt8) : nameF L = true ↔ 1 ≤ L.length ∧ L.length ≤ 16 ∧ (∀ c, L[0]? = some c → smallB c.toNat = true) ∧ ∀ c ∈ L, partB c.toNat = true := by
  cases L with
  | nil => simp [nameF]
  | cons b r =>
    simp only [nameF, Bool.and_eq_true, decide_eq_true_eq, List.all_eq_true, List.length_cons, List.getElem?_cons_zero, List.mem_cons]
    constructor
    · rintro ⟨h1, h2, h3⟩
      refine ⟨by omega, by omega, ?_, ?_⟩
      · rintro c ⟨⟩
        exact h2
      · rintro c (rfl | hc)
        · exact small_part h2
        · exact h3 c hc
    · rintro ⟨_, h1, h2, h3⟩
      exact ⟨by omega, h2 b rfl, fun c hc => h3 c (.inr hc)⟩
theorem nameF_not {L : List UInt8} {c : UInt8} {q : Nat} (h : L[q]? = some c) (hp : partB c.toNat = false) : nameF L = false := by
  cases hn : nameF L with
  | false => rfl
  | true =>
    have := ((nameF_iff L).1 hn).2.2.2 c (List.mem_of_getElem? h)
    rw [this] at hp
    cases hp
theorem nameF_not0 {L : List UInt8} {c : UInt8} (h : L[0]? = some c) (hp : smallB c.toNat = false) : nameF L = false := by
  cases hn : nameF L with
  | false => rfl
  | true =>
    have := ((nameF_iff L).1 hn).2.2.1 c h
    rw [this] at hp
    cases hp

section
variable {w : World}
theorem next_at (wr : World) (g pos : Nat) (s : ByteArray) (c : UInt8) (hit : wr.heap[g]? = some (.stringIter s pos)) (hp : pos < s.size) (hc : s.data.toList[pos]? = some c) :
    ∃ x wd : Nat, (∀ ty, (Instr.next (.pointer (some ⟨g, 0, none⟩)) true ty).run Tryz.prog wr = .ok (.tuple #[.bool true, .int .i64 (pos : Int), .int .i32 (x : Int)]) (wr.iterAt g s (pos + wd))) ∧ smallB x = smallB c.toNat ∧ partB x = partB c.toNat ∧ x < 2147483648 ∧ (partB c.toNat = true → wd = 1) := by
  obtain ⟨c', hc', hx, h256⟩ := byte_at s pos hp
  obtain rfl : c = c' := by rw [hc] at hc'; injection hc'
  by_cases h : c.toNat < 128
  · refine ⟨c.toNat, 1, fun ty => ?_, rfl, rfl, by omega, fun _ => rfl⟩
    rw [Lib.run_next_ascii_at wr g s pos ty hit hp (by rw [hx]; exact h), hx]
  · refine ⟨(Utf8.decode s pos).1, (Utf8.decode s pos).2, fun ty => Lib.run_next_any_at wr g s pos ty hit hp, ?_, ?_, ?_, ?_⟩
    · rw [(high_no (decode_high s pos hp (by rw [hx]; omega)).1).1, (high_no (c := c.toNat) (by omega)).1]
    · rw [(high_no (decode_high s pos hp (by rw [hx]; omega)).1).2, (high_no (c := c.toNat) (by omega)).2]
    · have := decode_le s pos
      omega
    · intro h2
      rw [(high_no (c := c.toNat) (by omega)).2] at h2
      cases h2

set_option maxHeartbeats 4000000 in
set_option maxRecDepth 100000 in
theorem name_any (s : ByteArray) : Calls Tryz.prog 88 #[.string s] w fun e w' => e = .returned (.bool (nameF s.data.toList)) ∧ Later w w' := by
  obtain ⟨L, hL⟩ : ∃ L, L = s.data.toList := ⟨_, rfl⟩
  have hlen : L.length = s.size := by rw [hL, Array.length_toList]; rfl
  rw [← hL]
  have HL := hide hL
  have HLEN := hide hlen
  have L0 := hide (Later.refl w)
  by_cases h1 : s.size < 1
  · have hb : (s.size : Int) < 1 := by omega
    have hf : nameF L = false := by
      cases hn : nameF L with
      | false => rfl
      | true => have := ((nameF_iff L).1 hn).1; omega
    rw [hf]
    clear hL hlen hf
    go_enter Tryz.func88, Tryz.ntmps88
    go_wp2
    go_ret
    exact ⟨rfl, L0.out⟩
  · have hb : ¬ (s.size : Int) < 1 := by omega
    by_cases h2 : 16 < s.size
    · have hb2 : 16 < (s.size : Int) := by omega
      have hf : nameF L = false := by
        cases hn : nameF L with
        | false => rfl
        | true => have := ((nameF_iff L).1 hn).2.1; omega
      rw [hf]
      clear hL hlen hf
      go_enter Tryz.func88, Tryz.ntmps88
      go_wp2
      go_ret
      exact ⟨rfl, L0.out⟩
    · have hb2 : ¬ 16 < (s.size : Int) := by omega
      clear hL hlen
      go_enter Tryz.func88, Tryz.ntmps88
      go_wp2_with (fail)
      refine (letter_any (w := w)).mono ?_
      rintro e w1 ⟨v1, rfl, hs1, hl1⟩
      have S1 := hide hs1
      have L1 := hide hl1
      clear hs1 hl1
      go_wp2_with (fail)
      refine (ofName_any (w := w1)).mono ?_
      rintro e w2 ⟨v2, rfl, hs2, hl2⟩
      have S2 := hide hs2
      have S12 := hide (S1.out.later hl2)
      have L2 := hide (L1.out.trans hl2)
      have eg1 := S1.out.1
      have eg2 := hs2.1
      unfold Enters at eg1 eg2
      clear hs2 hl2 S1 L1
      obtain ⟨F1, cs1⟩ := v1
      obtain ⟨F2, cs2⟩ := v2
      simp only [SetV.val]
      simp only at eg1 eg2
      go_wp2_with (fail)
      go_loopw [] (fun wr => ∃ pos : Nat, pos ≤ L.length ∧ (∀ c ∈ L.take pos, partB c.toNat = true) ∧ (0 < pos → ∀ c, L[0]? = some c → smallB c.toNat = true) ∧ wr.heap[w2.heap.size]? = some (.stringIter s pos) ∧ Later w2 wr) (fun wr => s.size - wr.iterPos w2.heap.size)
      case atStart => exact ⟨0, by omega, by simp, by simp, World.iter_heap w2 s 0, (Below.refl _ _).alloc (Nat.le_refl _) _⟩
      case round =>
        obtain ⟨pos, hpl, hall, hfirst, hit, hlat⟩ := hrel
        have HA := hide hall
        have HF := hide hfirst
        have HL2 := hide hlat
        have HIT := hide hit
        clear hall hfirst hlat
        have hsz : w2.heap.size < wr.heap.size := (Array.getElem?_eq_some_iff.1 hit).1
        by_cases hp : pos < s.size
        · obtain ⟨c, hc⟩ : ∃ c, L[pos]? = some c := ⟨_, List.getElem?_eq_getElem (by have := HLEN.out; omega)⟩
          obtain ⟨x, wd, hnx, hsm, hpa, hx, hw1⟩ := next_at wr w2.heap.size pos s c hit hp (by rw [← HL.out]; exact hc)
          have LW : Hid (Later w2 (wr.iterAt w2.heap.size s (pos + wd))) := Lib.below_iterAt HL2.out (Nat.le_refl _) s (pos + wd)
          have C1 := hide (S12.out.2 (wr.iterAt w2.heap.size s (pos + wd)) x LW.out hx)
          have HC := hide hc
          have HW := hide hw1
          have HIT2 := hide (Lib.iterAt_heap wr w2.heap.size s pos (pos + wd) hit)
          rw [hsm] at C1
          obtain ⟨W3, hW3⟩ : ∃ W3, W3 = wr.iterAt w2.heap.size s (pos + wd) := ⟨_, rfl⟩
          rw [← hW3] at hnx LW C1 HIT2
          have CP : ∀ W', Later W3 W' → Calls Tryz.prog F2 (#[.int .i32 (x : Int)] ++ cs2) W' fun e w' => e = .returned (.bool (partB c.toNat)) ∧ Later W' w' := fun W' h => by
            rw [← hpa]
            exact S2.out.2 W' x (LW.out.trans h) hx
          have HCP := hide CP
          have hitsz : w2.heap.size < W3.heap.size := (Array.getElem?_eq_some_iff.1 HIT2.out).1
          clear hit hc hw1 hsm hpa hW3 CP
          by_cases hp0 : pos = 0
          · have hpb : ((pos : Int) == 0) = true := by rw [beq_iff_eq]; omega
            have HP0 := hide hp0
            clear hp0
            cases hf1 : smallB c.toNat with
            | false =>
              rw [hf1] at C1
              go_wp2_with (fail)
              refine C1.out.mono ?_
              rintro e w4 ⟨rfl, hl4⟩
              go_wp2_with (fail)
              go_ret
              exact ⟨ret_bool (nameF_not0 (by rw [← HP0.out]; exact HC.out) hf1).symm, L2.out.trans (LW.out.trans hl4)⟩
            | true =>
              have hf2 := small_part hf1
              rw [hf1] at C1
              go_wp2_with (fail)
              refine C1.out.mono ?_
              rintro e w4 ⟨rfl, hl4⟩
              have C2 := hide (HCP.out w4 hl4)
              rw [hf2] at C2
              have HL4 := hide hl4
              clear hl4
              go_wp2_with (fail)
              refine C2.out.mono ?_
              rintro e w5 ⟨rfl, hl5'⟩
              have hl5 := HL4.out.trans hl5'
              go_wp2_with (fail)
              go_roundw
              case rel =>
                have hwd := HW.out hf2
                subst hwd
                refine ⟨pos + 1, by have := HLEN.out; omega, ?_, ?_, (Below.block hl5 _ hitsz).trans HIT2.out, LW.out.trans hl5⟩
                · intro y hy
                  rw [List.take_add_one, HC.out] at hy
                  simp only [Option.toList_some, List.mem_append, List.mem_singleton] at hy
                  rcases hy with hy | rfl
                  · exact HA.out y hy
                  · exact hf2
                · exact fun _ y hy => by rw [← HP0.out, HC.out] at hy; injection hy with hy; rw [← hy]; exact hf1
              case measure =>
                have hwd := HW.out hf2
                subst hwd
                have e1 : wr.iterPos w2.heap.size = pos := by simp only [World.iterPos, HIT.out]
                have e2 : w5.iterPos w2.heap.size = pos + 1 := by simp only [World.iterPos, (Below.block hl5 _ hitsz).trans HIT2.out]
                rw [e1, e2]
                omega
          · have hpb : ((pos : Int) == 0) = false := by rw [beq_eq_false_iff_ne]; omega
            have C2 := hide (HCP.out W3 (Later.refl _))
            have HP0 := hide hp0
            clear hp0
            cases hf2 : partB c.toNat with
            | false =>
              rw [hf2] at C2
              go_wp2_with (fail)
              refine C2.out.mono ?_
              rintro e w4 ⟨rfl, hl4⟩
              go_wp2_with (fail)
              go_ret
              exact ⟨ret_bool (nameF_not HC.out hf2).symm, L2.out.trans (LW.out.trans hl4)⟩
            | true =>
              rw [hf2] at C2
              go_wp2_with (fail)
              refine C2.out.mono ?_
              rintro e w5 ⟨rfl, hl5⟩
              go_wp2_with (fail)
              go_roundw
              case rel =>
                have hwd := HW.out hf2
                subst hwd
                refine ⟨pos + 1, by have := HLEN.out; omega, ?_, ?_, (Below.block hl5 _ hitsz).trans HIT2.out, LW.out.trans hl5⟩
                · intro y hy
                  rw [List.take_add_one, HC.out] at hy
                  simp only [Option.toList_some, List.mem_append, List.mem_singleton] at hy
                  rcases hy with hy | rfl
                  · exact HA.out y hy
                  · exact hf2
                · exact fun _ => HF.out (by have := HP0.out; omega)
              case measure =>
                have hwd := HW.out hf2
                subst hwd
                have e1 : wr.iterPos w2.heap.size = pos := by simp only [World.iterPos, HIT.out]
                have e2 : w5.iterPos w2.heap.size = pos + 1 := by simp only [World.iterPos, (Below.block hl5 _ hitsz).trans HIT2.out]
                rw [e1, e2]
                omega
        · have hnx : ∀ ty, (Instr.next (.pointer (some ⟨w2.heap.size, 0, none⟩)) true ty).run Tryz.prog wr = _ := fun ty => Lib.run_next_end_at wr w2.heap.size s pos ty hit hp
          have hf : nameF L = true := by
            have hpe : pos = L.length := by have := HLEN.out; omega
            rw [nameF_iff]
            refine ⟨by have := HLEN.out; omega, by have := HLEN.out; omega, HF.out (by have := HLEN.out; omega), ?_⟩
            have := HA.out
            rwa [hpe, List.take_length] at this
          go_wp2_with (fail)
          go_ret
          exact ⟨ret_bool hf.symm, L2.out.trans HL2.out⟩
end
end Go.Proofs.YtdkiopajilakcaaGreatDoor
/- What == and != give at steps. -/
namespace Go.Proofs.YtdkiopajilakcaaGreatDoor.Sd
open Go.RowKit

theorem toList_inj {a b : ByteArray} : a.toList = b.toList ↔ a = b := by
  rw [ByteArray.toList_eq, ByteArray.toList_eq]
  obtain ⟨⟨x⟩⟩ := a
  obtain ⟨⟨y⟩⟩ := b
  simp
theorem str_eq (a b : ByteArray) : (a.toList == b.toList) = decide (a = b) := by
  rw [Bool.eq_iff_iff, beq_iff_eq, decide_eq_true_eq, toList_inj]
theorem step_iff (s t : StepD) : s = t ↔ s.name.toList = t.name.toList ∧ s.stub = t.stub ∧ s.retry = t.retry ∧ s.wait = t.wait ∧ s.undo = t.undo ∧ s.pivot = t.pivot := by
  rw [toList_inj]
  obtain ⟨a, b, c, d, e, f⟩ := s
  obtain ⟨a', b', c', d', e', f'⟩ := t
  simp

theorem neq_step (s t : StepD) (w : World) : (binOp .neq 42 (.agg (s.cells).toArray) (.agg (t.cells).toArray)).run Tryz.prog w = .ok (.bool (!decide (s = t))) w := by
  have u3 := Tryz.underlying3
  have u4 := Tryz.underlying4
  have u9 := Tryz.underlying9
  have hS : Tryz.prog.underlying 42 = some (.struct (Tryz.prog.fieldsOf 42)) := by kernel_rfl
  have hp : Tryz.prog.stoodInHeld 42 = false := by kernel_rfl
  simp only [StepD.cells]
  rw [run_neq_struct, show (10000 : Nat) = 9999 + 1 from rfl, run_equalIn_struct w 9999 42 _ _ hS hp]
  simp only [Program.fieldsOf, Tryz.underlying42]
  go_simp
  have hi := step_iff s t
  by_cases h0 : s.name.toList = t.name.toList <;> by_cases h1 : s.stub = t.stub <;> by_cases h2 : s.retry = t.retry <;> by_cases h3 : s.wait = t.wait <;> by_cases h4 : s.undo = t.undo <;> by_cases h5 : s.pivot = t.pivot <;> simp [hi, h0, h1, h2, h3, h4, h5]

end Go.Proofs.YtdkiopajilakcaaGreatDoor.Sd
/- A region whose order is open, of calls that write what was there before: what reads the same in all worlds may come up at once; from some point on text Order's laws take over. -/
namespace Go.Proofs.YtdkiopajilakcaaGreatDoor
open Go.RowKit

section
variable {P : Program} {ops : Array Oper} {Q : Exit → Act → World → Prop} {md : Region.Mode}

end

end Go.Proofs.YtdkiopajilakcaaGreatDoor
/- slices.Equal at steps, the document's SameDef. -/
namespace Go.Proofs.YtdkiopajilakcaaGreatDoor.Sd
open Go.RowKit

def Alike {α : Type} (l m : List α) (k : Nat) : Prop := ∀ i, i < k → l[i]? = m[i]?
section
variable {α : Type} {l m : List α} {k : Nat}
theorem Alike.zero (l m : List α) : Alike l m 0 := fun i hi => by omega
theorem Alike.next (h : Alike l m k) (he : l[k]? = m[k]?) : Alike l m (k + 1) := fun i hi => by
  by_cases hk : i = k
  · rw [hk, he]
  · exact h i (by omega)
theorem Alike.all (h : Alike l m k) (h1 : l.length = k) (h2 : m.length = k) : l = m := by
  apply List.ext_getElem?
  intro i
  by_cases hi : i < k
  · exact h i hi
  · rw [List.getElem?_eq_none (by omega), List.getElem?_eq_none (by omega)]
theorem ne_at {x y : α} (hx : l[k]? = some x) (hy : m[k]? = some y) (hne : x ≠ y) : l ≠ m := by
  rintro rfl
  rw [hx] at hy
  exact hne (Option.some.inj hy)
end
theorem neq_step_same (s : StepD) (w : World) : (binOp .neq 42 (.agg (s.cells).toArray) (.agg (s.cells).toArray)).run Tryz.prog w = .ok (.bool false) w := by rw [neq_step]; simp
theorem neq_step_other {s t : StepD} (h : s ≠ t) (w : World) : (binOp .neq 42 (.agg (s.cells).toArray) (.agg (t.cells).toArray)).run Tryz.prog w = .ok (.bool true) w := by rw [neq_step]; simp [h]

set_option maxHeartbeats 1000000 in
theorem same_def (F G : Nat → Prop) (a1 a2 : ByteArray) (v v2 : Value) (l m : List StepD) (w : World) (hl : StepsAt F w v l) (hm : StepsAt G w v2 m) :
    Calls Tryz.prog 66 #[.agg #[.string a1, v], .agg #[.string a2, v2]] w fun e w' => e = .returned (.bool (decide (a1 = a2 ∧ l = m))) ∧ Below w.heap.size w w' := by
  obtain ⟨A, c, rfl, h1, h2, _⟩ := FlatAt.shape hl
  obtain ⟨A2, c2, rfl, h3, h4, _⟩ := FlatAt.shape hm
  unfold maxLen at h2 h4
  obtain ⟨n, hn⟩ : ∃ n, l.length = n := ⟨_, rfl⟩
  obtain ⟨n2, hn2⟩ : ∃ n2, m.length = n2 := ⟨_, rfl⟩
  rw [hn] at h1 hl ⊢
  rw [hn2] at h3 hm ⊢
  have hbw : Below w.heap.size w ((w.alloc (.cells #[.string a1, .slice A n c] 24 (0, 0))).alloc (.cells #[.string a2, .slice A2 n2 c2] 24 (0, 0))) := ((Below.refl _ _).alloc (Nat.le_refl _) _).alloc (by simp) _
  have H1 := hide (hl.kept (Kept.of_below hbw F))
  have H2 := hide (hm.kept (Kept.of_below hbw G))
  have HBW := hide hbw
  have HN := hide hn
  have HN2 := hide hn2
  clear hl hm hbw hn hn2
  by_cases ha : a1 = a2
  · subst ha
    have hs1 : (a1.toList == a1.toList) = true := by simp
    have hs2 : (a1.toList != a1.toList) = false := by simp
    by_cases hnm : n = n2
    · subst hnm
      have ht : ((n : Int) != (n : Int)) = false := by simp
      go_enter Tryz.func66, Tryz.ntmps66
      go_wp2
      have cA : ((w.alloc (.cells #[.string a1, .slice A n c] 24 (0, 0))).alloc (.cells #[.string a1, .slice A2 n c2] 24 (0, 0))).cell? ⟨w.heap.size, 1, none⟩ = some (.slice A n c) := cell_of_row _ _ 1 _ _ _ ((Below.block ((Below.refl _ _).alloc (Nat.le_refl _) _) w.heap.size (by simp)).trans (heap_alloc_new w _))
      have cB : ((w.alloc (.cells #[.string a1, .slice A n c] 24 (0, 0))).alloc (.cells #[.string a1, .slice A2 n c2] 24 (0, 0))).cell? ⟨w.heap.size + 1, 1, none⟩ = some (.slice A2 n c2) := cell_of_row _ _ 1 _ _ _ (heap_alloc2_new w _ _)
      generalize ((w.alloc (.cells #[.string a1, .slice A n c] 24 (0, 0))).alloc (.cells #[.string a1, .slice A2 n c2] 24 (0, 0))) = W at H1 H2 HBW cA cB ⊢
      go_loopw [23] (fun i wr => ∃ k : Nat, k ≤ n ∧ i = .int .i64 (k : Int) ∧ Alike l m k ∧ ∃ q, wr = W.drewN q) (fun i _ => n - (Go.RowKit.intOf i).toNat)
      case atStart => exact ⟨0, by omega, rfl, Alike.zero _ _, 0, rfl⟩
      case round =>
        obtain ⟨k, hk, rfl, hup, q, rfl⟩ := hrel
        have HU := hide hup
        clear hup
        by_cases hkn : k < n
        · obtain ⟨x, b, off, c', hx, hv, _, _, _, hr⟩ := StepsAt.at_ H1.out (i := k) (by rw [HN.out]; exact hkn)
          rw [HN.out] at hv
          obtain ⟨rfl, rfl⟩ : A = some ⟨b, off, none⟩ ∧ c = c' := by injection hv with e1 _ e3; exact ⟨e1, e3⟩
          obtain ⟨y, b2, off2, c2', hy, hv2, _, _, _, hr2⟩ := StepsAt.at_ H2.out (i := k) (by rw [HN2.out]; exact hkn)
          rw [HN2.out] at hv2
          obtain ⟨rfl, rfl⟩ : A2 = some ⟨b2, off2, none⟩ ∧ c2 = c2' := by injection hv2 with e1 _ e3; exact ⟨e1, e3⟩
          obtain ⟨r0, r1, r2, r3, r4, r5⟩ := range_step hr
          obtain ⟨s0, s1, s2, s3, s4, s5⟩ := range_step hr2
          have HX := hide hx
          have HY := hide hy
          clear hx hy hv hv2 hr hr2
          by_cases he : x = y
          · subst he
            have hq := fun w => neq_step_same x w
            simp only [StepD.cells] at hq
            go_wp2
            go_quiet (fail)
            go_wp2
            go_roundw
            case rel => exact ⟨k + 1, by omega, by go_num, HU.out.next (HX.out.trans HY.out.symm), _, rfl⟩
            case measure => simp [Go.RowKit.intOf]; omega
          · have hq := fun w => neq_step_other he w
            simp only [StepD.cells] at hq
            have HE := hide (ne_at HX.out HY.out he)
            clear he
            go_wp2
            go_quiet (fail)
            go_wp2
            go_ret
            exact ⟨ret_bool (by simp [HE.out]), HBW.out.trans ((below_drewN _ _ _).trans (below_drewN _ _ _))⟩
        · go_wp2
          go_ret
          exact ⟨ret_bool (by simp [HU.out.all (by have := HN.out; omega) (by have := HN2.out; omega)]), HBW.out.trans (below_drewN _ _ _)⟩
    · have ht : ((n : Int) != (n2 : Int)) = true := by simp; omega
      have HE : Hid (l ≠ m) := by
        rintro rfl
        exact hnm (HN.out.symm.trans HN2.out)
      go_enter Tryz.func66, Tryz.ntmps66
      go_wp2
      go_ret
      exact ⟨ret_bool (by simp [HE.out]), HBW.out⟩
  · have hs0 : (a1.toList == a2.toList) = false := by rw [str_eq]; simpa using ha
    have hs1 : (a1.toList != a2.toList) = true := by unfold bne; rw [hs0]; rfl
    have HE := hide ha
    clear ha
    go_enter Tryz.func66, Tryz.ntmps66
    go_wp2
    go_ret
    exact ⟨ret_bool (by simp [HE.out]), HBW.out⟩
end Go.Proofs.YtdkiopajilakcaaGreatDoor.Sd
/- slices.Equal at steps. -/
namespace Go.Proofs.YtdkiopajilakcaaGreatDoor.Sd
open Go.RowKit

end Go.Proofs.YtdkiopajilakcaaGreatDoor.Sd
/- Steps asked by a closure; a number out of its bounds; a step looked at. -/
namespace Go.Proofs.YtdkiopajilakcaaGreatDoor
open Go.RowKit

def AskAt (w : World) (v : SetV) (f : StepD → Bool) : Prop :=
  Enters v.F ∧ ∀ (W : World) (s : StepD), Later w W → Calls Tryz.prog v.F (#[.agg s.cells.toArray] ++ v.cs) W fun e W' => e = .returned (.bool (f s)) ∧ Later W W'
section
variable {w : World}
theorem outside_any (n lo hi : Int) : Calls Tryz.prog 89 #[.int .i64 n, .int .i64 lo, .int .i64 hi] w fun e w' => e = .returned (.bool (outB n lo hi)) ∧ w' = w := by
  unfold outB
  by_cases h1 : n < lo
  · go_enter Tryz.func89, Tryz.ntmps89
    go_wp2
    go_ret
    exact ⟨ret_bool (by simp [h1]), rfl⟩
  · by_cases h2 : hi < n
    · go_enter Tryz.func89, Tryz.ntmps89
      go_wp2
      go_ret
      exact ⟨ret_bool (by simp), rfl⟩
    · go_enter Tryz.func89, Tryz.ntmps89
      go_wp2
      go_ret
      exact ⟨ret_bool (by simp [h1, h2]), rfl⟩

set_option maxHeartbeats 2000000 in
theorem index_ask {F : Nat → Prop} {v : SetV} {f : StepD → Bool} {A : Option Addr} {n cap : Nat} {l : List StepD} (h : StepsAt F w (.slice A n cap) l) (hn : n = l.length) (hv : AskAt w v f) (hs : n ≤ 1000) :
    Calls Tryz.prog 138 #[.slice A n cap, v.val] w fun e w' => ∃ i : Int, e = .returned (.int .i64 i) ∧ decide (0 ≤ i) = l.any f ∧ Later w w' := by
  have H := hide h
  have HN := hide hn
  have HV := hide hv
  have eg := hv.1
  unfold Enters at eg
  clear h hn hv
  obtain ⟨FF, cs⟩ := v
  simp only [SetV.val]
  simp only at eg
  go_enter Tryz.func138, Tryz.ntmps138
  go_wp2
  go_loopw [8] (fun i wr => ∃ q : Nat, q ≤ n ∧ i = .int .i64 (q : Int) ∧ (l.take q).any f = false ∧ Later w wr) (fun i _ => n - (Go.RowKit.intOf i).toNat)
  case atStart => exact ⟨0, by omega, rfl, by simp, Later.refl _⟩
  case round =>
    obtain ⟨q, hq, rfl, hall, hlat⟩ := hrel
    have HA := hide hall
    have HL := hide hlat
    clear hall hlat
    by_cases hlt : q < n
    · obtain ⟨s, b, off, c', hs', hvv, _, _, _, hr⟩ := StepsAt.at_ (StepsAt.kept H.out (Kept.of_below HL.out _)) (i := q) (by rw [← HN.out]; exact hlt)
      rw [← HN.out] at hvv
      obtain ⟨rfl, rfl⟩ : A = some ⟨b, off, none⟩ ∧ cap = c' := by injection hvv with e1 _ e3; exact ⟨e1, e3⟩
      obtain ⟨r0, r1, r2, r3, r4, r5⟩ := range_step hr
      have HP := hide hs'
      have C := hide (HV.out.2 wr s HL.out)
      obtain ⟨t, ht⟩ : ∃ t, f s = t := ⟨_, rfl⟩
      rw [ht] at C
      have HT := hide ht
      unfold StepD.cells at C
      simp only at C
      clear hs' hvv hr ht
      go_wp2_with (fail)
      refine C.out.mono ?_
      rintro e w1 ⟨rfl, hl⟩
      have HL1 := hide (HL.out.trans hl)
      clear hl C r0 r1 r2 r3 r4 r5
      cases t with
      | false =>
        go_wp2
        go_roundw
        case rel =>
          refine ⟨q + 1, by omega, by go_num, ?_, HL1.out⟩
          rw [List.take_add_one, HP.out, List.any_append, HA.out]
          simp [HT.out]
        case measure => simp [Go.RowKit.intOf]; omega
      | true =>
        go_wp2
        go_ret
        refine ⟨(q : Int), rfl, ?_, HL1.out⟩
        have hyes : l.any f = true := by
          rw [List.any_eq_true]
          exact ⟨s, List.mem_of_getElem? HP.out, HT.out⟩
        rw [hyes]
        simp
    · have hall : l.any f = false := by
        have h1 := HA.out
        rwa [List.take_of_length_le (by have := HN.out; omega)] at h1
      have HALL := hide hall
      clear hall
      go_wp2
      go_ret
      exact ⟨-1, rfl, by rw [HALL.out]; decide, HL.out⟩
theorem contains_ask {F : Nat → Prop} {v : SetV} {f : StepD → Bool} {A : Option Addr} {n cap : Nat} {l : List StepD} (h : StepsAt F w (.slice A n cap) l) (hn : n = l.length) (hv : AskAt w v f) (hs : n ≤ 1000) :
    Calls Tryz.prog 117 #[.slice A n cap, v.val] w fun e w' => e = .returned (.bool (l.any f)) ∧ Later w w' := by
  have C := hide (index_ask h hn hv hs)
  obtain ⟨vv, hvv⟩ : ∃ vv, v.val = vv := ⟨_, rfl⟩
  rw [hvv] at C ⊢
  clear h hn hvv
  go_enter Tryz.func117, Tryz.ntmps117
  go_wp2_with (fail)
  refine C.out.mono ?_
  rintro e w1 ⟨i, rfl, hi, hl⟩
  have HI := hide hi
  have HL := hide hl
  clear hi hl C
  go_wp2
  go_ret
  exact ⟨ret_bool HI.out, HL.out⟩

theorem named1_any (W : World) (a : StepD) (s : StepD) (b : Nat) (h : W.cell? ⟨b, 0, none⟩ = some (.string s.name)) :
    Calls Tryz.prog 122 #[.agg a.cells.toArray, .pointer (some ⟨b, 0, none⟩)] W fun e W' => e = .returned (.bool (decide (a.name = s.name))) ∧ Later W W' := by
  have HL : Hid (Later W (W.alloc (.cells a.cells.toArray 42 (0, 0)))) := (Below.refl _ _).alloc (Nat.le_refl _) _
  have hb : b < W.heap.size := by
    rcases Nat.lt_or_ge b W.heap.size with h1 | h1
    · exact h1
    · simp [World.cell?, Array.getElem?_eq_none h1] at h
  unfold StepD.cells at *
  go_enter Tryz.func122, Tryz.ntmps122
  go_wp2
  go_ret
  exact ⟨ret_bool (Sd.str_eq _ _), HL.out⟩
theorem enters_named1 : Enters 122 := fun args w => by go_simp
theorem pivot2_any (W : World) (a : StepD) : Calls Tryz.prog 123 #[.agg a.cells.toArray] W fun e W' => e = .returned (.bool a.pivot) ∧ Later W W' := by
  have HL : Hid (Later W (W.alloc (.cells a.cells.toArray 42 (0, 0)))) := (Below.refl _ _).alloc (Nat.le_refl _) _
  unfold StepD.cells at *
  go_enter Tryz.func123, Tryz.ntmps123
  go_wp2
  go_ret
  exact ⟨rfl, HL.out⟩
theorem enters_pivot2 : Enters 123 := fun args w => by go_simp
end
end Go.Proofs.YtdkiopajilakcaaGreatDoor
/- A step in a block of its own. -/
namespace Go.Proofs.YtdkiopajilakcaaGreatDoor
open Go.RowKit

def StepBox (h : Nat) (s : StepD) (w : World) : Prop := w.heap[h]? = some (.cells s.cells.toArray 42 (0, 0))
theorem StepBox.cells {h : Nat} {s : StepD} {w : World} (hb : StepBox h s w) : w.cell? ⟨h, 0, none⟩ = some (.string s.name) ∧ w.cell? ⟨h, 1, none⟩ = some (.int .i64 s.stub) ∧ w.cell? ⟨h, 2, none⟩ = some (.int .i64 s.retry) ∧ w.cell? ⟨h, 3, none⟩ = some (.int .i64 s.wait) ∧
    w.cell? ⟨h, 4, none⟩ = some (.bool s.undo) ∧ w.cell? ⟨h, 5, none⟩ = some (.bool s.pivot) ∧ ∀ i, w.frozen? ⟨h, i, none⟩ = false :=
  ⟨(cell_of_row w h 0 _ _ _ hb).trans rfl, (cell_of_row w h 1 _ _ _ hb).trans rfl, (cell_of_row w h 2 _ _ _ hb).trans rfl, (cell_of_row w h 3 _ _ _ hb).trans rfl, (cell_of_row w h 4 _ _ _ hb).trans rfl, (cell_of_row w h 5 _ _ _ hb).trans rfl, fun i => frozen_of_row w h i _ _ hb⟩
theorem StepBox.set {h i : Nat} {s s' : StepD} {w : World} {v : Value} (hb : StepBox h s w) (hs : s'.cells.toArray = s.cells.toArray.setIfInBounds i v) : StepBox h s' (w.setCell ⟨h, i, none⟩ v) := by
  unfold StepBox
  rw [hs]
  exact heap_setCell_same w h i _ _ v hb
end Go.Proofs.YtdkiopajilakcaaGreatDoor
/- The pivot, how often a step may be tried, whether a step is hit: the code's and the document's. -/
namespace Go.Proofs.YtdkiopajilakcaaGreatDoor
open Go.RowKit

def BoolsAt (F : Nat → Prop) (w : World) (v : Value) (l : List Bool) : Prop := FlatAt F w 1 v l.length (l.map fun x => .bool x)
theorem BoolsAt.kept {F : Nat → Prop} {w w' : World} {v : Value} {l : List Bool} (h : BoolsAt F w v l) (hk : Kept F w w') : BoolsAt F w' v l := FlatAt.kept h hk
theorem BoolsAt.at_ {F : Nat → Prop} {w : World} {v : Value} {l : List Bool} (h : BoolsAt F w v l) {i : Nat} (hi : i < l.length) : ∃ x b off c, l[i]? = some x ∧ v = .slice (some ⟨b, off, none⟩) l.length c ∧ l.length ≤ c ∧ F b ∧ b < w.heap.size ∧ w.cell? ⟨b, off + i, none⟩ = some (.bool x) := by
  obtain ⟨b, off, c, hv, hc, hf, hb, hr⟩ := FlatAt.elem h hi
  have hs : l[i]? = some l[i] := List.getElem?_eq_getElem hi
  refine ⟨l[i], b, off, c, hs, hv, hc, hf, hb, ?_⟩
  have := hr 0 (.bool l[i]) (by simp [List.getElem?_drop, hs])
  simpa using this

def DefBox (y : Nat) (name : ByteArray) (v : Value) (w : World) : Prop := w.heap[y]? = some (.cells #[.string name, v] 24 (0, 0))
theorem DefBox.below {y : Nat} {name : ByteArray} {v : Value} {w w' : World} (h : DefBox y name v w) (hl : Later w w') : DefBox y name v w' := (Below.block hl y (lt_of_block h)).trans h
theorem DefBox.steps {y : Nat} {name : ByteArray} {v : Value} {w : World} (h : DefBox y name v w) : w.cell? ⟨y, 1, none⟩ = some v := (cell_of_row w y 1 _ _ _ h).trans rfl
section
variable {w : World}
theorem tries_any (s : StepD) (h : I64 s.retry) : Calls Tryz.prog 91 #[.agg s.cells.toArray] w fun e w' => e = .returned (.int .i64 (triesF s)) ∧ Later w w' := by
  have HL : Hid (Later w (w.alloc (.cells s.cells.toArray 42 (0, 0)))) := (Below.refl _ _).alloc (Nat.le_refl _) _
  unfold I64 at h
  obtain ⟨T, hT⟩ : ∃ T, triesF s = T := ⟨_, rfl⟩
  rw [hT]
  unfold triesF outB at hT
  have HT := hide hT
  unfold StepD.cells at *
  obtain ⟨nm, st, r, wt, un, pv⟩ := s
  simp only at *
  clear hT
  by_cases h1 : r < 0
  · obtain rfl : T = 0 := by rw [← HT.out]; simp [h1]
    go_enter Tryz.func91, Tryz.ntmps91
    go_wp2
    go_ret
    exact ⟨rfl, HL.out⟩
  · by_cases h2 : 9 < r
    · obtain rfl : T = 0 := by rw [← HT.out]; simp [h2]
      go_enter Tryz.func91, Tryz.ntmps91
      go_wp2
      go_ret
      exact ⟨rfl, HL.out⟩
    · obtain rfl : T = r + 1 := by rw [← HT.out]; simp [h1, h2]
      clear HT
      go_enter Tryz.func91, Tryz.ntmps91
      go_wp2
      go_ret
      exact ⟨rfl, HL.out⟩
end
end Go.Proofs.YtdkiopajilakcaaGreatDoor
/- How often a step may be tried, and whether there is no way back: the code's and the document's. -/
namespace Go.Proofs.YtdkiopajilakcaaGreatDoor
open Go.RowKit

theorem triesN_no {l : List StepD} {k : Int} (h : k < 1 ∨ (l.length : Int) < k) : triesN l k = 0 := by unfold triesN; rw [if_pos h]
theorem triesN_at {l : List StepD} {q : Nat} {s : StepD} (h : l[q]? = some s) : triesN l ((q : Int) + 1) = triesF s := by
  have hq := (List.getElem?_eq_some_iff.1 h).1
  unfold triesN
  rw [if_neg (by omega), show ((q : Int) + 1 - 1).toNat = q from by omega, h]
  rfl
section
variable {w : World}
set_option maxHeartbeats 4000000 in
theorem Tries_any {F : Nat → Prop} {name : ByteArray} {v : Value} {l : List StepD} {k : Int} (h : StepsAt F w v l) (hk : I64 k) (hw : ∀ s ∈ l, s.wf) :
    Calls Tryz.prog 46 #[.agg #[.string name, v], .int .i64 k] w fun e w' => e = .returned (.int .i64 (triesN l k)) ∧ Later w w' := by
  obtain ⟨A, cap, rfl, hc1, hc2, _⟩ := FlatAt.shape h
  obtain ⟨n, hn⟩ : ∃ n, l.length = n := ⟨_, rfl⟩
  rw [hn] at h hc1 ⊢
  obtain ⟨W1, hW1⟩ : ∃ W1, W1 = w.alloc (.cells #[.string name, .slice A n cap] 24 (0, 0)) := ⟨_, rfl⟩
  obtain ⟨y, hy⟩ : ∃ y, y = w.heap.size := ⟨_, rfl⟩
  have B1 : Hid (DefBox y name (.slice A n cap) W1) := by rw [hW1, hy]; exact heap_alloc_new w _
  have L1 : Hid (Later w W1) := by rw [hW1]; exact (Below.refl _ _).alloc (Nat.le_refl _) _
  have HW1 := hide hW1.symm
  have HY := hide hy.symm
  have H := hide (StepsAt.kept h (Kept.of_below L1.out _))
  have c1 : W1.cell? ⟨y, 1, none⟩ = some (.slice A n cap) := B1.out.steps
  obtain ⟨T, hT⟩ : ∃ T, triesN l k = T := ⟨_, rfl⟩
  rw [hT]
  have HT := hide hT
  unfold I64 at hk
  have HN := hide hn
  clear h hW1 hy hT hc2 hn
  by_cases hk1 : k < 1
  · obtain rfl : T = 0 := by rw [← HT.out]; exact triesN_no (.inl hk1)
    go_enter Tryz.func46, Tryz.ntmps46
    go_wp2_with (fail)
    have hw := HW1.out
    have hyy := HY.out
    simp only [hw, hyy]
    clear hw hyy
    go_wp2
    go_ret
    exact ⟨rfl, L1.out⟩
  · by_cases hk3 : (n : Int) < k
    · obtain rfl : T = 0 := by rw [← HT.out]; exact triesN_no (.inr (by rw [HN.out]; exact hk3))
      go_enter Tryz.func46, Tryz.ntmps46
      go_wp2_with (fail)
      have hw := HW1.out
      have hyy := HY.out
      simp only [hw, hyy]
      clear hw hyy
      go_wp2
      go_ret
      exact ⟨rfl, L1.out⟩
    · obtain ⟨q, rfl⟩ : ∃ q : Nat, k = (q : Int) + 1 := ⟨(k - 1).toNat, by omega⟩
      have hqn : q < n := by omega
      obtain ⟨s, b, off, c', hx, hvv, _, _, _, hr⟩ := StepsAt.at_ H.out (i := q) (by rw [HN.out]; exact hqn)
      rw [HN.out] at hvv
      obtain ⟨rfl, rfl⟩ : A = some ⟨b, off, none⟩ ∧ cap = c' := by injection hvv with e1 _ e3; exact ⟨e1, e3⟩
      obtain rfl : T = triesF s := by rw [← HT.out]; exact triesN_at hx
      have C := hide (tries_any (w := W1) s (hw s (List.mem_of_getElem? hx)).2.2.1)
      obtain ⟨r0, r1, r2, r3, r4, r5⟩ := range_step hr
      have hk5 : (q : Int) + 1 - 1 = (q : Int) := by omega
      have hk6 : ¬ ((n : Int) < (q : Int) + 1) := hk3
      have hk7 : ¬ ((q : Int) + 1 < 1) := hk1
      clear hvv hx hk1 hk3 hw hr
      unfold StepD.cells at C
      rw [← HW1.out] at r0 r1 r2 r3 r4 r5
      go_enter Tryz.func46, Tryz.ntmps46
      go_wp2_with (fail)
      have hw := HW1.out
      simp only [hw]
      clear hw r0 r1 r2 r3 r4 r5
      refine C.out.mono ?_
      rintro e w2 ⟨rfl, hl2⟩
      have HL := hide (L1.out.trans hl2)
      clear hl2 C
      go_wp2
      go_ret
      exact ⟨rfl, HL.out⟩

set_option maxHeartbeats 4000000 in
theorem rTries_any {F : Nat → Prop} {name : ByteArray} {v : Value} {l : List StepD} {k : Int} (h : StepsAt F w v l) (hk : I64 k) (hw : ∀ s ∈ l, s.wf) :
    Calls Tryz.prog 53 #[.agg #[.string name, v], .int .i64 k] w fun e w' => e = .returned (.int .i64 (triesN l k)) ∧ Later w w' := by
  obtain ⟨A, cap, rfl, hc1, hc2, _⟩ := FlatAt.shape h
  obtain ⟨n, hn⟩ : ∃ n, l.length = n := ⟨_, rfl⟩
  rw [hn] at h hc1 ⊢
  obtain ⟨W1, hW1⟩ : ∃ W1, W1 = w.alloc (.cells #[.string name, .slice A n cap] 24 (0, 0)) := ⟨_, rfl⟩
  obtain ⟨y, hy⟩ : ∃ y, y = w.heap.size := ⟨_, rfl⟩
  have B1 : Hid (DefBox y name (.slice A n cap) W1) := by rw [hW1, hy]; exact heap_alloc_new w _
  have L1 : Hid (Later w W1) := by rw [hW1]; exact (Below.refl _ _).alloc (Nat.le_refl _) _
  have HW1 := hide hW1.symm
  have HY := hide hy.symm
  have H := hide (StepsAt.kept h (Kept.of_below L1.out _))
  have c1 : W1.cell? ⟨y, 1, none⟩ = some (.slice A n cap) := B1.out.steps
  obtain ⟨T, hT⟩ : ∃ T, triesN l k = T := ⟨_, rfl⟩
  rw [hT]
  have HT := hide hT
  unfold I64 at hk
  have HN := hide hn
  clear h hW1 hy hT hc2 hn
  by_cases hk1 : k < 1
  · obtain rfl : T = 0 := by rw [← HT.out]; exact triesN_no (.inl hk1)
    go_enter Tryz.func53, Tryz.ntmps53
    go_wp2_with (fail)
    have hw := HW1.out
    have hyy := HY.out
    simp only [hw, hyy]
    clear hw hyy
    go_wp2
    go_ret
    exact ⟨rfl, L1.out⟩
  · by_cases hk3 : (n : Int) < k
    · obtain rfl : T = 0 := by rw [← HT.out]; exact triesN_no (.inr (by rw [HN.out]; exact hk3))
      go_enter Tryz.func53, Tryz.ntmps53
      go_wp2_with (fail)
      have hw := HW1.out
      have hyy := HY.out
      simp only [hw, hyy]
      clear hw hyy
      go_wp2
      go_ret
      exact ⟨rfl, L1.out⟩
    · obtain ⟨q, rfl⟩ : ∃ q : Nat, k = (q : Int) + 1 := ⟨(k - 1).toNat, by omega⟩
      have hqn : q < n := by omega
      obtain ⟨s, b, off, c', hx, hvv, _, _, _, hr⟩ := StepsAt.at_ H.out (i := q) (by rw [HN.out]; exact hqn)
      rw [HN.out] at hvv
      obtain ⟨rfl, rfl⟩ : A = some ⟨b, off, none⟩ ∧ cap = c' := by injection hvv with e1 _ e3; exact ⟨e1, e3⟩
      have hTs : T = triesF s := by rw [← HT.out]; exact triesN_at hx
      have hwf := (hw s (List.mem_of_getElem? hx)).2.2.1
      unfold triesF outB at hTs
      unfold I64 at hwf
      obtain ⟨r0, r1, r2, r3, r4, r5⟩ := range_step hr
      have hk5 : (q : Int) + 1 - 1 = (q : Int) := by omega
      have hk6 : ¬ ((n : Int) < (q : Int) + 1) := hk3
      have hk7 : ¬ ((q : Int) + 1 < 1) := hk1
      obtain ⟨r, hrr⟩ : ∃ r, s.retry = r := ⟨_, rfl⟩
      rw [hrr] at r2 hTs hwf
      clear hvv hx hk1 hk3 hw hr r0 r1 r3 r4 r5 hrr
      by_cases h1 : r < 0
      · obtain rfl : T = 0 := by rw [hTs]; simp [h1]
        clear hTs
        rw [← HW1.out] at r2
        go_enter Tryz.func53, Tryz.ntmps53
        go_wp2
        rw [HW1.out]
        go_ret
        exact ⟨rfl, L1.out⟩
      · by_cases h2 : 9 < r
        · obtain rfl : T = 0 := by rw [hTs]; simp [h2]
          clear hTs
          rw [← HW1.out] at r2
          go_enter Tryz.func53, Tryz.ntmps53
          go_wp2
          rw [HW1.out]
          go_ret
          exact ⟨rfl, L1.out⟩
        · obtain rfl : T = r + 1 := by rw [hTs]; simp [h1, h2]
          clear hTs HT
          rw [← HW1.out] at r2
          go_enter Tryz.func53, Tryz.ntmps53
          go_wp2
          rw [HW1.out]
          go_ret
          exact ⟨rfl, L1.out⟩

end
end Go.Proofs.YtdkiopajilakcaaGreatDoor
/- The way down: steps are gone down by a range over a function. -/
namespace Go.Proofs.YtdkiopajilakcaaGreatDoor
open Go.RowKit Go.Shelf

attribute [local go_sem] Oper.semAt_some

end Go.Proofs.YtdkiopajilakcaaGreatDoor
/- The small functions of package saga: at, ended, hit, upTo. -/
namespace Go.Proofs.YtdkiopajilakcaaGreatDoor
open Go.RowKit

def Gives (v : Value) (w : World) (e : Ending) (w' : World) : Prop := e = .returned v ∧ Later w w'
theorem heap_second (w : World) (A B : Obj) : ((w.alloc A).alloc B).heap[w.heap.size + 1]? = some B := by
  have h := heap_alloc_new (w.alloc A) B
  rwa [show (w.alloc A).heap.size = w.heap.size + 1 from by simp] at h
section
variable {w : World}
def HitBox (g : Nat) (x : Hits) (w : World) : Prop := w.heap[g]? = some (.cells x.cells.toArray 25 (0, 0))
theorem HitBox.cells {g : Nat} {x : Hits} (h : HitBox g x w) : w.cell? ⟨g, 0, none⟩ = some (.bool x.a0) ∧ w.cell? ⟨g, 1, none⟩ = some (.bool x.a1) ∧ w.cell? ⟨g, 2, none⟩ = some (.bool x.a2) ∧ w.cell? ⟨g, 3, none⟩ = some (.bool x.a3) ∧
    w.cell? ⟨g, 4, none⟩ = some (.bool x.a4) ∧ w.cell? ⟨g, 5, none⟩ = some (.bool x.a5) ∧ w.cell? ⟨g, 6, none⟩ = some (.bool x.a6) ∧ w.cell? ⟨g, 7, none⟩ = some (.bool x.a7) ∧ ∀ i, w.frozen? ⟨g, i, none⟩ = false :=
  ⟨(cell_of_row w g 0 _ _ _ h).trans rfl, (cell_of_row w g 1 _ _ _ h).trans rfl, (cell_of_row w g 2 _ _ _ h).trans rfl, (cell_of_row w g 3 _ _ _ h).trans rfl, (cell_of_row w g 4 _ _ _ h).trans rfl, (cell_of_row w g 5 _ _ _ h).trans rfl, (cell_of_row w g 6 _ _ _ h).trans rfl, (cell_of_row w g 7 _ _ _ h).trans rfl, fun i => frozen_of_row w g i _ _ h⟩
theorem HitBox.set {g : Nat} {x y : Hits} {i : Nat} {v : Value} (h : HitBox g x w) (hs : y.cells.toArray = x.cells.toArray.setIfInBounds i v) : HitBox g y (w.setCell ⟨g, i, none⟩ v) := by
  unfold HitBox
  rw [hs]
  exact heap_setCell_same w g i _ _ v h
theorem up_next {q : Nat} (h : q < 8) : (upH ((q + 1 : Nat) : Int)).cells.toArray = (upH (q : Int)).cells.toArray.setIfInBounds q (.bool true) := by
  have hc : q = 0 ∨ q = 1 ∨ q = 2 ∨ q = 3 ∨ q = 4 ∨ q = 5 ∨ q = 6 ∨ q = 7 := by omega
  rcases hc with rfl | rfl | rfl | rfl | rfl | rfl | rfl | rfl <;> rfl
theorem up_cell {g q : Nat} {x : Hits} (h : HitBox g x w) (hq : q < 8) : ∃ b, w.cell? ⟨g, q, none⟩ = some (.bool b) := by
  obtain ⟨h0, h1, h2, h3, h4, h5, h6, h7, _⟩ := h.cells
  have hc : q = 0 ∨ q = 1 ∨ q = 2 ∨ q = 3 ∨ q = 4 ∨ q = 5 ∨ q = 6 ∨ q = 7 := by omega
  rcases hc with rfl | rfl | rfl | rfl | rfl | rfl | rfl | rfl
  all_goals first | exact ⟨_, h0⟩ | exact ⟨_, h1⟩ | exact ⟨_, h2⟩ | exact ⟨_, h3⟩ | exact ⟨_, h4⟩ | exact ⟨_, h5⟩ | exact ⟨_, h6⟩ | exact ⟨_, h7⟩
theorem hits_put (x y : Hits) : putAt x.cells.toArray 0 y.cells = y.cells.toArray := by simp [putAt, Hits.cells]
theorem up_neg {k : Int} (h : k ≤ 0) : upH k = upH ((0 : Nat) : Int) := by
  unfold upH
  simp only [Hits.mk.injEq, decide_eq_decide]
  omega
set_option maxHeartbeats 4000000 in
theorem upTo_any (k : Int) (hk : k ≤ 8) : Calls Tryz.prog 48 #[.int .i64 k] w (Gives (upH k).val w) := by
  have L0 : Hid (∀ o1 o2 : Obj, Later w ((w.alloc o1).alloc o2)) := fun o1 o2 => ((Below.refl _ _).alloc (Nat.le_refl _) _).alloc (by simp) _
  obtain ⟨W0, hW0⟩ : ∃ W0, W0 = (w.alloc (.cells (upH ((0 : Nat) : Int)).cells.toArray 25 (0, 0))).alloc (.cells (upH ((0 : Nat) : Int)).cells.toArray 25 (0, 0)) := ⟨_, rfl⟩
  obtain ⟨g, hg⟩ : ∃ g, g = w.heap.size := ⟨_, rfl⟩
  have B0 : Hid (HitBox g (upH ((0 : Nat) : Int)) W0) := by rw [hW0, hg]; exact (heap_alloc_old _ _ (by simp)).trans (heap_alloc_new _ _)
  have B1 : Hid (HitBox (g + 1) (upH ((0 : Nat) : Int)) W0) := by rw [hW0, hg]; exact heap_second _ _ _
  have L1 : Hid (Later w W0) := by rw [hW0]; exact L0.out _ _
  unfold Hits.cells upH at hW0
  simp only [Int.natCast_zero, Int.lt_irrefl, decide_false, show ¬ ((1:Int) < 0) by decide, show ¬ ((2:Int) < 0) by decide, show ¬ ((3:Int) < 0) by decide, show ¬ ((4:Int) < 0) by decide, show ¬ ((5:Int) < 0) by decide, show ¬ ((6:Int) < 0) by decide, show ¬ ((7:Int) < 0) by decide] at hW0
  have HW := hide hW0.symm
  have HG := hide hg.symm
  clear hW0 L0 hg
  go_enter Tryz.func48, Tryz.ntmps48
  go_wp2_with (fail)
  simp only [HW.out, HG.out]
  go_loopw [6] (fun i wr => ∃ q : Nat, i = .int .i64 (q : Int) ∧ ((q : Int) ≤ k ∨ q = 0) ∧ HitBox g (upH ((0 : Nat) : Int)) wr ∧ HitBox (g + 1) (upH (q : Int)) wr ∧ Later w wr) (fun i _ => (k - Go.RowKit.intOf i).toNat)
  case atStart => exact ⟨0, rfl, .inr rfl, B0.out, B1.out, L1.out⟩
  case round =>
    obtain ⟨q, rfl, hq, hb0, hb1, hl⟩ := hrel
    have HB0 := hide hb0
    have HB1 := hide hb1
    have HL := hide hl
    by_cases hlt : (q : Int) < k
    · have hq8 : q < 8 := by omega
      have HN := hide (hb1.set (up_next hq8))
      have HO : Hid (HitBox g (upH ((0 : Nat) : Int)) (wr.setCell ⟨g + 1, q, none⟩ (.bool true))) := (heap_setCell_other _ _ _ _ (by simp)).trans HB0.out
      have hgl : w.heap.size ≤ g + 1 := by rw [HG.out.symm]; omega
      have HL2 := hide (HL.out.setCell (p := ⟨g + 1, q, none⟩) hgl (.bool true))
      obtain ⟨ov, hov⟩ := up_cell hb1 hq8
      have hf := hb1.cells.2.2.2.2.2.2.2.2 q
      have hlq := hlt
      clear hb0 hb1 hl hgl hlt hq
      go_wp2
      go_roundw
      case rel => exact ⟨q + 1, by go_num, .inl (by omega), HO.out, HN.out, HL2.out⟩
      case measure => simp [Go.RowKit.intOf]; omega
    · have hu : upH (q : Int) = upH k := by
        rcases hq with hq | rfl
        · rw [show (q : Int) = k from by omega]
        · rw [up_neg (k := k) (by omega)]
      rw [hu] at hb1
      obtain ⟨d0, d1, d2, d3, d4, d5, d6, d7, df⟩ := hb1.cells
      obtain ⟨e0, e1, e2, e3, e4, e5, e6, e7, ef⟩ := hb0.cells
      have hgl : w.heap.size ≤ g := by rw [HG.out.symm]; omega
      clear hb0 hb1 hl hu hq
      go_wp2_with (fail)
      have hfin : (wr.setCells g 0 (upH k).cells).heap[g]? = some (.cells (upH k).cells.toArray 25 (0, 0)) := by
        have h1 := heap_setCells g (upH k).cells 0 wr _ HB0.out
        rwa [hits_put] at h1
      have HLF : Hid (Later w (wr.setCells g 0 (upH k).cells)) := HL.out.grown (grown_setCells g (upH k).cells 0 wr) (Below.size HL.out) (fun k hk => by have := Option.some.inj hk; omega)
      refine bodyPost_ret (results_cell_row Tryz.results48 _ (wr.setCells g 0 (upH k).cells) g 25 _ (0, 0) _ (by rfl) hfin Tryz.underlying25 (by rfl) (by kernel_rfl)) (by rfl) ?_
      exact ⟨rfl, HLF.out⟩
end
end Go.Proofs.YtdkiopajilakcaaGreatDoor
/- A saga in a block of its own: read and written whole, or cell by cell. -/
namespace Go.Proofs.YtdkiopajilakcaaGreatDoor
open Go.RowKit

def SBox (T : TypeId) (g : Nat) (s : SagaD) (w : World) : Prop := w.heap[g]? = some (.cells s.cells.toArray T (0, 0))
theorem SagaD.one (s : SagaD) : ∀ u ∈ s.cells, u.oneCell' = true := by
  intro u hu
  simp only [SagaD.cells, List.mem_cons, List.not_mem_nil, or_false] at hu
  rcases hu with rfl | rfl | rfl | rfl | rfl | rfl | rfl | rfl | rfl | rfl | rfl | rfl | rfl <;> rfl
theorem saga_put (x y : SagaD) : putAt x.cells.toArray 0 y.cells = y.cells.toArray := by simp [putAt, SagaD.cells]
section
variable {T : TypeId} {w w' : World} {g : Nat} {s : SagaD}
theorem SBox.lt (h : SBox T g s w) : g < w.heap.size := lt_of_block h
theorem SBox.below (h : SBox T g s w) (hl : Later w w') : SBox T g s w' := (Below.block hl g (lt_of_block h)).trans h
theorem SBox.other (h : SBox T g s w) {r : Option Nat} (hg : w.grownBy w' r) (hr : some g ≠ r) : SBox T g s w' := (hg.block g h.lt hr).trans h
theorem SBox.c0 (h : SBox T g s w) : w.cell? ⟨g, 0, none⟩ = some (.string s.name) := (cell_of_row w g 0 _ _ _ h).trans rfl
theorem SBox.c1 (h : SBox T g s w) : w.cell? ⟨g, 1, none⟩ = some (.slice s.p s.n s.c) := (cell_of_row w g 1 _ _ _ h).trans rfl
theorem SBox.c2 (h : SBox T g s w) : w.cell? ⟨g, 2, none⟩ = some (.int .i64 s.st) := (cell_of_row w g 2 _ _ _ h).trans rfl
theorem SBox.c3 (h : SBox T g s w) : w.cell? ⟨g, 3, none⟩ = some (.int .i64 s.step) := (cell_of_row w g 3 _ _ _ h).trans rfl
theorem SBox.c4 (h : SBox T g s w) : w.cell? ⟨g, 4, none⟩ = some (.int .i64 s.tr) := (cell_of_row w g 4 _ _ _ h).trans rfl
theorem SBox.hit (h : SBox T g s w) : w.cell? ⟨g, 5, none⟩ = some (.bool s.hit.a0) ∧ w.cell? ⟨g, 6, none⟩ = some (.bool s.hit.a1) ∧ w.cell? ⟨g, 7, none⟩ = some (.bool s.hit.a2) ∧ w.cell? ⟨g, 8, none⟩ = some (.bool s.hit.a3) ∧
    w.cell? ⟨g, 9, none⟩ = some (.bool s.hit.a4) ∧ w.cell? ⟨g, 10, none⟩ = some (.bool s.hit.a5) ∧ w.cell? ⟨g, 11, none⟩ = some (.bool s.hit.a6) ∧ w.cell? ⟨g, 12, none⟩ = some (.bool s.hit.a7) :=
  ⟨(cell_of_row w g 5 _ _ _ h).trans rfl, (cell_of_row w g 6 _ _ _ h).trans rfl, (cell_of_row w g 7 _ _ _ h).trans rfl, (cell_of_row w g 8 _ _ _ h).trans rfl, (cell_of_row w g 9 _ _ _ h).trans rfl, (cell_of_row w g 10 _ _ _ h).trans rfl, (cell_of_row w g 11 _ _ _ h).trans rfl, (cell_of_row w g 12 _ _ _ h).trans rfl⟩
theorem SBox.thaw (h : SBox T g s w) (i : Nat) : w.frozen? ⟨g, i, none⟩ = false := frozen_of_row w g i _ _ h
end
section
variable {ops : Array Oper} {rest : List Oper} {op : Oper} {a : Act} {w : World} {Q : Exit → Act → World → Prop} {T : TypeId} {g : Nat} {s z : SagaD}
theorem wpList_load_saga (hgd : op.guard = none) (x : Operand) (ho : op.op = .load 27 x) (hx : a.eval x = .pointer (some ⟨g, 0, none⟩)) (hg : SBox T g s w)
    (h : wpList Tryz.prog ops Q rest (a.put op.dst s.val) w) : wpList Tryz.prog ops Q (op :: rest) a w :=
  wpList_load_box hgd 27 x ho g 0 hx T _ hg 13 _ Tryz.underlying27 (by rfl) (by kernel_rfl) s.cells (by rfl) (by rfl) h
theorem exec_load_saga (x : Operand) (ho : op.op = .load 27 x) (hx : a.eval x = .pointer (some ⟨g, 0, none⟩)) (hg : SBox T g s w) : (execOp a.eval op).run Tryz.prog w = .ok (.value s.val) w :=
  exec_load_box 27 x ho g 0 hx T _ hg 13 _ Tryz.underlying27 (by rfl) (by kernel_rfl) s.cells (by rfl) (by rfl)
theorem exec_load_hits (x : Operand) (ho : op.op = .load 25 x) (hx : a.eval x = .pointer (some ⟨g, 5, none⟩)) (hg : SBox T g s w) : (execOp a.eval op).run Tryz.prog w = .ok (.value s.hit.val) w :=
  exec_load_box 25 x ho g 5 hx T _ hg 8 _ Tryz.underlying25 (by rfl) (by kernel_rfl) s.hit.cells (by rfl) (by rfl)
theorem exec_load_sdef (x : Operand) (ho : op.op = .load 24 x) (hx : a.eval x = .pointer (some ⟨g, 0, none⟩)) (hg : SBox T g s w) : (execOp a.eval op).run Tryz.prog w = .ok (.value (.agg #[.string s.name, .slice s.p s.n s.c])) w :=
  exec_load_box 24 x ho g 0 hx T _ hg 2 _ Tryz.underlying24 (by rfl) (by kernel_rfl) [.string s.name, .slice s.p s.n s.c] (by rfl) (by rfl)
theorem wpList_store_saga (hgd : op.guard = none) (x y : Operand) (ho : op.op = .store 27 x y) (hx : a.eval x = .pointer (some ⟨g, 0, none⟩)) (hg : SBox T g z w) (hy : a.eval y = s.val)
    (h : ∀ w', SBox T g s w' → w.grownBy w' (some g) → wpList Tryz.prog ops Q rest (a.put op.dst undef) w') : wpList Tryz.prog ops Q (op :: rest) a w :=
  wpList_store_box hgd 27 x y ho g 0 s.cells.toArray hx hy T _ hg (by kernel_rfl) (by exact Nat.le_of_ble_eq_true rfl) (by exact s.one) (fun w' hb hg' => h w' (by rw [show s.cells.toArray.toList = s.cells from rfl, saga_put] at hb; exact hb) hg')
end
theorem eql_hits (x y : Hits) (w : World) : (binOp .eql 25 x.val y.val).run Tryz.prog w = .ok (.bool (decide (x = y))) w := by
  obtain ⟨x0, x1, x2, x3, x4, x5, x6, x7⟩ := x
  obtain ⟨y0, y1, y2, y3, y4, y5, y6, y7⟩ := y
  obtain ⟨i, hi, _⟩ := info_parts (show (Tryz.prog.info? 4).map (fun i => (i.zero, i.size, i.bytes)) = some (some (.bool false), 1, 1) from by kernel_rfl)
  obtain ⟨r, hr, hiff⟩ := run_eqItems_plain (P := Tryz.prog) w 9998 (e := 4) (by kernel_rfl) (Hits.cells ⟨x0, x1, x2, x3, x4, x5, x6, x7⟩).toArray (Hits.cells ⟨y0, y1, y2, y3, y4, y5, y6, y7⟩).toArray (D := 1) (D' := 1) (List.range 8)
    [[.bool x0], [.bool x1], [.bool x2], [.bool x3], [.bool x4], [.bool x5], [.bool x6], [.bool x7]] [[.bool y0], [.bool y1], [.bool y2], [.bool y3], [.bool y4], [.bool y5], [.bool y6], [.bool y7]] (by kernel_rfl) (by kernel_rfl)
  have e : r = decide ((⟨x0, x1, x2, x3, x4, x5, x6, x7⟩ : Hits) = ⟨y0, y1, y2, y3, y4, y5, y6, y7⟩) := by
    rw [Bool.eq_iff_iff, hiff]
    simp
  rw [run_eql_struct, show (10000 : Nat) = 9999 + 1 from rfl, run_equalIn_array w 9999 _ _ Tryz.underlying25 hi, show (9999 : Nat) = 9998 + 1 from rfl, hr, e]
  rfl
end Go.Proofs.YtdkiopajilakcaaGreatDoor
/- A step is hit, or not any more. -/
namespace Go.Proofs.YtdkiopajilakcaaGreatDoor
open Go.RowKit
section
variable {w : World}
end
end Go.Proofs.YtdkiopajilakcaaGreatDoor
/- slices.Clone at steps and operations. -/
namespace Go.Proofs.YtdkiopajilakcaaGreatDoor.Sd
open Go.RowKit

end Go.Proofs.YtdkiopajilakcaaGreatDoor.Sd
/- A step looked at; a definition looked at. -/
namespace Go.Proofs.YtdkiopajilakcaaGreatDoor
open Go.RowKit

section
variable {w : World}
theorem err_bad {done : List StepD} {s : StepD} (h : stepBad s = true) : stepErr done s = 2 := by unfold stepErr; rw [if_pos h]
theorem err_late {done : List StepD} {s : StepD} (h : stepBad s = false) (h2 : (namedB done s || (pivotB done && s.pivot)) = true) : stepErr done s = 9 := by unfold stepErr; rw [if_neg (by simp [h]), if_pos h2]
theorem err_undo {done : List StepD} {s : StepD} (h : stepBad s = false) (h2 : (namedB done s || (pivotB done && s.pivot)) = false) (h3 : (s.undo == (pivotB done || s.pivot)) = true) : stepErr done s = 10 := by unfold stepErr; rw [if_neg (by simp [h]), if_neg (by simp [h2]), if_pos h3]
theorem err_none {done : List StepD} {s : StepD} (h : stepBad s = false) (h2 : (namedB done s || (pivotB done && s.pivot)) = false) (h3 : (s.undo == (pivotB done || s.pivot)) = false) : stepErr done s = 0 := by unfold stepErr; rw [if_neg (by simp [h]), if_neg (by simp [h2]), if_neg (by simp [h3])]

set_option maxHeartbeats 8000000 in
set_option maxRecDepth 100000 in
theorem checkStep_any {F : Nat → Prop} {s : StepD} {done : List StepD} {A : Option Addr} {n cap : Nat} (h : StepsAt F w (.slice A n cap) done) (hn : n = done.length) (hs : n ≤ 1000) :
    Calls Tryz.prog 90 #[.agg s.cells.toArray, .slice A n cap] w fun e w' => e = .returned (.int .i64 ((stepErr done s : Nat) : Int)) ∧ Later w w' := by
  obtain ⟨E, hE⟩ : ∃ E, stepErr done s = E := ⟨_, rfl⟩
  rw [hE]
  have HE := hide hE
  obtain ⟨W1, hW1⟩ : ∃ W1, W1 = w.alloc (.cells s.cells.toArray 42 (0, 0)) := ⟨_, rfl⟩
  obtain ⟨x, hx⟩ : ∃ x, x = w.heap.size := ⟨_, rfl⟩
  have B1 : Hid (StepBox x s W1) := by rw [hW1, hx]; exact heap_alloc_new w _
  have L1 : Hid (Later w W1) := by rw [hW1]; exact (Below.refl _ _).alloc (Nat.le_refl _) _
  have C1 := hide (contains_ask (w := W1) (v := ⟨122, #[.pointer (some ⟨x, 0, none⟩)]⟩) (f := fun a => decide (a.name = s.name)) (StepsAt.kept h (Kept.of_below L1.out _)) hn ⟨enters_named1, fun W t hl => named1_any W t s x (by
    have h2 : StepBox x s W := (Below.block hl x (lt_of_block B1.out)).trans B1.out
    exact h2.cells.1)⟩ hs)
  have H := hide h
  have HN := hide hn
  unfold StepD.cells at hW1
  obtain ⟨nm, hnm⟩ : ∃ nm, namedB done s = nm := ⟨_, rfl⟩
  obtain ⟨bh, hbh⟩ : ∃ bh, pivotB done = bh := ⟨_, rfl⟩
  have hC : (done.any fun a => decide (a.name = s.name)) = nm := hnm
  have hP : (done.any fun a => a.pivot) = bh := hbh
  rw [hC] at C1
  have HNM := hide hnm
  have HBH := hide hbh
  have HP := hide hP
  have HW1 := hide hW1.symm
  have HX := hide hx.symm
  simp only [SetV.val] at C1
  unfold StepD.cells
  clear h hn hW1 hx hC hP hnm hbh hE
  go_enter Tryz.func90, Tryz.ntmps90
  go_wp2_with (fail)
  have hw := HW1.out
  have hxx := HX.out
  simp only [hw, hxx]
  clear hw hxx
  refine C1.out.mono ?_
  rintro e w2 ⟨rfl, hl2⟩
  have L2 := hide (L1.out.trans hl2)
  have B2 : Hid (StepBox x s w2) := (Below.block hl2 x (lt_of_block B1.out)).trans B1.out
  have C2 := hide (contains_ask (w := w2) (v := ⟨123, #[]⟩) (f := fun a => a.pivot) (StepsAt.kept H.out (Kept.of_below L2.out _)) HN.out ⟨enters_pivot2, fun W t _ => pivot2_any W t⟩ hs)
  rw [HP.out] at C2
  simp only [SetV.val] at C2
  clear C1 hl2 L1 B1 HP
  go_wp2_with (fail)
  refine C2.out.mono ?_
  rintro e w3 ⟨rfl, hl3⟩
  have L3 := hide (L2.out.trans hl3)
  have B3 : Hid (StepBox x s w3) := (Below.block hl3 x (lt_of_block B2.out)).trans B2.out
  obtain ⟨b0, b1, b2, b3, b4, b5, bf⟩ := B3.out.cells
  have CN := hide (name_any (w := w3) s.name)
  clear C2 hl3 L2 B2 bf b1 b2 b3 b4 b5
  go_wp2_with (fail)
  refine CN.out.mono ?_
  rintro e w4 ⟨rfl, hl4⟩
  have L4 := hide (L3.out.trans hl4)
  have B4 : Hid (StepBox x s w4) := (Below.block hl4 x (lt_of_block B3.out)).trans B3.out
  obtain ⟨b0', b1, b2, b3, b4, b5, bf⟩ := B4.out.cells
  obtain ⟨q0, hq0⟩ : ∃ q, nameF s.name.data.toList = q := ⟨_, rfl⟩
  obtain ⟨q1, hq1⟩ : ∃ q, outB s.stub 1 4 = q := ⟨_, rfl⟩
  obtain ⟨q2, hq2⟩ : ∃ q, outB s.retry 0 9 = q := ⟨_, rfl⟩
  obtain ⟨q3, hq3⟩ : ∃ q, outB s.wait 1 99 = q := ⟨_, rfl⟩
  have o1 := fun w => outside_any (w := w) s.stub 1 4
  have o2 := fun w => outside_any (w := w) s.retry 0 9
  have o3 := fun w => outside_any (w := w) s.wait 1 99
  rw [hq1] at o1
  rw [hq2] at o2
  rw [hq3] at o3
  have O1 := hide o1
  have O2 := hide o2
  have O3 := hide o3
  have HBAD : Hid (stepBad s = (!q0 || (q1 || (q2 || q3)))) := by show _ = _; unfold stepBad; rw [hq0, hq1, hq2, hq3]
  rw [hq0]
  clear CN hl4 L3 B3 bf b0 o1 o2 o3 hq0 hq1 hq2 hq3
  cases q0 with
  | false =>
    go_wp2
    go_ret
    exact ⟨ret_int (by rw [← HE.out, err_bad HBAD.out]; rfl), L4.out⟩
  | true =>
    cases q1 with
    | true =>
      go_wp2_with (fail)
      refine (O1.out _).mono ?_
      rintro e w5 ⟨rfl, hq⟩
      obtain rfl := hq.symm
      go_wp2
      go_ret
      exact ⟨ret_int (by rw [← HE.out, err_bad HBAD.out]; rfl), L4.out⟩
    | false =>
      cases q2 with
      | true =>
        go_wp2_with (fail)
        refine (O1.out _).mono ?_
        rintro e w5 ⟨rfl, hq⟩
        obtain rfl := hq.symm
        go_wp2_with (fail)
        refine (O2.out _).mono ?_
        rintro e w6 ⟨rfl, hq⟩
        obtain rfl := hq.symm
        go_wp2
        go_ret
        exact ⟨ret_int (by rw [← HE.out, err_bad HBAD.out]; rfl), L4.out⟩
      | false =>
        go_wp2_with (fail)
        refine (O1.out _).mono ?_
        rintro e w5 ⟨rfl, hq⟩
        obtain rfl := hq.symm
        go_wp2_with (fail)
        refine (O2.out _).mono ?_
        rintro e w6 ⟨rfl, hq⟩
        obtain rfl := hq.symm
        go_wp2_with (fail)
        refine (O3.out _).mono ?_
        rintro e w7 ⟨rfl, hq⟩
        obtain rfl := hq.symm
        clear O1 O2 O3
        cases q3 with
        | true =>
          go_wp2
          go_ret
          exact ⟨ret_int (by rw [← HE.out, err_bad HBAD.out]; rfl), L4.out⟩
        | false =>
          have HB0 : Hid (stepBad s = false) := HBAD.out
          obtain ⟨un, hun⟩ : ∃ un, s.undo = un := ⟨_, rfl⟩
          obtain ⟨pv, hpv⟩ : ∃ pv, s.pivot = pv := ⟨_, rfl⟩
          rw [hun] at b4
          rw [hpv] at b5
          have HUN := hide hun
          have HPV := hide hpv
          clear hun hpv HBAD
          cases nm with
          | true =>
            go_wp2
            go_ret
            exact ⟨ret_int (by rw [← HE.out, err_late HB0.out (by rw [HNM.out]; rfl)]; rfl), L4.out⟩
          | false =>
            cases bh <;> cases pv <;> cases un <;> (
              go_wp2
              go_ret
              refine ⟨ret_int ?_, L4.out⟩
              rw [← HE.out]
              first
                | (rw [err_late HB0.out (by rw [HNM.out, HBH.out, HPV.out]; rfl)]; rfl)
                | (rw [err_undo HB0.out (by rw [HNM.out, HBH.out, HPV.out]; rfl) (by rw [HBH.out, HPV.out, HUN.out]; rfl)]; rfl)
                | (rw [err_none HB0.out (by rw [HNM.out, HBH.out, HPV.out]; rfl) (by rw [HBH.out, HPV.out, HUN.out]; rfl)]; rfl))
end
end Go.Proofs.YtdkiopajilakcaaGreatDoor
/- A definition looked at. -/
namespace Go.Proofs.YtdkiopajilakcaaGreatDoor
open Go.RowKit

theorem steps_to {k n c : Nat} (hk : k ≤ n) (hn : n ≤ c) (A : Option Addr) (w : World) :
    (Instr.slice 22 (.slice A n c) none (some (.int .i64 (k : Int))) none).run Tryz.prog w = .ok (.slice A k c) w := by
  have ht : Tryz.prog.underlying 22 = some (.slice (Tryz.prog.elem 22)) := by kernel_rfl
  obtain ⟨i0, hi, hz0, hz1, hz2⟩ := info_parts (show (Tryz.prog.info? (Tryz.prog.elem 22)).map (fun i => (i.zero, i.size, i.bytes)) = some (some (.agg #[.string ⟨#[]⟩, .int .i64 0, .int .i64 0, .int .i64 0, .bool false, .bool false]), 6, 48) from by kernel_rfl)
  have h1 := run_slice_h (P := Tryz.prog) w 22 A n c ht .i64 (k : Int) (by omega) (by omega)
  rw [h1]
  have hs : (sizeOf (Tryz.prog.elem 22)).run Tryz.prog w = .ok 6 w := by simp [sizeOf, typeInfo, hi, hz1]
  rw [hs]
  simp only [Result.andThen, sliced, Int.toNat_natCast, Nat.sub_zero]
  rcases A with _ | a
  · simp
  · simp [Addr.add]
theorem exec_to {op : Oper} {a : Act} {w : World} (x z : Operand) (ho : op.op = .slice 22 x none (some z) none) (A : Option Addr) (n c k : Nat) (hx : a.eval x = .slice A n c) (hz : a.eval z = .int .i64 (k : Int)) (hk : k ≤ n) (hn : n ≤ c) :
    (execOp a.eval op).run Tryz.prog w = .ok (.value (.slice A k c)) w := by
  have ht : Tryz.prog.underlying 22 = some (.slice (Tryz.prog.elem 22)) := by kernel_rfl
  have h1 := steps_to hk hn A w
  unfold execOp
  simp only [ho, hx, hz, Option.map_some, Option.map_none, Sem.run_bind, Sem.run_pure]
  rw [run_sliceAt_slice _ _ _ _ _ _ ht, h1]
  rfl
theorem steps_take {F : Nat → Prop} {w : World} {A : Option Addr} {n c k : Nat} {l : List StepD} (h : StepsAt F w (.slice A n c) l) (hn : n = l.length) (hk : k ≤ n) : StepsAt F w (.slice A k c) (l.take k) := by
  subst hn
  obtain ⟨h1, h2, A', c', hv, h3, h4, h5, h6⟩ := h
  obtain ⟨rfl, rfl⟩ : A = A' ∧ c = c' := by injection hv with e1 _ e3; exact ⟨e1, e3⟩
  have hl : (l.take k).length = k := by simp; omega
  have hf := Sd.flat_take StepD.cells 6 l k (fun s _ => s.len)
  unfold StepsAt
  rw [hl, hf]
  refine ⟨?_, fun u hu => h2 u (List.mem_of_mem_take hu), A, c, rfl, by omega, h4, h5, fun h0 => ?_⟩
  · rw [List.length_take, h1]
    have := Nat.mul_le_mul_right 6 hk
    omega
  · obtain ⟨b, off, hA, hF, hb, hr⟩ := h6 (by omega)
    refine ⟨b, off, hA, hF, hb, fun j u hj => hr j u ?_⟩
    rw [List.getElem?_take_of_lt (by have := (List.getElem?_eq_some_iff.1 hj).1; rw [List.length_take] at this; omega)] at hj
    exact hj

section
variable {w : World}
set_option maxHeartbeats 8000000 in
set_option maxRecDepth 100000 in
theorem check_any {F : Nat → Prop} {name : ByteArray} {v : Value} {steps : List StepD} (h : StepsAt F w v steps) :
    Calls Tryz.prog 45 #[.agg #[.string name, v]] w fun e w' => e = .returned (.tuple #[.int .i64 (((checkF name steps).1 : Nat) : Int), .int .i64 (((checkF name steps).2 : Nat) : Int)]) ∧ Later w w' := by
  obtain ⟨A, cap, rfl, hc1, hc2, _⟩ := FlatAt.shape h
  obtain ⟨n, hn⟩ : ∃ n, steps.length = n := ⟨_, rfl⟩
  rw [hn] at h hc1 ⊢
  obtain ⟨c1, hc1'⟩ : ∃ c, (checkF name steps).1 = c := ⟨_, rfl⟩
  obtain ⟨c2, hc2'⟩ : ∃ c, (checkF name steps).2 = c := ⟨_, rfl⟩
  rw [hc1', hc2']
  have HC1 := hide hc1'
  have HC2 := hide hc2'
  obtain ⟨W1, hW1⟩ : ∃ W1, W1 = w.alloc (.cells #[.string name, .slice A n cap] 24 (0, 0)) := ⟨_, rfl⟩
  obtain ⟨y, hy⟩ : ∃ y, y = w.heap.size := ⟨_, rfl⟩
  have B1 : Hid (W1.heap[y]? = some (.cells #[.string name, .slice A n cap] 24 (0, 0))) := by rw [hW1, hy]; exact heap_alloc_new w _
  have L1 : Hid (Later w W1) := by rw [hW1]; exact (Below.refl _ _).alloc (Nat.le_refl _) _
  have CN := hide (name_any (w := W1) name)
  obtain ⟨q0, hq0⟩ : ∃ q, nameF name.data.toList = q := ⟨_, rfl⟩
  rw [hq0] at CN
  obtain ⟨q1, hq1⟩ : ∃ q, outB (n : Int) 1 8 = q := ⟨_, rfl⟩
  have o1 := fun w => outside_any (w := w) (n : Int) 1 8
  rw [hq1] at o1
  have O1 := hide o1
  have hbad : (!nameF name.data.toList || (decide (steps.length < 1) || decide (8 < steps.length))) = (!q0 || q1) := by
    rw [hq0, ← hq1, hn]
    congr 1
    unfold outB
    congr 1
    · rw [decide_eq_decide]; omega
    · rw [decide_eq_decide]; omega
  have HBAD := hide hbad
  have HQ1 := hide hq1
  have H := hide h
  have HN := hide hn
  have HW1 := hide hW1.symm
  have HY := hide hy.symm
  clear h hn hW1 hy hc1' hc2' hq0 hq1 hbad o1
  go_enter Tryz.func45, Tryz.ntmps45
  go_wp2_with (fail)
  have hw := HW1.out
  have hyy := HY.out
  simp only [hw, hyy]
  clear hw hyy
  have c0 : W1.cell? ⟨y, 0, none⟩ = some (.string name) := (cell_of_row W1 y 0 _ _ _ B1.out).trans rfl
  have hy1 : y < W1.heap.size := lt_of_block B1.out
  go_wp2_with (fail)
  refine CN.out.mono ?_
  rintro e w2 ⟨rfl, hl2⟩
  have L2 := hide (L1.out.trans hl2)
  have B2 : Hid (w2.heap[y]? = some (.cells #[.string name, .slice A n cap] 24 (0, 0))) := (Below.block hl2 y (lt_of_block B1.out)).trans B1.out
  have c1' : w2.cell? ⟨y, 1, none⟩ = some (.slice A n cap) := (cell_of_row w2 y 1 _ _ _ B2.out).trans rfl
  have hy2 : y < w2.heap.size := lt_of_block B2.out
  clear CN hl2 L1 c0 hy1
  cases q0 with
  | false =>
    have HF : Hid (checkF name steps = (0, 2)) := by show _ = _; unfold checkF; rw [HBAD.out]; rfl
    have e1 : c1 = 0 := by rw [← HC1.out, HF.out]
    have e2 : c2 = 2 := by rw [← HC2.out, HF.out]
    have E1 := hide e1
    have E2 := hide e2
    clear e1 e2
    go_wp2
    go_ret2
    exact ⟨by rw [E1.out, E2.out]; rfl, L2.out⟩
  | true =>
    go_wp2_with (fail)
    refine (O1.out _).mono ?_
    rintro e w3 ⟨rfl, hq⟩
    obtain rfl := hq.symm
    clear O1
    cases q1 with
    | true =>
      have HF : Hid (checkF name steps = (0, 2)) := by show _ = _; unfold checkF; rw [HBAD.out]; rfl
      have e1 : c1 = 0 := by rw [← HC1.out, HF.out]
      have e2 : c2 = 2 := by rw [← HC2.out, HF.out]
      have E1 := hide e1
      have E2 := hide e2
      clear e1 e2
      go_wp2
      go_ret2
      exact ⟨by rw [E1.out, E2.out]; rfl, L2.out⟩
    | false =>
      have HF : Hid (checkF name steps = firstBad (steps.take 0) (steps.drop 0)) := by show _ = _; unfold checkF; rw [HBAD.out]; rfl
      have hn8 : n ≤ 8 := by
        have := HQ1.out
        simp only [outB, Bool.or_eq_false_iff, decide_eq_false_iff_not] at this
        omega
      clear HBAD HQ1
      go_wp2_with (fail)
      go_loopw [20] (fun v wr => ∃ i : Nat, v = .int .i64 (i : Int) ∧ i ≤ n ∧ checkF name steps = firstBad (steps.take i) (steps.drop i) ∧ Later w2 wr) (fun v _ => n - (Go.RowKit.intOf v).toNat)
      case atStart => exact ⟨0, rfl, by omega, HF.out, Later.refl _⟩
      case round =>
        obtain ⟨i, rfl, hi, hsum, hlat⟩ := hrel
        have HS := hide hsum
        have HL := hide hlat
        have BR : Hid (wr.heap[y]? = some (.cells #[.string name, .slice A n cap] 24 (0, 0))) := (Below.block hlat y (lt_of_block B2.out)).trans B2.out
        clear hsum hlat
        by_cases hlt : i < n
        · have HR := hide (StepsAt.kept H.out (Kept.of_below (L2.out.trans HL.out) F))
          obtain ⟨s, b, off, c', hs', hvv, _, _, _, hr⟩ := StepsAt.at_ HR.out (i := i) (by rw [HN.out]; exact hlt)
          rw [HN.out] at hvv
          obtain ⟨rfl, rfl⟩ : A = some ⟨b, off, none⟩ ∧ cap = c' := by injection hvv with e1 _ e3; exact ⟨e1, e3⟩
          obtain ⟨r0, r1, r2, r3, r4, r5⟩ := range_step hr
          have HSI := hide hs'
          obtain ⟨W5, hW5⟩ : ∃ W5, W5 = wr.alloc (.cells s.cells.toArray 42 (0, 0)) := ⟨_, rfl⟩
          obtain ⟨x, hx⟩ : ∃ x, x = wr.heap.size := ⟨_, rfl⟩
          have B5 : Hid (StepBox x s W5) := by rw [hW5, hx]; exact heap_alloc_new wr _
          have L5 : Hid (Later wr W5) := by rw [hW5]; exact (Below.refl _ _).alloc (Nat.le_refl _) _
          have BR5 : Hid (W5.heap[y]? = some (.cells #[.string name, .slice (some ⟨b, off, none⟩) n cap] 24 (0, 0))) := (Below.block L5.out y (lt_of_block BR.out)).trans BR.out
          have CS := hide (checkStep_any (w := W5.drew) (s := s) (done := steps.take i) (steps_take (StepsAt.kept HR.out (Kept.of_below (L5.out.trans (Later.drew W5)) F)) HN.out.symm (by omega : i ≤ n)) (by rw [List.length_take, HN.out]; omega) (by omega))
          obtain ⟨E, hE⟩ : ∃ E, stepErr (steps.take i) s = E := ⟨_, rfl⟩
          rw [hE] at CS
          have HE := hide hE
          have d1 : W5.cell? ⟨y, 1, none⟩ = some (.slice (some ⟨b, off, none⟩) n cap) := (cell_of_row W5 y 1 _ _ _ BR5.out).trans rfl
          have hy5 : y < W5.heap.size := lt_of_block BR5.out
          unfold StepD.cells at hW5
          have HW5 := hide hW5.symm
          have HX := hide hx.symm
          clear hs' hvv hr hW5 hx hE
          have cR : wr.cell? ⟨y, 1, none⟩ = some (.slice (some ⟨b, off, none⟩) n cap) := (cell_of_row wr y 1 _ _ _ BR.out).trans rfl
          go_wp2_with (fail)
          have hw := HW5.out
          have hxx := HX.out
          simp only [hw, hxx]
          clear hw hxx r0 r1 r2 r3 r4 r5
          refine wp_region_L (by kernel_rfl) ?_
          refine wpAnyL_take (i := 0) (d := some 25) (v := .agg s.cells.toArray) rfl rfl (by kernel_rfl) (by kernel_rfl) (by kernel_rfl) (fun _ _ _ h => h) (by rfl) ?yab0 ?_
          case yab0 => (intro w' hw'; exact exec_load_box 42 _ (by rfl) x 0 (by rfl) 42 _ ((Below.block ((Later.drew _).trans hw') x (lt_of_block B5.out)).trans B5.out) 6 _ Tryz.underlying42 (by rfl) (by kernel_rfl) s.cells (by rfl) (by rfl))
          simp only [Act.put]; try simp only [sA_, sZ_, sS_]
          refine wpAnyL_take (i := 1) (d := some 26) (v := ?vab1) rfl rfl (by kernel_rfl) (by kernel_rfl) (by kernel_rfl) (fun _ _ _ h => h) (by rfl) ?yab1 ?_
          case yab1 => (intro w' hw'; go_simp; try (with_reducible rfl))
          simp only [Act.put]; try simp only [sA_, sZ_, sS_]
          refine wpAnyL_take (i := 2) (d := some 27) (v := .slice (some ⟨b, off, none⟩) n cap) rfl rfl (by kernel_rfl) (by kernel_rfl) (by kernel_rfl) (fun _ _ _ h => h) (by rfl) ?yab2 ?_
          case yab2 => (intro w' hw'; have y := later_cell ((Later.drew _).trans hw') d1; go_simp)
          simp only [Act.put]; try simp only [sA_, sZ_, sS_]
          refine wpAnyL_take (i := 3) (d := some 28) (v := ?vab3) rfl rfl (by kernel_rfl) (by kernel_rfl) (by kernel_rfl) (fun _ _ _ h => h) (by rfl) ?yab3 ?_
          case yab3 => (intro w' hw'; go_simp; try (with_reducible rfl))
          simp only [Act.put]; try simp only [sA_, sZ_, sS_]
          refine wpAnyL_take (i := 4) (d := some 29) (v := .slice (some ⟨b, off, none⟩) i cap) rfl rfl (by kernel_rfl) (by kernel_rfl) (by kernel_rfl) (fun _ _ _ h => h) (by rfl) ?yab4 ?_
          case yab4 => (intro w' hw'; exact exec_to _ _ (by rfl) (some ⟨b, off, none⟩) n cap i (by rfl) (by rfl) (by omega) hc1)
          simp only [Act.put]; try simp only [sA_, sZ_, sS_]
          refine wpAnyL_only (i := 5) rfl (by kernel_rfl) (by rfl) fun K hK => ?_
          go_simp
          refine CS.out.mono ?_
          rintro e w6 ⟨rfl, hl6⟩
          have HL6 := hide (HL.out.trans (L5.out.trans ((Later.drew W5).trans hl6)))
          refine hK.out _ _ hl6 ?_
          clear hl6 CS
          clear hK K
          try (simp only [Act.put]; try simp only [sA_, sZ_, sS_])
          refine wpAnyL_take (i := 6) (d := some 6) (v := ?vab6) rfl rfl (by kernel_rfl) (by kernel_rfl) (by kernel_rfl) (fun _ _ _ h => h) (by rfl) ?yab6 ?_
          case yab6 => (intro w' hw'; go_simp; try (with_reducible rfl))
          simp only [Act.put]; try simp only [sA_, sZ_, sS_]
          refine wpAnyL_done (by kernel_rfl) ?_ _
          by_cases hE0 : E = 0
          · have hb : ((E : Int) != 0) = false := by rw [hE0]; rfl
            have HE0 := hide hE0
            clear hE0
            go_wp2_with (fail)
            go_roundw
            case rel =>
              refine ⟨i + 1, by go_num, by omega, ?_, HL6.out⟩
              rw [HS.out, firstBad_at HSI.out, HE.out, if_pos HE0.out]
            case measure => simp [Go.RowKit.intOf]; omega
          · have hb : ((E : Int) != 0) = true := by simp; omega
            have hres : checkF name steps = (i + 1, E) := by rw [HS.out, firstBad_at HSI.out, HE.out, if_neg hE0]
            have e1 : c1 = i + 1 := by rw [← HC1.out, hres]
            have e2 : c2 = E := by rw [← HC2.out, hres]
            have E1 := hide e1
            have E2 := hide e2
            clear hE0 hres e1 e2
            go_wp2_with (fail)
            go_ret2
            exact ⟨by rw [E1.out, E2.out]; rfl, L2.out.trans HL6.out⟩
        · have hie : i = n := by omega
          have hres : checkF name steps = (0, 0) := by rw [HS.out, hie, ← HN.out, firstBad_end]
          have e1 : c1 = 0 := by rw [← HC1.out, hres]
          have e2 : c2 = 0 := by rw [← HC2.out, hres]
          have E1 := hide e1
          have E2 := hide e2
          clear hres e1 e2 hie
          go_wp2_with (fail)
          go_ret2
          exact ⟨by rw [E1.out, E2.out]; rfl, L2.out.trans HL.out⟩
end
end Go.Proofs.YtdkiopajilakcaaGreatDoor
/- The document's kinds of bytes, and its names. -/
namespace Go.Proofs.YtdkiopajilakcaaGreatDoor
open Go.RowKit

section
variable {w : World}
theorem refSmall_any (b : Nat) : Calls Tryz.prog 124 #[.int .u8 (b : Int)] w fun e w' => e = .returned (.bool (smallB b)) ∧ w' = w := by
  unfold smallB
  go_enter Tryz.func124, Tryz.ntmps124
  by_cases h1 : 97 ≤ b
  · by_cases h2 : b ≤ 122
    · have e1 : (97 : Int) ≤ (b : Int) := by omega
      have e2 : (b : Int) ≤ 122 := by omega
      go_wp2
      go_ret
      exact ⟨ret_bool (by simp [h1, h2]), rfl⟩
    · have e1 : (97 : Int) ≤ (b : Int) := by omega
      have e2 : ¬ (b : Int) ≤ 122 := by omega
      go_wp2
      go_ret
      exact ⟨ret_bool (by simp), rfl⟩
  · have e1 : ¬ (97 : Int) ≤ (b : Int) := by omega
    go_wp2
    go_ret
    exact ⟨ret_bool (by simp), rfl⟩
theorem refDigit_any (b : Nat) : Calls Tryz.prog 145 #[.int .u8 (b : Int)] w fun e w' => e = .returned (.bool (digitB b)) ∧ w' = w := by
  unfold digitB
  go_enter Tryz.func145, Tryz.ntmps145
  by_cases h1 : 48 ≤ b
  · by_cases h2 : b ≤ 57
    · have e1 : (48 : Int) ≤ (b : Int) := by omega
      have e2 : (b : Int) ≤ 57 := by omega
      go_wp2
      go_ret
      exact ⟨ret_bool (by simp [h1, h2]), rfl⟩
    · have e1 : (48 : Int) ≤ (b : Int) := by omega
      have e2 : ¬ (b : Int) ≤ 57 := by omega
      go_wp2
      go_ret
      exact ⟨ret_bool (by simp), rfl⟩
  · have e1 : ¬ (48 : Int) ≤ (b : Int) := by omega
    go_wp2
    go_ret
    exact ⟨ret_bool (by simp), rfl⟩
set_option maxHeartbeats 1000000 in
theorem refPart_any (b : Nat) : Calls Tryz.prog 125 #[.int .u8 (b : Int)] w fun e w' => e = .returned (.bool (partB b)) ∧ w' = w := by
  unfold partB
  have CS := hide (refSmall_any (w := w) b)
  have CD := hide (refDigit_any (w := w) b)
  obtain ⟨p, hp⟩ : ∃ p, smallB b = p := ⟨_, rfl⟩
  obtain ⟨q, hq⟩ : ∃ q, digitB b = q := ⟨_, rfl⟩
  rw [hp] at CS ⊢
  rw [hq] at CD ⊢
  clear hp hq
  have e45 : (b == 45) = ((b : Int) == 45) := by rw [Bool.eq_iff_iff, beq_iff_eq, beq_iff_eq]; omega
  have e95 : (b == 95) = ((b : Int) == 95) := by rw [Bool.eq_iff_iff, beq_iff_eq, beq_iff_eq]; omega
  rw [e45, e95]
  clear e45 e95
  go_enter Tryz.func125, Tryz.ntmps125
  go_wp2_with (fail)
  refine CS.out.mono ?_
  rintro e w1 ⟨rfl, rfl⟩
  cases p with
  | true =>
    go_wp2_with (fail)
    go_ret
    exact ⟨ret_bool (by simp), rfl⟩
  | false =>
    go_wp2_with (fail)
    refine CD.out.mono ?_
    rintro e w1 ⟨rfl, rfl⟩
    cases q with
    | true =>
      go_wp2_with (fail)
      go_ret
      exact ⟨ret_bool (by simp), rfl⟩
    | false =>
      cases h45 : ((b : Int) == 45) with
      | true =>
        go_wp2_with (fail)
        go_ret
        exact ⟨ret_bool (by rw [h45]; simp), rfl⟩
      | false =>
        go_wp2_with (fail)
        go_ret
        exact ⟨ret_bool (by rw [h45]; simp), rfl⟩

theorem idx_at (s : ByteArray) (q : Nat) (c : UInt8) (hq : q < s.size) (hc : s.data.toList[q]? = some c) (W : World) : (Instr.index 9 (.string s) (.int .i64 (q : Int))).run Tryz.prog W = .ok (.int .u8 (c.toNat : Int)) W := by
  obtain ⟨c', hc', hx, _⟩ := byte_at s q hq
  obtain rfl : c = c' := by rw [hc] at hc'; injection hc'
  rw [run_index_string (P := Tryz.prog) W 9 s .i64 (q : Int) Tryz.underlying9, dif_pos ⟨by omega, by omega⟩]
  have e : (q : Int).toNat = q := by omega
  simp only [e, hx]

set_option maxHeartbeats 2000000 in
theorem refName_any (s : ByteArray) : Calls Tryz.prog 98 #[.string s] w fun e w' => e = .returned (.bool (nameF s.data.toList)) ∧ Later w w' := by
  obtain ⟨L, hL⟩ : ∃ L, L = s.data.toList := ⟨_, rfl⟩
  have hlen : L.length = s.size := by rw [hL, Array.length_toList]; rfl
  rw [← hL]
  have HL := hide hL
  have HLEN := hide hlen
  have L0 := hide (Later.refl w)
  by_cases h1 : s.size < 1
  · have hb : (s.size : Int) < 1 := by omega
    have hf : nameF L = false := by
      cases hn : nameF L with
      | false => rfl
      | true => have := ((nameF_iff L).1 hn).1; omega
    rw [hf]
    clear hL hlen hf
    go_enter Tryz.func98, Tryz.ntmps98
    go_wp2
    go_ret
    exact ⟨rfl, L0.out⟩
  · have hb : ¬ (s.size : Int) < 1 := by omega
    by_cases h2 : 16 < s.size
    · have hb2 : 16 < (s.size : Int) := by omega
      have hf : nameF L = false := by
        cases hn : nameF L with
        | false => rfl
        | true => have := ((nameF_iff L).1 hn).2.1; omega
      rw [hf]
      clear hL hlen hf
      go_enter Tryz.func98, Tryz.ntmps98
      go_wp2
      go_ret
      exact ⟨rfl, L0.out⟩
    · have hb2 : ¬ 16 < (s.size : Int) := by omega
      obtain ⟨c0, hc0⟩ : ∃ c, L[0]? = some c := ⟨_, List.getElem?_eq_getElem (by omega)⟩
      have hi0 : ∀ W : World, (Instr.index 9 (.string s) (.int .i64 0)).run Tryz.prog W = .ok (.int .u8 (c0.toNat : Int)) W := fun W => by
        have := idx_at s 0 c0 (by omega) (by rw [← hL]; exact hc0) W
        exact this
      have HC0 := hide hc0
      have CS := hide (refSmall_any (w := w) c0.toNat)
      clear hL hlen hc0
      cases hs : smallB c0.toNat with
      | false =>
        rw [hs] at CS
        have hf := nameF_not0 HC0.out hs
        rw [hf]
        clear hf hs
        go_enter Tryz.func98, Tryz.ntmps98
        go_wp2_with (fail)
        refine CS.out.mono ?_
        rintro e w1 ⟨rfl, rfl⟩
        go_wp2_with (fail)
        go_ret
        exact ⟨rfl, L0.out⟩
      | true =>
        rw [hs] at CS
        have HS := hide hs
        clear hs
        go_enter Tryz.func98, Tryz.ntmps98
        go_wp2_with (fail)
        refine CS.out.mono ?_
        rintro e w1 ⟨rfl, rfl⟩
        clear hi0 CS
        go_wp2_with (fail)
        go_loopw [3] (fun v wr => wr = w1 ∧ ∃ q : Nat, v = .int .i64 (q : Int) ∧ q ≤ L.length ∧ ∀ c ∈ L.take q, partB c.toNat = true) (fun v _ => L.length - (Go.RowKit.intOf v).toNat)
        case atStart => exact ⟨rfl, 0, rfl, by omega, by simp⟩
        case round =>
          obtain ⟨rfl, q, rfl, hq, hall⟩ := hrel
          have HA := hide hall
          clear hall
          by_cases hlt : q < L.length
          · obtain ⟨c, hc⟩ : ∃ c, L[q]? = some c := ⟨_, List.getElem?_eq_getElem hlt⟩
            have hls : (q : Int) < (s.size : Int) := by have := HLEN.out; omega
            have hi : ∀ W : World, (Instr.index 9 (.string s) (.int .i64 (q : Int))).run Tryz.prog W = .ok (.int .u8 (c.toNat : Int)) W := idx_at s q c (by omega) (by rw [← HL.out]; exact hc)
            have CP := hide (refPart_any (w := wr) c.toNat)
            have HC := hide hc
            clear hc
            cases hp : partB c.toNat with
            | false =>
              rw [hp] at CP
              have hf := nameF_not HC.out hp
              have HF := hide hf
              clear hf hp
              go_wp2_with (fail)
              refine CP.out.mono ?_
              rintro e w1 ⟨rfl, rfl⟩
              go_wp2_with (fail)
              go_ret
              exact ⟨ret_bool HF.out.symm, L0.out⟩
            | true =>
              rw [hp] at CP
              have HP := hide hp
              clear hp
              go_wp2_with (fail)
              refine CP.out.mono ?_
              rintro e w1 ⟨rfl, rfl⟩
              go_wp2_with (fail)
              go_roundw
              case rel =>
                refine ⟨trivial, q + 1, by go_num, by omega, ?_⟩
                intro y hy
                rw [List.take_add_one, HC.out] at hy
                simp only [Option.toList_some, List.mem_append, List.mem_singleton] at hy
                rcases hy with hy | rfl
                · exact HA.out y hy
                · exact HP.out
              case measure => simp [Go.RowKit.intOf]; omega
          · have hls : ¬ (q : Int) < (s.size : Int) := by have := HLEN.out; omega
            have hf : nameF L = true := by
              rw [nameF_iff]
              refine ⟨by have := HLEN.out; omega, by have := HLEN.out; omega, fun c hc => ?_, ?_⟩
              · rw [HC0.out] at hc
                injection hc with hc
                rw [← hc]
                exact HS.out
              · have := HA.out
                rwa [List.take_of_length_le (by omega)] at this
            go_wp2_with (fail)
            go_ret
            exact ⟨rfl, L0.out⟩
end
end Go.Proofs.YtdkiopajilakcaaGreatDoor
