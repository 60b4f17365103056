/- The walks over envelope's half and Sum: the sum by half bytes out of the table. -/
import Derived.Test.YtjbnilippcdgeaaDoorCrc
import Derived.Test.YtjbnilippcdgeaaDoorMem
import Derived.Test.YtjbnilippcdgeaaDoorRows
import Derived.Laws.BitsAllLaws
import Derived.Laws.BitsLemmas
import Derived.WalkLawsBesides
namespace Go.Proofs.YtjbnilippcdgeaaDoor
open Go.RowKit

/-- The table's sixteen cells, as they lie. -/
def Tab (w : World) : Prop := 0 < w.heap.size ∧ ∀ i, i < 16 → w.cell? ⟨0, i, none⟩ = some (.int .u32 ((tab.getD i 0 : Nat) : Int))
theorem Tab.below {w w' : World} {B : Nat} (h : Tab w) (hb : Below B w w') (hB : 0 < B) : Tab w' :=
  ⟨Nat.lt_of_lt_of_le h.1 hb.size, fun i hi => by rw [hb.cell (p := ⟨0, i, none⟩) hB]; exact h.2 i hi⟩
theorem Tab.later {w w' : World} (h : Tab w) (hb : Below w.heap.size w w') : Tab w' := h.below hb h.1

theorem half_is {s h : Nat} (hh : h < 16) : st4 (s ^^^ h) = s / 16 ^^^ tab.getD (s % 16 ^^^ h) 0 := by
  have e1 : (s ^^^ h) / 16 = s / 16 := by
    have : h / 16 = 0 := by omega
    have e := Nat.shiftRight_xor_distrib (a := s) (b := h) (i := 4)
    simp only [Nat.shiftRight_eq_div_pow] at e
    rw [show (2 : Nat) ^ 4 = 16 by rfl, this, Nat.xor_zero] at e
    exact e
  have e2 : (s ^^^ h) % 16 = s % 16 ^^^ h := by
    have e := Nat.xor_mod_two_pow (a := s) (b := h) (n := 4)
    rw [show (2 : Nat) ^ 4 = 16 by rfl, Nat.mod_eq_of_lt hh] at e
    exact e
  rw [st4_half, e1, e2]

theorem half_any (s h : Nat) (w : World) (hs : s < 4294967296) (hh : h < 16) (hT : Tab w) :
    Calls Tryd.prog 17 #[.int .u32 s, .int .u8 h] w fun e w' => e = .returned (.int .u32 (st4 (s ^^^ h) : Nat)) ∧ w = w' := by
  obtain ⟨x, hx⟩ : ∃ x, x = s % 16 ^^^ h := ⟨_, rfl⟩
  have hx16 : x < 16 := by rw [hx]; exact Nat.xor_lt_two_pow (n := 4) (by omega) hh
  have e1 : bits .xor .u8 ((s : Int) % 16) (h : Int) = (x : Int) := by
    have := u8_xor_nat (s % 16) h (by omega) (by omega)
    rw [← hx] at this
    exact this
  obtain ⟨T, hTx⟩ : ∃ T, T = tab.getD x 0 := ⟨_, rfl⟩
  have e2 : bits .xor .u32 ((s : Int) / 16) (T : Int) = ((st4 (s ^^^ h) : Nat) : Int) := by
    rw [half_is hh, ← hx, ← hTx]
    exact u32_xor_nat (s / 16) T (by omega) (by rw [hTx]; exact tab_lt x hx16)
  have hc := hT.2 x hx16
  rw [← hTx] at hc
  have HTx := hide hTx
  clear hTx
  have Hx := hide hx
  have HT := hide hT
  clear hx hT
  go_enter Tryd.func17, Tryd.ntmps17
  go_wp2
  go_ret
  exact ⟨rfl, rfl⟩

/-- What the walk of Sum holds. -/
def SumAt (l : List Nat) (n k s : Nat) : Prop := k ≤ n ∧ l.length = n ∧ (∀ x ∈ l, x < 256) ∧ s = crc 4294967295 (l.take k)
theorem SumAt.le {l : List Nat} {n k s : Nat} (h : SumAt l n k s) : k ≤ n := h.1
theorem SumAt.small {l : List Nat} {n k s : Nat} (h : SumAt l n k s) : s < 4294967296 := by
  rw [h.2.2.2]
  exact crc_lt _ (by omega) fun x hx => h.2.2.1 x (List.mem_of_mem_take hx)
theorem SumAt.byte {l : List Nat} {n k s : Nat} (h : SumAt l n k s) (hk : k < n) : l.getD k 0 < 256 := by
  have hk' : k < l.length := by rw [h.2.1]; exact hk
  rw [show l.getD k 0 = l[k] by simp [List.getD, hk']]
  exact h.2.2.1 _ (List.getElem_mem hk')
theorem SumAt.next {l : List Nat} {n k s : Nat} (h : SumAt l n k s) (hk : k < n) : SumAt l n (k + 1) (st8 (s ^^^ l.getD k 0)) := by
  have hk' : k < l.length := by rw [h.2.1]; exact hk
  refine ⟨hk, h.2.1, h.2.2.1, ?_⟩
  rw [List.take_succ_eq_append_getElem hk', crc_snoc, ← h.2.2.2, show l.getD k 0 = l[k] by simp [List.getD, hk']]
theorem SumAt.all {l : List Nat} {n k s : Nat} (h : SumAt l n k s) (hk : ¬ k < n) : s = crc 4294967295 l := by
  rw [h.2.2.2, List.take_of_length_le (by have := h.1; have := h.2.1; omega)]

/-- Two halves are a byte. -/
theorem two_halves (s x : Nat) : st4 (st4 (s ^^^ x % 16) ^^^ x / 16) = st8 (s ^^^ x) := by
  have e : x = x % 16 ^^^ 16 * (x / 16) := by
    rw [Nat.xor_comm]
    exact split16 x
  unfold st8
  conv => rhs; rw [e, ← Nat.xor_assoc, st4_xor, st4_high]

set_option maxHeartbeats 200000 in
theorem sum_any (A : Option Addr) (n c B : Nat) (l : List Nat) (w : World) (hl : Holds w B A n l) (hn : n ≤ 1099511627000) (hT : Tab w) :
    Calls Tryd.prog 10 #[.slice A n c] w fun e w' => e = .returned (.int .u32 (sum l : Nat)) ∧ w = w' := by
  have S0 : SumAt l n 0 4294967295 := ⟨Nat.zero_le _, hl.1, hl.2.1, rfl⟩
  go_enter Tryd.func10, Tryd.ntmps10
  go_wp2
  go_loop [3, 8] (fun vs vk => ∃ k s : Nat, SumAt l n k s ∧ vk = .int .i64 k ∧ vs = .int .u32 s) (fun _ vk => n - (intOf vk).toNat)
  case atStart => exact ⟨0, 4294967295, S0, rfl, rfl⟩
  case round =>
    obtain ⟨k, s, hat, rfl, rfl⟩ := hrel
    have hk := hat.le
    have hs := hat.small
    have Hat := hide hat
    clear hat
    by_cases h : k < n
    · have hx := Hat.out.byte h
      obtain ⟨b, off, rfl, _, hcs⟩ := hl.2.2 (by omega)
      have hc := hcs k h
      clear hcs
      have hnext := Hat.out.next h
      have e8 := two_halves s (l.getD k 0)
      rw [← e8] at hnext
      have hs4 : st4 (s ^^^ l.getD k 0 % 16) < 4294967296 := st4_lt (Nat.xor_lt_two_pow (n := 32) hs (by omega))
      have k1 := fun w => half_any s (l.getD k 0 % 16) w hs (by omega)
      have k2 := fun w => half_any (st4 (s ^^^ l.getD k 0 % 16)) (l.getD k 0 / 16) w hs4 (by omega)
      generalize st4 (st4 (s ^^^ l.getD k 0 % 16) ^^^ l.getD k 0 / 16) = s8 at hnext k2
      generalize st4 (s ^^^ l.getD k 0 % 16) = s4 at hs4 k1 k2
      generalize l.getD k 0 = x at hx hc k1 k2
      have Hnext := hide hnext
      have ea : bits .and .u8 (x : Int) 15 = ((x % 16 : Nat) : Int) := (u8_and15 (x := (x : Int)) (by omega) (by omega)).trans (by omega)
      have K1 := hide k1
      have K2 := hide k2
      clear hnext e8 k1 k2
      go_wp2_with (fail)
      refine (K1.out _ hT).mono ?_
      rintro e w1 ⟨rfl, rfl⟩
      go_wp2_with (fail)
      refine (K2.out _ hT).mono ?_
      rintro e w1 ⟨rfl, rfl⟩
      go_wp2
      go_round
      case rel => exact ⟨k + 1, _, Hnext.out, by go_num, rfl⟩
      case measure => simp [intOf]; omega
    · have hsum : sum l = s ^^^ 4294967295 := by rw [Hat.out.all h]; rfl
      have e1 : bits .xor .u32 IntKind.u32.max (s : Int) = ((sum l : Nat) : Int) := by
        rw [hsum, Nat.xor_comm]
        exact u32_xor_nat 4294967295 s (by omega) hs
      go_wp2
      go_ret
      exact ⟨rfl, rfl⟩
end Go.Proofs.YtjbnilippcdgeaaDoor
