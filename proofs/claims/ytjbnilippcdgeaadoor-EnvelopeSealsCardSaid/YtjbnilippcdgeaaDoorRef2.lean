/- The walks over droverref02's Sum, four, Seal. -/
import Derived.Test.YtjbnilippcdgeaaDoorSeal
namespace Go.Proofs.YtjbnilippcdgeaaDoor
open Go.RowKit

/-- Bit by bit: behind i bits of x the sum stands so. -/
def stN : Nat → Nat → Nat
  | 0, s => s
  | i + 1, s => st (stN i s)
theorem stN_8 (s : Nat) : stN 8 s = st8 s := rfl
def BitAt (s x i r : Nat) : Prop := i ≤ 8 ∧ r < 4294967296 ∧ x < 256 ∧ stN i (s ^^^ x) = r ^^^ x / 2 ^ i
theorem bitAt_start {s x : Nat} (hs : s < 4294967296) (hx : x < 256) : BitAt s x 0 s := ⟨by omega, hs, hx, by simp [stN]⟩
theorem BitAt.small {s x i r : Nat} (h : BitAt s x i r) : i ≤ 8 ∧ r < 4294967296 ∧ x < 256 := ⟨h.1, h.2.1, h.2.2.1⟩
theorem BitAt.all {s x i r : Nat} (h : BitAt s x i r) (hi : ¬ i < 8) : st8 (s ^^^ x) = r := by
  have e : i = 8 := by have := h.1; omega
  have h2 := h.2.2.2
  have : x / 2 ^ 8 = 0 := by have := h.2.2.1; omega
  rw [e, this, Nat.xor_zero] at h2
  exact h2
theorem st_split (r y : Nat) : st (r ^^^ y) = (if r % 2 ^^^ y % 2 = 1 then r / 2 ^^^ 3988292384 else r / 2) ^^^ y / 2 := by
  apply Nat.eq_of_testBit_eq
  intro i
  have hb (a : Nat) : a % 2 = (a.testBit 0).toNat := by rw [Nat.testBit_zero]; rcases Nat.mod_two_eq_zero_or_one a with h | h <;> simp [h]
  rw [st_bit, hb r, hb y, Nat.testBit_xor, Nat.testBit_xor]
  have h1 : r.testBit (i + 1) = (r / 2).testBit i := Nat.testBit_succ _ _
  have h2 : y.testBit (i + 1) = (y / 2).testBit i := Nat.testBit_succ _ _
  cases r.testBit 0 <;> cases y.testBit 0 <;> simp [Nat.testBit_xor, h1, h2] <;> cases (r / 2).testBit i <;> cases (y / 2).testBit i <;> cases Nat.testBit 3988292384 i <;> rfl
theorem BitAt.next {s x i r b : Nat} (h : BitAt s x i r) (hi : i < 8) (hb : b = r % 2 ^^^ x / 2 ^ i % 2) : BitAt s x (i + 1) (if b = 1 then r / 2 ^^^ 3988292384 else r / 2) := by
  have hr := h.2.1
  refine ⟨hi, ?_, h.2.2.1, ?_⟩
  · split
    · exact Nat.xor_lt_two_pow (n := 32) (by omega) (by omega)
    · omega
  · show st (stN i (s ^^^ x)) = _
    rw [h.2.2.2, st_split, ← hb, Nat.div_div_eq_div_mul, ← Nat.pow_succ]
theorem u32_and1 (s : Nat) (h : s < 4294967296) : bits .and .u32 (s : Int) 1 = ((s % 2 : Nat) : Int) := by
  have := u32_and_nat s 1 h (by omega)
  rw [nat_mask1] at this
  exact this

set_option maxHeartbeats 1000000 in
theorem refsum_any (A : Option Addr) (n c B : Nat) (l : List Nat) (w : World) (hl : Holds w B A n l) (hn : n ≤ 1099511627000) :
    Calls Tryd.prog 11 #[.slice A n c] w fun e w' => e = .returned (.int .u32 (sum l : Nat)) ∧ w = w' := by
  have S0 : SumAt l n 0 4294967295 := ⟨Nat.zero_le _, hl.1, hl.2.1, rfl⟩
  go_enter Tryd.func11, Tryd.ntmps11
  go_wp2
  go_loop [3, 10] (fun vs vk => ∃ k s : Nat, SumAt l n k s ∧ vk = .int .i64 k ∧ vs = .int .u32 s) (fun _ vk => n - (intOf vk).toNat)
  case atStart => exact ⟨0, 4294967295, S0, rfl, rfl⟩
  case round =>
    obtain ⟨k, s, hat, rfl, rfl⟩ := hrel
    have hk := hat.le
    have hs := hat.small
    have Hat := hide hat
    clear hat
    by_cases h : k < n
    · have hx := Hat.out.byte h
      obtain ⟨b, off, rfl, _, hcs⟩ := hl.2.2 (by omega)
      have hc := hcs k h
      clear hcs
      have hnext := Hat.out.next h
      generalize l.getD k 0 = x at hx hc hnext
      have Hnext := hide hnext
      have hb0 := bitAt_start hs hx
      clear hnext
      go_wp2
      go_loop [3, 6] (fun vs vi => ∃ i r : Nat, BitAt s x i r ∧ vi = .int .i64 i ∧ vs = .int .u32 r) (fun _ vi => 8 - (intOf vi).toNat)
      case atStart => exact ⟨0, s, hb0, rfl, rfl⟩
      case round =>
        obtain ⟨i, r, bat, rfl, rfl⟩ := hrel
        obtain ⟨hi8, hr, _⟩ := bat.small
        have Bat := hide bat
        clear bat hb0
        by_cases h8 : i < 8
        · obtain ⟨p, hp⟩ : ∃ p, p = x / 2 ^ i := ⟨_, rfl⟩
          obtain ⟨b, hb⟩ : ∃ b, b = r % 2 ^^^ p % 2 := ⟨_, rfl⟩
          have hbn := Bat.out.next h8 (b := b) (by rw [hb, hp])
          have hp256 : p < 256 := by rw [hp]; exact Nat.lt_of_le_of_lt (Nat.div_le_self _ _) hx
          have e1 : (x : Int) / 2 ^ i = (p : Int) := by rw [hp]; push_cast; rfl
          have e4 : bits .xor .u32 (bits .and .u32 (r : Int) 1) (bits .and .u32 (p : Int) 1) = (b : Int) := by
            rw [u32_and1 r hr, u32_and1 p (by omega), hb]
            exact u32_xor_nat (r % 2) (p % 2) (by omega) (by omega)
          have Hb := hide hb
          have Hp := hide hp
          have Hbn := hide hbn
          clear hb hp hbn
          by_cases h1 : b = 1
          · have hr2 := Hbn.out
            rw [if_pos h1] at hr2
            have e5 : bits .xor .u32 ((r : Int) / 2) 3988292384 = ((r / 2 ^^^ 3988292384 : Nat) : Int) := u32_xor_nat (r / 2) 3988292384 (by omega) (by omega)
            have Hr2 := hide hr2
            clear hr2
            generalize r / 2 ^^^ 3988292384 = r2 at e5 Hr2
            have h1' : ((b : Int) == 1) = true := by simp; omega
            go_wp2
            go_round
            case rel => exact ⟨i + 1, r2, Hr2.out, by go_num, rfl⟩
            case measure => simp [intOf]; omega
          · have hr2 := Hbn.out
            rw [if_neg h1] at hr2
            have Hr2 := hide hr2
            clear hr2
            have h1' : ((b : Int) == 1) = false := by simp; omega
            go_wp2
            go_round
            case rel => exact ⟨i + 1, r / 2, Hr2.out, by go_num, by go_num⟩
            case measure => simp [intOf]; omega
        · have hall := hide (Bat.out.all h8)
          go_wp2
          go_round
          case rel => exact ⟨k + 1, _, Hnext.out, by go_num, by rw [hall.out]⟩
          case measure => simp [intOf]; omega
    · have hsum : sum l = s ^^^ 4294967295 := by rw [Hat.out.all h]; rfl
      have e1 : bits .xor .u32 (s : Int) 4294967295 = ((sum l : Nat) : Int) := by
        rw [hsum]
        exact u32_xor_nat s 4294967295 hs (by omega)
      go_wp2
      go_ret
      exact ⟨rfl, rfl⟩

theorem four_any (S : Nat) (w : World) (hS : S < 4294967296) :
    Calls Tryd.prog 16 #[.int .u32 S] w (NewBytes w (four S)) := by
  have HS := hide hS
  clear hS
  obtain ⟨a, ha⟩ : ∃ a, a = S % 256 := ⟨_, rfl⟩
  obtain ⟨b, hb⟩ : ∃ b, b = S / 256 % 256 := ⟨_, rfl⟩
  obtain ⟨c, hc⟩ : ∃ c, c = S / 65536 % 256 := ⟨_, rfl⟩
  obtain ⟨d, hd⟩ : ∃ d, d = S / 16777216 % 256 := ⟨_, rfl⟩
  have e1 : (S : Int) % 256 = (a : Int) := by omega
  have e2 : (S : Int) / 256 % 256 = (b : Int) := by omega
  have e3 : (S : Int) / 65536 % 256 = (c : Int) := by omega
  have e4 : (S : Int) / 16777216 % 256 = (d : Int) := by omega
  have hf : four S = [a, b, c, d] := by rw [ha, hb, hc, hd]; rfl
  have hsm : ∀ x ∈ four S, x < 256 := four_small S
  rw [hf] at hsm ⊢
  have Hf := hide hf
  have Hsm := hide hsm
  have Ha := hide ha
  have Hb := hide hb
  have Hc := hide hc
  have Hd := hide hd
  clear hf hsm ha hb hc hd
  go_enter Tryd.func16, Tryd.ntmps16
  go_wp2
  go_ret
  refine newBytes_of (n := 4) ?_ Hsm.out ((Below.refl _ _).alloc (Nat.le_refl _) _)
  exact World.ownsRow_lit (size := 1) w (bvs [a, b, c, d]).toArray 4 (Nat.le_refl _) (by simp [maxLen]) rfl

set_option maxHeartbeats 1000000 in
theorem refseal_any (A : Option Addr) (n c B : Nat) (l : List Nat) (w : World) (hl : Holds w B A n l) (hB : B ≤ w.heap.size) (hn : n ≤ 9223372036854775807) :
    Calls Tryd.prog 9 #[.slice A n c] w (NewBytes w (sealed l)) := by
  have hlen := hl.1
  have hsm := hide (sealed_small hl.2.1)
  have Hl := hide hl
  clear hl
  by_cases hbig : 65536 < n
  · have e : sealed l = [] := by unfold sealed; rw [if_pos (by omega)]
    rw [e]
    have He := hide e
    clear e hlen
    go_enter Tryd.func9, Tryd.ntmps9
    go_wp2
    go_ret
    exact newBytes_nil w
  · have hp : sealP l = [3] ++ enc n ++ l := by simp [sealP, hlen]
    have e : sealed l = ([3] ++ enc n ++ l) ++ four (sum ([3] ++ enc n ++ l)) := by
      unfold sealed
      rw [if_neg (by omega), hp]
    have hsm2 := hide (sealP_small Hl.out.2.1)
    rw [hp] at hsm2
    obtain ⟨R, hR⟩ : ∃ R, R = sealed l := ⟨_, rfl⟩
    obtain ⟨q, hq⟩ : ∃ q, q = sum ([3] ++ enc n ++ l) := ⟨_, rfl⟩
    have hq32 : q < 4294967296 := by rw [hq]; exact sum_lt hsm2.out
    rw [← hR] at hsm ⊢
    rw [← hR, ← hq] at e
    have He := hide e
    have Hq := hide hq
    have Hlen := hide hlen
    have hel := (enc_len n).2
    clear e hlen hp hR hq
    obtain ⟨i0, hi, hz0, hz1, hz2⟩ := info_parts Tryd.infoU8
    go_enter Tryd.func9, Tryd.ntmps9
    go_wp2_with (fail)
    refine (refuint_any (some ⟨w.heap.size, 0, none⟩) 1 1 n [3] (w.heap.size + 1) _ (by omega) (by omega) (byte_holds w 3 (by omega) _) (by simp)).mono ?_
    rintro e w1 ⟨A1, n1, c1, rfl, o1, h1, _, b1⟩
    have hn1 : n1 = 1 + (enc n).length := by have := h1.1; simp at this; omega
    subst hn1
    have ba : Below w.heap.size w (w.alloc (.cells #[.int .u8 ((3 : Nat) : Int)] 5)) := (Below.refl _ _).alloc (Nat.le_refl _) _
    have L1 := hide (ba.trans (b1.mono (by simp)))
    have S1 : w.heap.size + 1 ≤ w1.heap.size := by simpa using b1.size
    have o1' := own_base (base' := w.heap.size) o1 (by simp)
    clear o1 b1 ba h1
    go_wp2_with (at_builtin; refine wpList_append_bytes _ rfl (.tmp 11) (.tmp 12) 22 rfl w.heap.size 5 i0 (.int .u8 0) Tryd.underlying22 hi hz0 hz1 hz2 rfl _ (1 + (enc n).length) ([3] ++ enc n |> bvs) rfl o1' B A n c l rfl (Hl.out.below (L1.out.mono hB)) (by omega) (by omega) ?_; intro v2 w2 o2 g2)
    have o2' : w2.ownsRow w.heap.size 5 1 v2 (1 + (enc n).length + n) (bvs ([3] ++ enc n ++ l)) := by
      rw [bvs_append]
      exact o2
    have b2 := g2.below o1' (by omega)
    have L2 := hide (L1.out.trans b2)
    have S2 := L2.out.size
    obtain ⟨A2, c2, rfl, hc2, _, h2⟩ := Holds.of_own o2' hsm2.out
    have H2 := hide h2
    have O2 := hide o2'
    clear o1' o2 g2 b2 o2' h2
    refine (refsum_any A2 _ c2 _ _ w2 H2.out (by omega)).mono ?_
    rintro e w3 ⟨rfl, rfl⟩
    rw [← Hq.out]
    go_wp2_with (fail)
    refine (four_any q w2 hq32).mono ?_
    rintro e w3 ⟨A3, n3, c3, rfl, _, h3, _, b3⟩
    obtain rfl : n3 = 4 := h3.1.symm.trans (four_len q)
    have o3 := own_below O2.out b3
    have S3 : w.heap.size ≤ w3.heap.size := Nat.le_trans S2 b3.size
    have L3 := hide (L2.out.trans (b3.mono S2))
    have H3 := hide h3
    clear b3 h3
    go_wp2_with (at_builtin; refine wpList_append_bytes _ rfl (.tmp 14) (.tmp 17) 22 rfl w.heap.size 5 i0 (.int .u8 0) Tryd.underlying22 hi hz0 hz1 hz2 rfl _ (1 + (enc n).length + n) _ rfl o3 _ A3 4 c3 _ rfl H3.out (by omega) S3 ?_; intro v4 w4 o4 g4)
    have o5 : w4.ownsRow w.heap.size 5 1 v4 (1 + (enc n).length + n + 4) (bvs R) := by
      rw [He.out, bvs_append]
      exact o4
    have L4 := hide (L3.out.trans (g4.below o3 S3))
    have O5 := hide o5
    clear o4 g4 o5 o3
    go_ret
    exact newBytes_of O5.out hsm.out L4.out
end Go.Proofs.YtjbnilippcdgeaaDoor
