/- The walks over envelope's Seal, bytes.Equal; of droverref02: Sum, four, Seal. -/
import Derived.Test.YtjbnilippcdgeaaDoorEnv
import Derived.Test.YtjbnilippcdgeaaDoorUint
import Derived.Test.YtjbnilippcdgeaaDoorKeep
import Derived.Test.YtjbnilippcdgeaaDoorText
import Derived.Test.YtjbnilippcdgeaaDoorRefUint
import Derived.Handy
namespace Go.Proofs.YtjbnilippcdgeaaDoor
open Go.RowKit

theorem byte_holds (w : World) (x : Nat) (hx : x < 256) (t : TypeId) : Holds (w.alloc (.cells #[.int .u8 (x : Int)] t)) (w.heap.size + 1) (some ⟨w.heap.size, 0, none⟩) 1 [x] := by
  refine ⟨rfl, by simpa using hx, fun _ => ⟨w.heap.size, 0, rfl, by omega, fun i hi => ?_⟩⟩
  obtain rfl : i = 0 := by omega
  simp
theorem newBytes_nil (w : World) : NewBytes w [] (.returned (.slice none 0 0)) w :=
  ⟨none, 0, 0, rfl, World.ownsRow_nil _ _ _ _, Holds.nil_ _ _, Nat.le_refl _, Below.refl _ _⟩

set_option maxHeartbeats 1000000 in
theorem seal_any (A : Option Addr) (n c B : Nat) (l : List Nat) (w : World) (hl : Holds w B A n l) (hB : B ≤ w.heap.size) (hn : n ≤ 9223372036854775807) (hT : Tab w) :
    Calls Tryd.prog 8 #[.slice A n c] w (NewBytes w (sealed l)) := by
  have hlen := hl.1
  have hsm := hide (sealed_small hl.2.1)
  have Hl := hide hl
  have HT := hide hT
  clear hl hT
  by_cases hbig : 65536 < n
  · have e : sealed l = [] := by unfold sealed; rw [if_pos (by omega)]
    rw [e]
    have He := hide e
    clear e hlen
    go_enter Tryd.func8, Tryd.ntmps8
    go_wp2
    go_ret
    exact newBytes_nil w
  · have hp : sealP l = [3] ++ enc n ++ l := by simp [sealP, hlen]
    have e : sealed l = ([3] ++ enc n ++ l) ++ four (sum ([3] ++ enc n ++ l)) := by
      unfold sealed
      rw [if_neg (by omega), hp]
    have hsm2 := hide (sealP_small Hl.out.2.1)
    rw [hp] at hsm2
    obtain ⟨R, hR⟩ : ∃ R, R = sealed l := ⟨_, rfl⟩
    obtain ⟨q, hq⟩ : ∃ q, q = sum ([3] ++ enc n ++ l) := ⟨_, rfl⟩
    have hq32 : q < 4294967296 := by rw [hq]; exact sum_lt hsm2.out
    rw [← hR] at hsm ⊢
    rw [← hR, ← hq] at e
    have He := hide e
    have Hq := hide hq
    have Hlen := hide hlen
    have hel := (enc_len n).2
    clear e hlen hp hR hq
    obtain ⟨i0, hi, hz0, hz1, hz2⟩ := info_parts Tryd.infoU8
    go_enter Tryd.func8, Tryd.ntmps8
    go_wp2_with (fail)
    refine (uint_any (some ⟨w.heap.size, 0, none⟩) 1 1 n [3] (w.heap.size + 1) _ (by omega) (by omega) (byte_holds w 3 (by omega) _) (by simp)).mono ?_
    rintro e w1 ⟨v1, rfl, o1, b1⟩
    have ba : Below w.heap.size w (w.alloc (.cells #[.int .u8 ((3 : Nat) : Int)] 5)) := (Below.refl _ _).alloc (Nat.le_refl _) _
    have L1 := hide (ba.trans (b1.mono (by simp)))
    have S1 : w.heap.size + 1 ≤ w1.heap.size := by simpa using b1.size
    have o1' := own_base (base' := w.heap.size) o1 (by simp)
    clear o1 b1 ba
    go_wp2_with (at_builtin; refine wpList_append_bytes _ rfl (.tmp 12) (.tmp 13) 22 rfl w.heap.size 5 i0 (.int .u8 0) Tryd.underlying22 hi hz0 hz1 hz2 rfl _ (1 + (enc n).length) ([3] ++ enc n |> bvs) rfl o1' B A n c l rfl (Hl.out.below (L1.out.mono hB)) (by omega) (by omega) ?_; intro v2 w2 o2 g2)
    have o2' : w2.ownsRow w.heap.size 5 1 v2 (1 + (enc n).length + n) (bvs ([3] ++ enc n ++ l)) := by
      rw [bvs_append]
      exact o2
    have b2 := g2.below o1' (by omega)
    have L2 := hide (L1.out.trans b2)
    have S2 := L2.out.size
    obtain ⟨A2, c2, rfl, hc2, _, h2⟩ := Holds.of_own o2' hsm2.out
    have H2 := hide h2
    have O2 := hide o2'
    clear o1' o2 g2 b2 o2' h2
    refine (sum_any A2 _ c2 _ _ w2 H2.out (by omega) (HT.out.later L2.out)).mono ?_
    rintro e w3 ⟨rfl, rfl⟩
    rw [← Hq.out]
    go_wp2_with (fail)
    refine (putsum_any w.heap.size _ q _ _ w2 hq32 (by omega) S2 O2.out).mono ?_
    rintro e w3 ⟨v3, rfl, o3, g3⟩
    have L3 := hide (L2.out.trans (g3.below O2.out S2))
    have O3 := hide o3
    clear o3 g3
    go_wp2
    go_ret
    have o4 := O3.out
    rw [← He.out] at o4
    exact newBytes_of o4 hsm.out L3.out

theorem equal_any (A A2 : Option Addr) (n c m c2 B B2 : Nat) (l l2 : List Nat) (w : World) (hl : Holds w B A n l) (h2 : Holds w B2 A2 m l2) :
    Calls Tryd.prog 19 #[.slice A n c, .slice A2 m c2] w fun e w' => e = .returned (.bool (decide (l = l2))) ∧ w = w' := by
  have d1 := run_str w B A n c l hl
  have d2 := run_str w B2 A2 m c2 l2 h2
  have hs1 := hide hl.2.1
  have hs2 := hide h2.2.1
  clear hl h2
  by_cases h : l = l2
  · subst h
    have hb := str_beq l
    rw [decide_eq_true rfl]
    go_enter Tryd.func19, Tryd.ntmps19
    go_wp2
    go_ret
    exact ⟨rfl, rfl⟩
  · have hb := str_bne hs1.out hs2.out h
    rw [decide_eq_false h]
    have H := hide h
    clear h
    go_enter Tryd.func19, Tryd.ntmps19
    go_wp2
    go_ret
    exact ⟨rfl, rfl⟩
end Go.Proofs.YtjbnilippcdgeaaDoor
