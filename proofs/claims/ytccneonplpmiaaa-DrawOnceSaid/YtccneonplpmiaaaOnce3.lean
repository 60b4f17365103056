/- The walk over droverlaw03.DrawOnce: no nonce comes twice, and each is above 0. -/
import Derived.Test.YtccneonplpmiaaaLives3
import Derived.Test.YtccneonplpmiaaaInts
namespace Go.Proofs.Ytccneonplpmiaaa
open Go.RowKit

theorem raw_ne {k c j : Nat} (hk : k < 4294967296) (hj : j < c) (hc : c < 1000000) : raw k c ≠ raw k j := by
  intro h
  unfold raw at h
  rw [Nat.mod_eq_of_lt (show c + 1 < 4294967296 by omega), Nat.mod_eq_of_lt (show j + 1 < 4294967296 by omega)] at h
  have h2 := mix_inj (xor_lt (by omega) hk) (xor_lt (by omega) hk) h
  have h3 : c + 1 ^^^ k ^^^ k = j + 1 ^^^ k ^^^ k := by rw [h2]
  rw [Nat.xor_assoc, Nat.xor_self, Nat.xor_zero, Nat.xor_assoc, Nat.xor_self, Nat.xor_zero] at h3
  omega
/-- The nonces that were drawn so far. -/
def nonces (k c : Nat) : List Int := (List.range c).map fun j => ((raw k j : Nat) : Int) + 1
theorem nonces_len (k c : Nat) : (nonces k c).length = c := by simp [nonces]
theorem nonces_next (k c : Nat) : nonces k (c + 1) = nonces k c ++ [((raw k c : Nat) : Int) + 1] := by simp [nonces, List.range_succ]
theorem nonces_get {k c j : Nat} (h : j < c) : (nonces k c).getD j 0 = ((raw k j : Nat) : Int) + 1 := by simp [nonces, List.getD, h]
theorem nonces_fit (k c : Nat) : Fit (nonces k c) := by
  intro x hx
  obtain ⟨j, _, rfl⟩ := List.mem_map.1 hx
  have := raw_lt k j
  omega

/-- Where the outer loop stands. -/
def OnceAt (w w1 wr : World) (g k c : Nat) (v : Value) : Prop :=
  DrawAt 43 wr g k c ∧ wr.ownsRow w1.heap.size 3 1 v c (ivs (nonces k c)) ∧ Below w.heap.size w wr ∧ w1.heap.size ≤ wr.heap.size

set_option maxHeartbeats 1000000 in
set_option maxRecDepth 100000 in
theorem law_once (S V : Nat) (w : World) (hS : S < 18446744073709551616) (hV : V < 18446744073709551616) :
    Calls Try.prog 5 #[.int .u64 S, .int .u64 V] w fun e w' => e = .returned (.bool true) ∧ Below w.heap.size w w' := by
  obtain ⟨i0, hi, hz0, hz1, hz2⟩ := info_parts Try.infoI64
  have hk := keyOf_lt hS
  have C1 := hide (new_any S w hS)
  have HS := hide hS
  clear hS
  obtain ⟨k, hke⟩ : ∃ k, k = keyOf S := ⟨_, rfl⟩
  rw [← hke] at hk
  have HK := hide hke
  clear hke
  go_enter Try.func5, Try.ntmps5
  go_wp2_with (fail)
  refine C1.out.mono ?_
  rintro e w1 ⟨g, rfl, hg, hd, hl⟩
  rw [← HK.out] at hd
  have HG := hide hg
  have HD := hide hd
  have HL := hide (show Below w.heap.size w w1 from hl)
  clear hg hd hl
  go_wp2
  go_loopw [6, 7] (fun l i wr => ∃ c : Nat, c ≤ V % 200 ∧ i = .int .i64 (c : Int) ∧ OnceAt w w1 wr g k c l) (fun _ i _ => 200 - (intOf i).toNat)
  case atStart => exact ⟨0, by omega, rfl, HD.out, ⟨rfl, .inl ⟨rfl, rfl⟩⟩, HL.out, Nat.le_refl _⟩
  case round =>
    obtain ⟨c, hc, rfl, hd, ho, hb, hsz⟩ := hrel
    have hc' : c ≤ 200 := by omega
    by_cases hlt : c < V % 200
    · have hle : decide ((c : Int) < (V : Int) % 200) = true := by simp only [decide_eq_true_eq]; omega
      have C2 := hide (nonce_any g k c wr hd hk (by omega))
      have r1 := raw_lt k c
      have HO := hide ho
      have HB := hide hb
      have Hlt := hide hlt
      have HX : Hid (∀ j, j < c → ((raw k c : Nat) : Int) + 1 ≠ ((raw k j : Nat) : Int) + 1) := fun j hj h => raw_ne hk hj (by omega) (by omega)
      have HN := hide (nonces_next k c)
      have hglt : Hid (g < w1.heap.size) := HD.out.lt
      have HZ := hide hsz
      clear ho hb hlt hd hsz
      obtain ⟨x, hx⟩ : ∃ x : Int, x = ((raw k c : Nat) : Int) + 1 := ⟨_, rfl⟩
      have x1 : 1 ≤ x := by omega
      have x2 : x ≤ 4294967296 := by omega
      rw [← hx] at C2 HX HN
      clear hx r1
      go_wp2_with (fail)
      refine C2.out.mono ?_
      rintro e w2 ⟨rfl, h1, h2⟩
      have HD2 := hide h1
      have HW := hide h2
      have HO2 := hide (HO.out.kept h2 (.inr (fun e => by have := (HO.out.lt g e).1; have := hglt.out; omega)))
      clear h1 h2
      obtain ⟨A, cap, hv, hcc, _, HH⟩ := IHolds.of_own HO2.out (nonces_fit k c)
      subst hv
      have HH2 := hide HH
      clear HH
      go_wp2
      go_loop [24] (fun j => ∃ m : Nat, m ≤ c ∧ j = .int .i64 (m : Int)) (fun j => c - (intOf j).toNat)
      case atStart => exact ⟨0, by omega, rfl⟩
      case round =>
        obtain ⟨m, hm, rfl⟩ := hrel
        by_cases hmc : m < c
        · obtain ⟨b, off, rfl, _, hcell⟩ := HH2.out.at_ hmc
          rw [nonces_get hmc] at hcell
          have hne := HX.out m hmc
          obtain ⟨y, hy⟩ : ∃ y : Int, y = ((raw k m : Nat) : Int) + 1 := ⟨_, rfl⟩
          rw [← hy] at hcell hne
          have ht : (x == y) = false := by simpa using hne
          clear hy hne
          go_wp2
          go_round
          case rel => exact ⟨m + 1, by omega, by go_num⟩
          case measure => simp [intOf]; omega
        · have hs2 : w1.heap.size ≤ w2.heap.size := Nat.le_trans HZ.out HW.out.size
          go_wp2_with (at_builtin; refine wpList_append_own_at _ rfl (.tmp 38) (.tmp 40) 27 rfl w1.heap.size 3 i0 _ 1 8 Try.underlying27 hi hz0 hz1 hz2 rfl (by omega) _ c (ivs (nonces k c)) rfl (HO2.out.alloc _) ⟨w2.heap.size, 0, none⟩ 1 1 (ivs [x]) rfl rfl (cell_one_new _ _ _) (ivs_cell _) (by simp only [maxLen]; omega) (by omega) (by simp; omega) ?_; intro v1 w3 hown1 hg1 _ hat1)
          have G1 : Hid ((w2.alloc (.cells #[.int .i64 x] 3)).grownBy w3 (Value.slice A c cap).ownBlock) := hg1
          have O1 := hide hown1
          have HA : Hid (∀ r, (Value.slice A c cap).ownBlock = some r → w1.heap.size ≤ r) := fun r e => (HO2.out.lt r e).1
          clear hg1 hown1 hat1
          go_roundw
          case rel =>
            refine ⟨c + 1, by have := Hlt.out; omega, by go_num, ?_, ?_, ?_, ?_⟩
            · exact (HD2.out.later ((Below.refl _ _).alloc (Nat.le_refl _) _)).other G1.out (fun e => by have := HA.out g e.symm; have := hglt.out; omega)
            · rw [HN.out, ivs_append]
              exact O1.out
            · have n1 := HL.out.size
              have b1 : Below w.heap.size w w2 := HB.out.trans (below_grown HW.out HG.out HB.out.size)
              have b2 : Below w.heap.size w (w2.alloc (.cells #[.int .i64 x] 3)) := b1.alloc b1.size _
              exact b2.grown G1.out b2.size (fun r e => by have := HA.out r e; omega)
            · have := G1.out.size
              simp at this
              omega
          case measure => simp [intOf]; omega
    · have hle : decide ((c : Int) < (V : Int) % 200) = false := by simp only [decide_eq_false_iff_not]; omega
      have HB := hide hb
      clear hb hd hlt ho
      go_wp2_with (fail)
      refine (lives_any _).mono ?_
      rintro e w2 ⟨rfl, b⟩
      go_wp2
      go_ret
      exact ⟨rfl, Below.trans HB.out (b.mono HB.out.size)⟩
end Go.Proofs.Ytccneonplpmiaaa
