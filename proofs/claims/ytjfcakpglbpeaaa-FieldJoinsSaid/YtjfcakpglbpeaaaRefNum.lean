/- The walks over the document's own numbers: droverref01.Uint, GetUint, Zig, Zag. -/
import Derived.Test.YtjfcakpglbpeaaaGet
import Derived.Test.YtjfcakpglbpeaaaPut
import Derived.Test.YtjfcakpglbpeaaaZig
namespace Go.Proofs.Ytjfcakpglbpeaaa
open Go.RowKit

set_option maxHeartbeats 1000000 in
theorem refuint_any (A : Option Addr) (n c V : Nat) (l : List Nat) (B : Nat) (w : World) (hV : V < 18446744073709551616) (hn : n ≤ 1099511627000) (hl : Holds w B A n l) (hB : B ≤ w.heap.size) :
    Calls Try.prog 13 #[.slice A n c, .int .u64 V] w (NewBytes w (l ++ enc V)) := by
  obtain ⟨i0, hi, hz0, hz1, hz2⟩ := info_parts Try.infoU8
  have HV := hide hV
  have Hl := hide hl
  clear hV hl
  go_enter Try.func13, Try.ntmps13
  go_wp2_with (at_builtin; refine wpList_append_bytes _ rfl (.tmp 7) (.tmp 8) 22 rfl w.heap.size 5 i0 (.int .u8 0) Try.underlying22 hi hz0 hz1 hz2 rfl _ 0 [] rfl (World.ownsRow_lit w #[] 0 (Nat.le_refl _) (by simp [maxLen]) rfl) B A n c l rfl (Hl.out.below ((Below.refl _ _).alloc hB _)) (by omega) (by simp) ?_; intro v2 w2 o2 g2)
  have l2 : Below w.heap.size w w2 := ((Below.refl _ _).alloc (Nat.le_refl _) _).trans (g2.below (World.ownsRow_lit w #[] 0 (Nat.le_refl _) (by simp [maxLen]) rfl) (by simp))
  have o2' : w2.ownsRow w.heap.size 5 1 v2 n (bvs (l ++ [])) := by simpa using o2
  clear o2 g2
  go_loopw [5, 1] (fun b vv wr => ∃ (f v m : Nat) (k : List Nat), PutAt V f v m n k ∧ vv = .int .u64 v ∧ wr.ownsRow w.heap.size 5 1 b m (bvs (l ++ k)) ∧ Below w.heap.size w wr) (fun _ vv _ => (intOf vv).toNat)
  case atStart => exact ⟨9, V, n, [], putAt_start HV.out n, rfl, o2', l2⟩
  case round =>
    obtain ⟨f, v, m, k, hput, rfl, hown, hbel⟩ := hrel
    have hmm := hput.room (by omega)
    obtain ⟨g, hg⟩ : ∃ g, g = v % 128 := ⟨_, rfl⟩
    obtain ⟨c, hc⟩ : ∃ c, c = g + 128 := ⟨_, rfl⟩
    have hrem : (v : Int) % 128 = (g : Int) := by omega
    obtain ⟨q, hq⟩ : ∃ q, q = v / 128 := ⟨_, rfl⟩
    have hquo : IntKind.u64.wrap ((v : Int) / 128) = (q : Int) := by
      have := hput.1
      rw [IntKind.wrap_u64]
      omega
    have Hq := hide hq
    have hadd : (g : Int) + 128 = (c : Int) := by omega
    have hgs : g < 128 := by omega
    have hcs : c < 256 := by omega
    have hsz := hbel.size
    have Hg := hide hg
    have Hc := hide hc
    clear hg hc hq o2' l2
    by_cases h : q = 0
    · have ht : ((q : Int) == 0) = true := by simp; omega
      have Hz : Hid (v / 128 = 0) := by show _ = _; rw [← Hq.out]; exact h
      clear h
      go_wp2_with (at_builtin; refine wpList_append_own_at _ rfl (.tmp 17) (.tmp 19) 22 rfl w.heap.size 5 i0 _ 1 1 Try.underlying22 hi hz0 hz1 hz2 rfl (by omega) _ m (bvs (l ++ k)) rfl (hown.alloc _) ⟨wr.heap.size, 0, none⟩ 1 1 (bvs [g]) rfl rfl (cell_one_new _ _ _) (bvs_cell _) (by simp only [maxLen]; omega) (by omega) (by simp; omega) ?_; intro v1 w1 hown1 hg1 _ hat1)
      go_ret
      refine newBytes_of (n := m + 1) ?_ (fun y hy => ?_) ((hbel.alloc (by omega) _).trans (Went.below (.of_at hg1 hat1) (hown.alloc _) (by simp; omega)))
      · rw [hput.last Hz.out, ← Hg.out, ← List.append_assoc, bvs_append]
        exact hown1
      · rcases List.mem_append.1 hy with h | h
        · exact Hl.out.2.1 y h
        · exact enc_small V y h
    · have ht : ((q : Int) == 0) = false := by simp; omega
      have Hz : Hid (¬ v / 128 = 0) := by show ¬ _; rw [← Hq.out]; exact h
      clear h
      go_wp2_with (at_builtin; refine wpList_append_own_at _ rfl (.tmp 21) (.tmp 24) 22 rfl w.heap.size 5 i0 _ 1 1 Try.underlying22 hi hz0 hz1 hz2 rfl (by omega) _ m (bvs (l ++ k)) rfl (hown.alloc _) ⟨wr.heap.size, 0, none⟩ 1 1 (bvs [c]) rfl rfl (cell_one_new _ _ _) (bvs_cell _) (by simp only [maxLen]; omega) (by omega) (by simp; omega) ?_; intro v1 w1 hown1 hg1 _ hat1)
      obtain ⟨f', hnext⟩ := hput.next Hz.out
      rw [← Hg.out, ← Hc.out] at hnext
      go_roundw
      case rel =>
        refine ⟨f', v / 128, m + 1, k ++ [c], hnext, by rw [Hq.out], ?_, (hbel.alloc (by omega) _).trans (Went.below (.of_at hg1 hat1) (hown.alloc _) (by simp; omega))⟩
        rw [← List.append_assoc, bvs_append]
        exact hown1
      case measure =>
        have := Hz.out
        have := Hq.out
        simp [intOf]
        omega

/-- Where the document's loop stands. -/
def RefAt (l : List Nat) (n k a : Nat) : Prop := k ≤ n ∧ k ≤ 10 ∧ l.length = n ∧ (k ≤ 9 → GetAt l n k a) ∧ (k = 10 → num l 0 0 = (0, 0, 4))

theorem GetAt.add {l : List Nat} {n k a : Nat} (h : GetAt l n k a) (hb : ¬ (k = 9 ∧ 1 < l.getD k 0 % 128)) {y : Nat} (hy : y = l.getD k 0 % 128) :
    IntKind.u64.wrap ((a : Int) + IntKind.u64.wrap ((y : Int) * 2 ^ (7 * k))) = ((a + l.getD k 0 % 128 * 2 ^ (7 * k) : Nat) : Int) := by
  subst hy
  have h9 := h.2.1
  have ha := h.2.2.1
  have e63 : (2 : Nat) ^ 63 = 9223372036854775808 := by decide
  have e56 : (2 : Nat) ^ 56 = 72057594037927936 := by decide
  have hp : 2 ^ (7 * k) ≤ 2 ^ 63 := Nat.pow_le_pow_right (by decide) (by omega)
  have hm : l.getD k 0 % 128 * 2 ^ (7 * k) ≤ 9223372036854775808 := by
    by_cases hk : k = 9
    · subst hk
      have : l.getD 9 0 % 128 ≤ 1 := by omega
      have := Nat.mul_le_mul_right (2 ^ (7 * 9)) this
      omega
    · have hp2 : 2 ^ (7 * k) ≤ 2 ^ 56 := Nat.pow_le_pow_right (by decide) (by omega)
      have h1 : l.getD k 0 % 128 ≤ 127 := by omega
      have := Nat.mul_le_mul h1 hp2
      omega
  rw [show ((l.getD k 0 % 128 : Nat) : Int) * 2 ^ (7 * k) = ((l.getD k 0 % 128 * 2 ^ (7 * k) : Nat) : Int) from by rw [Int.natCast_mul, Int.natCast_pow]; rfl]
  rw [IntKind.wrap_u64, IntKind.wrap_u64]
  omega

theorem GetAt.add9 {l : List Nat} {n k a : Nat} (h : GetAt l n k a) (hk : k = 9) {y : Nat} (hy : y = l.getD k 0 % 128) (hy1 : y ≤ 1) :
    IntKind.u64.wrap ((a : Int) + (y : Int) * 9223372036854775808) = ((a + l.getD k 0 % 128 * 2 ^ (7 * k) : Nat) : Int) := by
  have ha := h.2.2.1
  subst hk
  have e63 : (2 : Nat) ^ (7 * 9) = 9223372036854775808 := by decide
  rw [e63] at ha ⊢
  rw [← hy, IntKind.wrap_u64]
  omega

set_option maxHeartbeats 1000000 in
set_option maxRecDepth 100000 in
theorem refgetuint_any (A : Option Addr) (n c B : Nat) (l : List Nat) (w : World) (hl : Holds w B A n l) (hn : n ≤ 1099511627000) :
    Calls Try.prog 11 #[.slice A n c] w fun e w' => e = .returned (.tuple #[.int .u64 (num l 0 0).1, .int .i64 (num l 0 0).2.1]) ∧ w = w' := by
  have G0 : RefAt l n 0 0 := ⟨by omega, by omega, hl.1, fun _ => getAt_start hl.1 hl.2.1, fun h => by omega⟩
  go_enter Try.func11, Try.ntmps11
  go_wp2
  go_loop [4, 5] (fun v i => ∃ k a : Nat, RefAt l n k a ∧ v = .int .u64 a ∧ i = .int .i64 k) (fun _ i => n - (intOf i).toNat)
  case atStart => exact ⟨0, 0, G0, rfl, rfl⟩
  case round =>
    obtain ⟨k, a, R, rfl, rfl⟩ := hrel
    have hk10 := R.2.1
    have hkn := R.1
    by_cases hlt : k < n
    · by_cases h10 : k < 10
      · have G := R.2.2.2.1 (by omega)
        obtain ⟨b, off, rfl, _, hcell⟩ := hl.2.2 (by omega)
        obtain ⟨x, hx⟩ : ∃ x, x = l.getD k 0 := ⟨_, rfl⟩
        obtain ⟨y, hy⟩ : ∃ y, y = x % 128 := ⟨_, rfl⟩
        have hck : w.cell? ⟨b, off + k, none⟩ = some (.int .u8 (x : Int)) := by rw [hx]; exact hcell k hlt
        have hxs : x < 256 := by rw [hx]; exact G.byte hlt
        have hys : y < 128 := by omega
        have hrem : (x : Int) % 128 = (y : Int) := by omega
        have Hx := hide hx
        have Hy := hide hy
        have HR := hide R
        clear hx hy hcell R
        by_cases h9 : k = 9
        · have hck9 : w.cell? ⟨b, off + 9, none⟩ = some (.int .u8 (x : Int)) := by rw [h9] at hck; exact hck
          have H9 := hide h9
          have hk9 : 9 ≤ k := by omega
          clear h9
          go_wp2
          · have hv := G.bad hlt (by rw [← Hx.out]; have := H9.out; have := Hy.out; omega)
            go_ret2
            exact ⟨ret2 (by rw [hv]; rfl) (by rw [hv]; rfl), rfl⟩
          · have h0 := WalkArith.int_eq (show ((x : Int) == 0) = true by assumption)
            have hv := G.bad hlt (by rw [← Hx.out]; omega)
            go_ret2
            exact ⟨ret2 (by rw [hv]; rfl) (by rw [hv]; rfl), rfl⟩
          · have h0 := WalkArith.int_ne (show ((x : Int) == 0) = false by assumption)
            have hb : ¬ ((k = 9 ∧ 1 < l.getD k 0) ∨ (0 < k ∧ l.getD k 0 = 0)) := by rw [← Hx.out]; have := Hy.out; omega
            have hv := G.last hlt hb (by rw [← Hx.out]; omega)
            go_ret2
            exact ⟨ret2 (by rw [hv]; exact G.add9 H9.out (by rw [← Hx.out, Hy.out]) (by omega)) (by rw [hv]; show (_ : Int) = ((k + 1 : Nat) : Int); have := H9.out; omega), rfl⟩
          · have hv := G.bad hlt (by rw [← Hx.out]; have := H9.out; omega)
            have hL := G.add9 H9.out (show y = l.getD k 0 % 128 by rw [← Hx.out, Hy.out]) (by omega)
            have hR : RefAt l n (k + 1) (a + l.getD k 0 % 128 * 2 ^ (7 * k)) := ⟨by omega, by omega, HR.out.2.2.1, fun h => by omega, fun _ => hv⟩
            go_round
            case rel => exact ⟨k + 1, _, hR, by rw [hL], by have := H9.out; go_num⟩
            case measure => have := H9.out; simp [intOf]; omega
        · go_wp2
          · have h0 := WalkArith.int_eq (show ((x : Int) == 0) = true by assumption)
            have hv := G.bad hlt (by rw [← Hx.out]; omega)
            go_ret2
            exact ⟨ret2 (by rw [hv]; rfl) (by rw [hv]; rfl), rfl⟩
          · have h0 := WalkArith.int_ne (show ((x : Int) == 0) = false by assumption)
            have hb : ¬ ((k = 9 ∧ 1 < l.getD k 0) ∨ (0 < k ∧ l.getD k 0 = 0)) := by rw [← Hx.out]; omega
            have hv := G.last hlt hb (by rw [← Hx.out]; omega)
            go_ret2
            exact ⟨ret2 (by rw [hv]; exact G.add (by omega) (by rw [← Hx.out, Hy.out])) (by rw [hv]; rfl), rfl⟩
          · have hb : ¬ ((k = 9 ∧ 1 < l.getD k 0) ∨ (0 < k ∧ l.getD k 0 = 0)) := by rw [← Hx.out]; omega
            have hv := G.last hlt hb (by rw [← Hx.out]; omega)
            go_ret2
            exact ⟨ret2 (by rw [hv]; exact G.add (by omega) (by rw [← Hx.out, Hy.out])) (by rw [hv]; rfl), rfl⟩
          · have hb : ¬ ((k = 9 ∧ 1 < l.getD k 0) ∨ (0 < k ∧ l.getD k 0 = 0)) := by rw [← Hx.out]; omega
            have hG := G.next hlt hb (by rw [← Hx.out]; omega)
            have hL := G.add (by omega) (show y = l.getD k 0 % 128 by rw [← Hx.out, Hy.out])
            have hR : RefAt l n (k + 1) (a + l.getD k 0 % 128 * 2 ^ (7 * k)) := ⟨by omega, by omega, HR.out.2.2.1, fun _ => hG, fun h => by omega⟩
            go_round
            case rel => exact ⟨k + 1, _, hR, by rw [hL], by go_num⟩
            case measure => simp [intOf]; omega
      · have hv := R.2.2.2.2 (by omega)
        have HR := hide R
        have Hv := hide hv
        clear R hv
        go_wp2
        go_ret2
        exact ⟨ret2 (by rw [Hv.out]; rfl) (by rw [Hv.out]; rfl), rfl⟩
    · have hv : num l 0 0 = (0, 0, 3) ∨ num l 0 0 = (0, 0, 4) := by
        by_cases h10 : k = 10
        · exact .inr (R.2.2.2.2 h10)
        · exact .inl ((R.2.2.2.1 (by omega)).short hlt)
      have Hv := hide hv
      clear hv R
      go_wp2
      go_ret2
      exact ⟨ret2 (by rcases Hv.out with h | h <;> rw [h] <;> rfl) (by rcases Hv.out with h | h <;> rw [h] <;> rfl), rfl⟩

theorem refzig_neg (n : Int) (h1 : -9223372036854775808 ≤ n) (h : n < 0) : IntKind.u64.wrap (IntKind.u64.wrap (IntKind.u64.wrap (wrap64 (-wrap64 (n + 1))) * 2) + 1) = ((zig n : Nat) : Int) := by
  have e1 : wrap64 (n + 1) = n + 1 := by unfold wrap64; omega
  have e2 : wrap64 (-(n + 1)) = -(n + 1) := by unfold wrap64; omega
  rw [e1, e2, IntKind.wrap_u64, IntKind.wrap_u64, IntKind.wrap_u64]
  unfold zig
  rw [if_pos h]
  omega
theorem refzag_odd (v : Nat) (h : v < 18446744073709551616) (hz : v % 2 = 1) : wrap64 (wrap64 (-wrap64 (IntKind.u64.wrap ((v : Int) / 2))) - 1) = zag v := by
  have e0 : IntKind.u64.wrap ((v : Int) / 2) = (v : Int) / 2 := by rw [IntKind.wrap_u64]; omega
  rw [e0, half v h]
  have e2 : wrap64 (-((v / 2 : Nat) : Int)) = -((v / 2 : Nat) : Int) := by unfold wrap64; omega
  rw [e2]
  unfold zag
  rw [if_pos hz]
  unfold wrap64
  omega
theorem refzag_even (v : Nat) (h : v < 18446744073709551616) (hz : ¬ v % 2 = 1) : wrap64 (IntKind.u64.wrap ((v : Int) / 2)) = zag v := by
  have e0 : IntKind.u64.wrap ((v : Int) / 2) = (v : Int) / 2 := by rw [IntKind.wrap_u64]; omega
  rw [e0, half v h]
  unfold zag
  rw [if_neg hz]

set_option maxHeartbeats 400000 in
theorem refzig_any (n : Int) (w : World) (h1 : -9223372036854775808 ≤ n) (h2 : n < 9223372036854775808) :
    Calls Try.prog 15 #[.int .i64 n] w fun e w' => e = .returned (.int .u64 (zig n)) ∧ w = w' := by
  have H1 := hide h1
  have H2 := hide h2
  by_cases hneg : n < 0
  · have H := hide hneg
    clear h1 h2
    go_enter Try.func15, Try.ntmps15
    go_wp2
    go_ret
    exact ⟨ret_int (refzig_neg n H1.out H.out), rfl⟩
  · have H := hide hneg
    clear h1 h2
    go_enter Try.func15, Try.ntmps15
    go_wp2
    go_ret
    exact ⟨ret_int (zig_pos n (by have := H.out; omega) H2.out), rfl⟩

set_option maxHeartbeats 400000 in
theorem refzag_any (v : Nat) (w : World) (h : v < 18446744073709551616) :
    Calls Try.prog 17 #[.int .u64 v] w fun e w' => e = .returned (.int .i64 (zag v)) ∧ w = w' := by
  have H := hide h
  clear h
  by_cases hz : v % 2 = 1
  · have ht : ((v : Int) % 2 == 1) = true := by simp; omega
    have Hz := hide hz
    clear hz
    go_enter Try.func17, Try.ntmps17
    go_wp2
    go_ret
    exact ⟨ret_int (refzag_odd v H.out Hz.out), rfl⟩
  · have ht : ((v : Int) % 2 == 1) = false := by simp; omega
    have Hz := hide hz
    clear hz
    go_enter Try.func17, Try.ntmps17
    go_wp2
    go_ret
    exact ⟨ret_int (refzag_even v H.out Hz.out), rfl⟩
end Go.Proofs.Ytjfcakpglbpeaaa
