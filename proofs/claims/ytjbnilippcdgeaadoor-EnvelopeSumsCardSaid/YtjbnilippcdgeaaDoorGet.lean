/- The walks over field.get and field.GetUint: the number that bytes begin with. -/
import Derived.Test.YtjbnilippcdgeaaDoorBits
import Derived.Test.YtjbnilippcdgeaaDoorRows
import Derived.Test.YtjbnilippcdgeaaDoorMem
import Derived.WalkLawsBesides
namespace Go.Proofs.YtjbnilippcdgeaaDoor
open Go.RowKit

/-- Where the loop stands: k groups, above 127 each, have come to a. -/
def GetAt (l : List Nat) (n k a : Nat) : Prop := k ≤ n ∧ k ≤ 9 ∧ a < 2 ^ (7 * k) ∧ l.length = n ∧ num l 0 0 = num (l.drop k) k a ∧ (∀ x ∈ l, x < 256)

section
variable {l : List Nat} {n k a : Nat}
theorem getAt_start (h : l.length = n) (hs : ∀ x ∈ l, x < 256) : GetAt l n 0 0 := ⟨by omega, by omega, by simp, h, by simp, hs⟩
theorem GetAt.le (h : GetAt l n k a) : k ≤ n ∧ k ≤ 9 := ⟨h.1, h.2.1⟩
theorem GetAt.cons (h : GetAt l n k a) (hk : k < n) : l.drop k = l.getD k 0 :: l.drop (k + 1) := by
  have hl : k < l.length := by rw [h.2.2.2.1]; exact hk
  rw [List.drop_eq_getElem_cons hl]
  simp [hl]
theorem GetAt.byte (h : GetAt l n k a) (hk : k < n) : l.getD k 0 < 256 := by
  have hl : k < l.length := by rw [h.2.2.2.1]; exact hk
  rw [List.getD_eq_getElem?_getD, List.getElem?_eq_getElem hl]
  exact h.2.2.2.2.2 _ (List.getElem_mem hl)
theorem GetAt.short (h : GetAt l n k a) (hk : ¬ k < n) : num l 0 0 = (0, 0, 3) := by
  have : l.drop k = [] := List.drop_eq_nil_of_le (by rw [h.2.2.2.1]; omega)
  rw [h.2.2.2.2.1, this]
  rfl
theorem GetAt.bad (h : GetAt l n k a) (hk : k < n) (hb : (k = 9 ∧ 1 < l.getD k 0) ∨ (0 < k ∧ l.getD k 0 = 0)) : num l 0 0 = (0, 0, 4) := by
  rw [h.2.2.2.2.1, h.cons hk, num, if_pos hb]
theorem GetAt.last (h : GetAt l n k a) (hk : k < n) (hb : ¬ ((k = 9 ∧ 1 < l.getD k 0) ∨ (0 < k ∧ l.getD k 0 = 0))) (hc : l.getD k 0 < 128) :
    num l 0 0 = (a + l.getD k 0 % 128 * 2 ^ (7 * k), k + 1, 0) := by
  rw [h.2.2.2.2.1, h.cons hk, num, if_neg hb, if_pos hc]
theorem GetAt.fits (h : GetAt l n k a) (hb : ¬ (k = 9 ∧ 1 < l.getD k 0)) : l.getD k 0 % 128 * 2 ^ (7 * k) < 18446744073709551616 ∧ a < 18446744073709551616 := by
  have h9 := h.2.1
  have ha := h.2.2.1
  have hp : 2 ^ (7 * k) ≤ 2 ^ 63 := Nat.pow_le_pow_right (by decide) (by omega)
  have e63 : (2 : Nat) ^ 63 = 9223372036854775808 := by decide
  have e56 : (2 : Nat) ^ 56 = 72057594037927936 := by decide
  refine ⟨?_, by omega⟩
  by_cases hk : k = 9
  · subst hk
    have : l.getD 9 0 % 128 ≤ 1 := by omega
    have := Nat.mul_le_mul_right (2 ^ (7 * 9)) this
    omega
  · have hp2 : 2 ^ (7 * k) ≤ 2 ^ 56 := Nat.pow_le_pow_right (by decide) (by omega)
    have h1 : l.getD k 0 % 128 ≤ 127 := by omega
    have := Nat.mul_le_mul h1 hp2
    omega
theorem GetAt.next (h : GetAt l n k a) (hk : k < n) (hb : ¬ ((k = 9 ∧ 1 < l.getD k 0) ∨ (0 < k ∧ l.getD k 0 = 0))) (hc : ¬ l.getD k 0 < 128) :
    GetAt l n (k + 1) (a + l.getD k 0 % 128 * 2 ^ (7 * k)) := by
  have h9 := h.2.1
  have ha := h.2.2.1
  refine ⟨hk, by omega, ?_, h.2.2.2.1, ?_, h.2.2.2.2.2⟩
  · rw [pow_step]
    have h1 : l.getD k 0 % 128 ≤ 127 := by omega
    have := Nat.mul_le_mul_right (2 ^ (7 * k)) h1
    omega
  · rw [h.2.2.2.2.1, h.cons hk, num, if_neg hb, if_neg hc]
theorem GetAt.lay (h : GetAt l n k a) (hb : ¬ (k = 9 ∧ 1 < l.getD k 0)) {y : Nat} (hy : y = l.getD k 0 % 128) :
    bits .or .u64 (a : Int) (IntKind.u64.wrap ((y : Int) * 2 ^ (7 * k))) = ((a + l.getD k 0 % 128 * 2 ^ (7 * k) : Nat) : Int) := by
  subst hy
  obtain ⟨h1, h2⟩ := h.fits hb
  have e : IntKind.u64.wrap (((l.getD k 0 % 128 : Nat) : Int) * 2 ^ (7 * k)) = ((l.getD k 0 % 128 * 2 ^ (7 * k) : Nat) : Int) := by
    rw [show ((l.getD k 0 % 128 : Nat) : Int) * 2 ^ (7 * k) = ((l.getD k 0 % 128 * 2 ^ (7 * k) : Nat) : Int) from by rw [Int.natCast_mul, Int.natCast_pow]; rfl]
    rw [IntKind.wrap_u64]
    omega
  rw [e]
  exact u64_lay a _ k h.2.2.1 h1 h2
end

theorem ret3 {k1 k2 k3 : IntKind} {a b c a' b' c' : Int} (h1 : a = a') (h2 : b = b') (h3 : c = c') :
    Ending.returned (.tuple #[.int k1 a, .int k2 b, .int k3 c]) = .returned (.tuple #[.int k1 a', .int k2 b', .int k3 c']) := by rw [h1, h2, h3]
theorem ret2 {k1 k2 : IntKind} {a b a' b' : Int} (h1 : a = a') (h2 : b = b') :
    Ending.returned (.tuple #[.int k1 a, .int k2 b]) = .returned (.tuple #[.int k1 a', .int k2 b']) := by rw [h1, h2]

set_option maxHeartbeats 1000000 in
set_option maxRecDepth 100000 in
theorem get_any (A : Option Addr) (n c B : Nat) (l : List Nat) (w : World) (hl : Holds w B A n l) (hn : n ≤ 1099511627000) :
    Calls Tryd.prog 25 #[.slice A n c] w fun e w' => e = .returned (.tuple #[.int .u64 (num l 0 0).1, .int .i64 (num l 0 0).2.1, .int .i64 (num l 0 0).2.2]) ∧ w = w' := by
  have G0 := getAt_start hl.1 hl.2.1
  go_enter Tryd.func25, Tryd.ntmps25
  go_wp2
  go_step3
  go_wp2
  go_step3
  go_wp2
  go_loop [5, 6, 11] (fun v nn i => ∃ k a : Nat, GetAt l n k a ∧ v = .int .u64 a ∧ nn = .int .i64 0 ∧ i = .int .i64 k) (fun _ _ i => n - (intOf i).toNat)
  case atStart => exact ⟨0, 0, G0, rfl, rfl, rfl⟩
  case round =>
    obtain ⟨k, a, G, rfl, rfl, rfl⟩ := hrel
    have hk9 := G.le.2
    have hkn := G.le.1
    by_cases hlt : k < n
    · obtain ⟨b, off, rfl, _, hcell⟩ := hl.2.2 (by omega)
      obtain ⟨x, hx⟩ : ∃ x, x = l.getD k 0 := ⟨_, rfl⟩
      obtain ⟨y, hy⟩ : ∃ y, y = x % 128 := ⟨_, rfl⟩
      have hck : w.cell? ⟨b, off + k, none⟩ = some (.int .u8 (x : Int)) := by rw [hx]; exact hcell k hlt
      have hxs : x < 256 := by rw [hx]; exact G.byte hlt
      have hys : y < 128 := by omega
      have hand : bits .and .u8 (x : Int) 127 = (y : Int) := by rw [hy]; exact u8_low7 x hxs
      have Hx := hide hx
      have Hy := hide hy
      clear hx hy hcell
      go_wp2
      · have hv := G.bad hlt (by rw [← Hx.out]; omega)
        go_ret3
        exact ⟨ret3 (by rw [hv]; rfl) (by rw [hv]; rfl) (by rw [hv]; rfl), rfl⟩
      · have h0 := WalkArith.int_eq (show ((x : Int) == 0) = true by assumption)
        have hv := G.bad hlt (by rw [← Hx.out]; omega)
        go_ret3
        exact ⟨ret3 (by rw [hv]; rfl) (by rw [hv]; rfl) (by rw [hv]; rfl), rfl⟩
      · have h0 := WalkArith.int_ne (show ((x : Int) == 0) = false by assumption)
        have hb : ¬ ((k = 9 ∧ 1 < l.getD k 0) ∨ (0 < k ∧ l.getD k 0 = 0)) := by rw [← Hx.out]; omega
        have hv := G.last hlt hb (by rw [← Hx.out]; omega)
        go_ret3
        exact ⟨ret3 (by rw [hv]; exact G.lay (fun h => hb (.inl h)) (by rw [← Hx.out, Hy.out])) (by rw [hv]; show (_ : Int) = ((k + 1 : Nat) : Int); omega) (by rw [hv]; rfl), rfl⟩
      · have h0 := WalkArith.int_eq (show ((x : Int) == 0) = true by assumption)
        have hv := G.bad hlt (by rw [← Hx.out]; omega)
        go_ret3
        exact ⟨ret3 (by rw [hv]; rfl) (by rw [hv]; rfl) (by rw [hv]; rfl), rfl⟩
      · have h0 := WalkArith.int_ne (show ((x : Int) == 0) = false by assumption)
        have hb : ¬ ((k = 9 ∧ 1 < l.getD k 0) ∨ (0 < k ∧ l.getD k 0 = 0)) := by rw [← Hx.out]; omega
        have hv := G.last hlt hb (by rw [← Hx.out]; omega)
        go_ret3
        exact ⟨ret3 (by rw [hv]; exact G.lay (fun h => hb (.inl h)) (by rw [← Hx.out, Hy.out])) (by rw [hv]; rfl) (by rw [hv]; rfl), rfl⟩
      · have h0 := WalkArith.int_ne (show ((x : Int) == 0) = false by assumption)
        have hb : ¬ ((k = 9 ∧ 1 < l.getD k 0) ∨ (0 < k ∧ l.getD k 0 = 0)) := by rw [← Hx.out]; omega
        have hG := G.next hlt hb (by rw [← Hx.out]; omega)
        have hL := G.lay (fun h => hb (.inl h)) (show y = l.getD k 0 % 128 by rw [← Hx.out, Hy.out])
        go_round
        case rel => exact ⟨k + 1, _, hG, by rw [hL], rfl, by go_num⟩
        case measure => simp [intOf]; omega
      · have hb : ¬ ((k = 9 ∧ 1 < l.getD k 0) ∨ (0 < k ∧ l.getD k 0 = 0)) := by rw [← Hx.out]; omega
        have hv := G.last hlt hb (by rw [← Hx.out]; omega)
        go_ret3
        exact ⟨ret3 (by rw [hv]; exact G.lay (fun h => hb (.inl h)) (by rw [← Hx.out, Hy.out])) (by rw [hv]; rfl) (by rw [hv]; rfl), rfl⟩
      · have hb : ¬ ((k = 9 ∧ 1 < l.getD k 0) ∨ (0 < k ∧ l.getD k 0 = 0)) := by rw [← Hx.out]; omega
        have hG := G.next hlt hb (by rw [← Hx.out]; omega)
        have hL := G.lay (fun h => hb (.inl h)) (show y = l.getD k 0 % 128 by rw [← Hx.out, Hy.out])
        go_round
        case rel => exact ⟨k + 1, _, hG, by rw [hL], rfl, by go_num⟩
        case measure => simp [intOf]; omega
    · go_wp2
      have hv := G.short hlt
      go_ret3
      exact ⟨ret3 (by rw [hv]; rfl) (by rw [hv]; rfl) (by rw [hv]; rfl), rfl⟩

theorem getuint_any (A : Option Addr) (n c B : Nat) (l : List Nat) (w : World) (hl : Holds w B A n l) (hn : n ≤ 1099511627000) :
    Calls Tryd.prog 23 #[.slice A n c] w fun e w' => e = .returned (.tuple #[.int .u64 (num l 0 0).1, .int .i64 (num l 0 0).2.1]) ∧ w = w' := by
  go_enter Tryd.func23, Tryd.ntmps23
  go_wp2_with (go_at_call 25; refine (get_any A n c B l _ hl hn).mono ?_; rintro e w1 ⟨rfl, rfl⟩)
  go_ret2
  exact ⟨rfl, rfl⟩
end Go.Proofs.YtjbnilippcdgeaaDoor
