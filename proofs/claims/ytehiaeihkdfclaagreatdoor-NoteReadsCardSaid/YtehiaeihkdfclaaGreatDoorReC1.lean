/- Texts merged: RefNum, RefNumb, RefRead, Find, RefFind, RefVal, ReadQ, ReadQ2, Build, RefRDef, RefROp, RefRow, RefRow2, RefDef, RefOp, RefMay, RefGood. -/
import Derived.Test.YtehiaeihkdfclaaGreatDoorBaseN1
import Derived.Test.YtehiaeihkdfclaaGreatDoorBaseN2
import Derived.Test.YtehiaeihkdfclaaGreatDoorBaseN3
import Derived.Test.YtehiaeihkdfclaaGreatDoorBaseN4
import Derived.Test.YtehiaeihkdfclaaGreatDoorBaseN5
import Derived.Handy
import Derived.Laws.Tables
import Derived.Laws.AppendOwn
/- The walks over the document's own numbers: droverref01.Uint, GetUint, Zig, Zag. -/
namespace Go.Proofs.YtehiaeihkdfclaaGreatDoor
open Go.RowKit

set_option maxHeartbeats 1000000 in
theorem refuint_any (A : Option Addr) (n c V : Nat) (l : List Nat) (B : Nat) (w : World) (hV : V < 18446744073709551616) (hn : n ≤ 1099511627000) (hl : Holds w B A n l) (hB : B ≤ w.heap.size) :
    Calls Tryz.prog 73 #[.slice A n c, .int .u64 V] w (NewBytes w (l ++ enc V)) := by
  obtain ⟨i0, hi, hz0, hz1, hz2⟩ := info_parts Tryz.infoU8
  have HV := hide hV
  have Hl := hide hl
  clear hV hl
  go_enter Tryz.func73, Tryz.ntmps73
  go_wp2_with (at_builtin; refine wpList_append_bytes _ rfl (.tmp 7) (.tmp 8) 38 rfl w.heap.size 5 i0 (.int .u8 0) Tryz.underlying38 hi hz0 hz1 hz2 rfl _ 0 [] rfl (World.ownsRow_lit w #[] 0 (Nat.le_refl _) (by simp [maxLen]) rfl) B A n c l rfl (Hl.out.below ((Below.refl _ _).alloc hB _)) (by omega) (by simp) ?_; intro v2 w2 o2 g2)
  have l2 : Below w.heap.size w w2 := ((Below.refl _ _).alloc (Nat.le_refl _) _).trans (g2.below (World.ownsRow_lit w #[] 0 (Nat.le_refl _) (by simp [maxLen]) rfl) (by simp))
  have o2' : w2.ownsRow w.heap.size 5 1 v2 n (bvs (l ++ [])) := by simpa using o2
  clear o2 g2
  go_loopw [5, 1] (fun b vv wr => ∃ (f v m : Nat) (k : List Nat), PutAt V f v m n k ∧ vv = .int .u64 v ∧ wr.ownsRow w.heap.size 5 1 b m (bvs (l ++ k)) ∧ Below w.heap.size w wr) (fun _ vv _ => (intOf vv).toNat)
  case atStart => exact ⟨9, V, n, [], putAt_start HV.out n, rfl, o2', l2⟩
  case round =>
    obtain ⟨f, v, m, k, hput, rfl, hown, hbel⟩ := hrel
    have hmm := hput.room (by omega)
    obtain ⟨g, hg⟩ : ∃ g, g = v % 128 := ⟨_, rfl⟩
    obtain ⟨c, hc⟩ : ∃ c, c = g + 128 := ⟨_, rfl⟩
    have hrem : (v : Int) % 128 = (g : Int) := by omega
    obtain ⟨q, hq⟩ : ∃ q, q = v / 128 := ⟨_, rfl⟩
    have hquo : IntKind.u64.wrap ((v : Int) / 128) = (q : Int) := by
      have := hput.1
      rw [IntKind.wrap_u64]
      omega
    have Hq := hide hq
    have hadd : (g : Int) + 128 = (c : Int) := by omega
    have hgs : g < 128 := by omega
    have hcs : c < 256 := by omega
    have hsz := hbel.size
    have Hg := hide hg
    have Hc := hide hc
    clear hg hc hq o2' l2
    by_cases h : q = 0
    · have ht : ((q : Int) == 0) = true := by simp; omega
      have Hz : Hid (v / 128 = 0) := by show _ = _; rw [← Hq.out]; exact h
      clear h
      go_wp2_with (at_builtin; refine wpList_append_own_at _ rfl (.tmp 17) (.tmp 19) 38 rfl w.heap.size 5 i0 _ 1 1 Tryz.underlying38 hi hz0 hz1 hz2 rfl (by omega) _ m (bvs (l ++ k)) rfl (hown.alloc _) ⟨wr.heap.size, 0, none⟩ 1 1 (bvs [g]) rfl rfl (cell_one_new _ _ _) (bvs_cell _) (by simp only [maxLen]; omega) (by omega) (by simp; omega) ?_; intro v1 w1 hown1 hg1 _ hat1)
      go_ret
      refine newBytes_of (n := m + 1) ?_ (fun y hy => ?_) ((hbel.alloc (by omega) _).trans (Went.below (.of_at hg1 hat1) (hown.alloc _) (by simp; omega)))
      · rw [hput.last Hz.out, ← Hg.out, ← List.append_assoc, bvs_append]
        exact hown1
      · rcases List.mem_append.1 hy with h | h
        · exact Hl.out.2.1 y h
        · exact enc_small V y h
    · have ht : ((q : Int) == 0) = false := by simp; omega
      have Hz : Hid (¬ v / 128 = 0) := by show ¬ _; rw [← Hq.out]; exact h
      clear h
      go_wp2_with (at_builtin; refine wpList_append_own_at _ rfl (.tmp 21) (.tmp 24) 38 rfl w.heap.size 5 i0 _ 1 1 Tryz.underlying38 hi hz0 hz1 hz2 rfl (by omega) _ m (bvs (l ++ k)) rfl (hown.alloc _) ⟨wr.heap.size, 0, none⟩ 1 1 (bvs [c]) rfl rfl (cell_one_new _ _ _) (bvs_cell _) (by simp only [maxLen]; omega) (by omega) (by simp; omega) ?_; intro v1 w1 hown1 hg1 _ hat1)
      obtain ⟨f', hnext⟩ := hput.next Hz.out
      rw [← Hg.out, ← Hc.out] at hnext
      go_roundw
      case rel =>
        refine ⟨f', v / 128, m + 1, k ++ [c], hnext, by rw [Hq.out], ?_, (hbel.alloc (by omega) _).trans (Went.below (.of_at hg1 hat1) (hown.alloc _) (by simp; omega))⟩
        rw [← List.append_assoc, bvs_append]
        exact hown1
      case measure =>
        have := Hz.out
        have := Hq.out
        simp [intOf]
        omega

/-- Where the document's loop stands. -/
def RefAt (l : List Nat) (n k a : Nat) : Prop := k ≤ n ∧ k ≤ 10 ∧ l.length = n ∧ (k ≤ 9 → GetAt l n k a) ∧ (k = 10 → num l 0 0 = (0, 0, 4))

theorem GetAt.add {l : List Nat} {n k a : Nat} (h : GetAt l n k a) (hb : ¬ (k = 9 ∧ 1 < l.getD k 0 % 128)) {y : Nat} (hy : y = l.getD k 0 % 128) :
    IntKind.u64.wrap ((a : Int) + IntKind.u64.wrap ((y : Int) * 2 ^ (7 * k))) = ((a + l.getD k 0 % 128 * 2 ^ (7 * k) : Nat) : Int) := by
  subst hy
  have h9 := h.2.1
  have ha := h.2.2.1
  have e63 : (2 : Nat) ^ 63 = 9223372036854775808 := by decide
  have e56 : (2 : Nat) ^ 56 = 72057594037927936 := by decide
  have hp : 2 ^ (7 * k) ≤ 2 ^ 63 := Nat.pow_le_pow_right (by decide) (by omega)
  have hm : l.getD k 0 % 128 * 2 ^ (7 * k) ≤ 9223372036854775808 := by
    by_cases hk : k = 9
    · subst hk
      have : l.getD 9 0 % 128 ≤ 1 := by omega
      have := Nat.mul_le_mul_right (2 ^ (7 * 9)) this
      omega
    · have hp2 : 2 ^ (7 * k) ≤ 2 ^ 56 := Nat.pow_le_pow_right (by decide) (by omega)
      have h1 : l.getD k 0 % 128 ≤ 127 := by omega
      have := Nat.mul_le_mul h1 hp2
      omega
  rw [show ((l.getD k 0 % 128 : Nat) : Int) * 2 ^ (7 * k) = ((l.getD k 0 % 128 * 2 ^ (7 * k) : Nat) : Int) from by rw [Int.natCast_mul, Int.natCast_pow]; rfl]
  rw [IntKind.wrap_u64, IntKind.wrap_u64]
  omega

theorem GetAt.add9 {l : List Nat} {n k a : Nat} (h : GetAt l n k a) (hk : k = 9) {y : Nat} (hy : y = l.getD k 0 % 128) (hy1 : y ≤ 1) :
    IntKind.u64.wrap ((a : Int) + (y : Int) * 9223372036854775808) = ((a + l.getD k 0 % 128 * 2 ^ (7 * k) : Nat) : Int) := by
  have ha := h.2.2.1
  subst hk
  have e63 : (2 : Nat) ^ (7 * 9) = 9223372036854775808 := by decide
  rw [e63] at ha ⊢
  rw [← hy, IntKind.wrap_u64]
  omega

set_option maxHeartbeats 1000000 in
set_option maxRecDepth 100000 in
theorem refgetuint_any (A : Option Addr) (n c B : Nat) (l : List Nat) (w : World) (hl : Holds w B A n l) (hn : n ≤ 1099511627000) :
    Calls Tryz.prog 87 #[.slice A n c] w fun e w' => e = .returned (.tuple #[.int .u64 (num l 0 0).1, .int .i64 (num l 0 0).2.1]) ∧ w = w' := by
  have G0 : RefAt l n 0 0 := ⟨by omega, by omega, hl.1, fun _ => getAt_start hl.1 hl.2.1, fun h => by omega⟩
  go_enter Tryz.func87, Tryz.ntmps87
  go_wp2
  go_loop [4, 5] (fun v i => ∃ k a : Nat, RefAt l n k a ∧ v = .int .u64 a ∧ i = .int .i64 k) (fun _ i => n - (intOf i).toNat)
  case atStart => exact ⟨0, 0, G0, rfl, rfl⟩
  case round =>
    obtain ⟨k, a, R, rfl, rfl⟩ := hrel
    have hk10 := R.2.1
    have hkn := R.1
    by_cases hlt : k < n
    · by_cases h10 : k < 10
      · have G := R.2.2.2.1 (by omega)
        obtain ⟨b, off, rfl, _, hcell⟩ := hl.2.2 (by omega)
        obtain ⟨x, hx⟩ : ∃ x, x = l.getD k 0 := ⟨_, rfl⟩
        obtain ⟨y, hy⟩ : ∃ y, y = x % 128 := ⟨_, rfl⟩
        have hck : w.cell? ⟨b, off + k, none⟩ = some (.int .u8 (x : Int)) := by rw [hx]; exact hcell k hlt
        have hxs : x < 256 := by rw [hx]; exact G.byte hlt
        have hys : y < 128 := by omega
        have hrem : (x : Int) % 128 = (y : Int) := by omega
        have Hx := hide hx
        have Hy := hide hy
        have HR := hide R
        clear hx hy hcell R
        by_cases h9 : k = 9
        · have hck9 : w.cell? ⟨b, off + 9, none⟩ = some (.int .u8 (x : Int)) := by rw [h9] at hck; exact hck
          have H9 := hide h9
          have hk9 : 9 ≤ k := by omega
          clear h9
          go_wp2
          · have hv := G.bad hlt (by rw [← Hx.out]; have := H9.out; have := Hy.out; omega)
            go_ret2
            exact ⟨ret2 (by rw [hv]; rfl) (by rw [hv]; rfl), rfl⟩
          · have h0 := WalkArith.int_eq (show ((x : Int) == 0) = true by assumption)
            have hv := G.bad hlt (by rw [← Hx.out]; omega)
            go_ret2
            exact ⟨ret2 (by rw [hv]; rfl) (by rw [hv]; rfl), rfl⟩
          · have h0 := WalkArith.int_ne (show ((x : Int) == 0) = false by assumption)
            have hb : ¬ ((k = 9 ∧ 1 < l.getD k 0) ∨ (0 < k ∧ l.getD k 0 = 0)) := by rw [← Hx.out]; have := Hy.out; omega
            have hv := G.last hlt hb (by rw [← Hx.out]; omega)
            go_ret2
            exact ⟨ret2 (by rw [hv]; exact G.add9 H9.out (by rw [← Hx.out, Hy.out]) (by omega)) (by rw [hv]; show (_ : Int) = ((k + 1 : Nat) : Int); have := H9.out; omega), rfl⟩
          · have hv := G.bad hlt (by rw [← Hx.out]; have := H9.out; omega)
            have hL := G.add9 H9.out (show y = l.getD k 0 % 128 by rw [← Hx.out, Hy.out]) (by omega)
            have hR : RefAt l n (k + 1) (a + l.getD k 0 % 128 * 2 ^ (7 * k)) := ⟨by omega, by omega, HR.out.2.2.1, fun h => by omega, fun _ => hv⟩
            go_round
            case rel => exact ⟨k + 1, _, hR, by rw [hL], by have := H9.out; go_num⟩
            case measure => have := H9.out; simp [intOf]; omega
        · go_wp2
          · have h0 := WalkArith.int_eq (show ((x : Int) == 0) = true by assumption)
            have hv := G.bad hlt (by rw [← Hx.out]; omega)
            go_ret2
            exact ⟨ret2 (by rw [hv]; rfl) (by rw [hv]; rfl), rfl⟩
          · have h0 := WalkArith.int_ne (show ((x : Int) == 0) = false by assumption)
            have hb : ¬ ((k = 9 ∧ 1 < l.getD k 0) ∨ (0 < k ∧ l.getD k 0 = 0)) := by rw [← Hx.out]; omega
            have hv := G.last hlt hb (by rw [← Hx.out]; omega)
            go_ret2
            exact ⟨ret2 (by rw [hv]; exact G.add (by omega) (by rw [← Hx.out, Hy.out])) (by rw [hv]; rfl), rfl⟩
          · have hb : ¬ ((k = 9 ∧ 1 < l.getD k 0) ∨ (0 < k ∧ l.getD k 0 = 0)) := by rw [← Hx.out]; omega
            have hv := G.last hlt hb (by rw [← Hx.out]; omega)
            go_ret2
            exact ⟨ret2 (by rw [hv]; exact G.add (by omega) (by rw [← Hx.out, Hy.out])) (by rw [hv]; rfl), rfl⟩
          · have hb : ¬ ((k = 9 ∧ 1 < l.getD k 0) ∨ (0 < k ∧ l.getD k 0 = 0)) := by rw [← Hx.out]; omega
            have hG := G.next hlt hb (by rw [← Hx.out]; omega)
            have hL := G.add (by omega) (show y = l.getD k 0 % 128 by rw [← Hx.out, Hy.out])
            have hR : RefAt l n (k + 1) (a + l.getD k 0 % 128 * 2 ^ (7 * k)) := ⟨by omega, by omega, HR.out.2.2.1, fun _ => hG, fun h => by omega⟩
            go_round
            case rel => exact ⟨k + 1, _, hR, by rw [hL], by go_num⟩
            case measure => simp [intOf]; omega
      · have hv := R.2.2.2.2 (by omega)
        have HR := hide R
        have Hv := hide hv
        clear R hv
        go_wp2
        go_ret2
        exact ⟨ret2 (by rw [Hv.out]; rfl) (by rw [Hv.out]; rfl), rfl⟩
    · have hv : num l 0 0 = (0, 0, 3) ∨ num l 0 0 = (0, 0, 4) := by
        by_cases h10 : k = 10
        · exact .inr (R.2.2.2.2 h10)
        · exact .inl ((R.2.2.2.1 (by omega)).short hlt)
      have Hv := hide hv
      clear hv R
      go_wp2
      go_ret2
      exact ⟨ret2 (by rcases Hv.out with h | h <;> rw [h] <;> rfl) (by rcases Hv.out with h | h <;> rw [h] <;> rfl), rfl⟩

theorem refzig_neg (n : Int) (h1 : -9223372036854775808 ≤ n) (h : n < 0) : IntKind.u64.wrap (IntKind.u64.wrap (IntKind.u64.wrap (wrap64 (-wrap64 (n + 1))) * 2) + 1) = ((zig n : Nat) : Int) := by
  have e1 : wrap64 (n + 1) = n + 1 := by unfold wrap64; omega
  have e2 : wrap64 (-(n + 1)) = -(n + 1) := by unfold wrap64; omega
  rw [e1, e2, IntKind.wrap_u64, IntKind.wrap_u64, IntKind.wrap_u64]
  unfold zig
  rw [if_pos h]
  omega
theorem refzag_odd (v : Nat) (h : v < 18446744073709551616) (hz : v % 2 = 1) : wrap64 (wrap64 (-wrap64 (IntKind.u64.wrap ((v : Int) / 2))) - 1) = zag v := by
  have e0 : IntKind.u64.wrap ((v : Int) / 2) = (v : Int) / 2 := by rw [IntKind.wrap_u64]; omega
  rw [e0, half v h]
  have e2 : wrap64 (-((v / 2 : Nat) : Int)) = -((v / 2 : Nat) : Int) := by unfold wrap64; omega
  rw [e2]
  unfold zag
  rw [if_pos hz]
  unfold wrap64
  omega
theorem refzag_even (v : Nat) (h : v < 18446744073709551616) (hz : ¬ v % 2 = 1) : wrap64 (IntKind.u64.wrap ((v : Int) / 2)) = zag v := by
  have e0 : IntKind.u64.wrap ((v : Int) / 2) = (v : Int) / 2 := by rw [IntKind.wrap_u64]; omega
  rw [e0, half v h]
  unfold zag
  rw [if_neg hz]

set_option maxHeartbeats 400000 in
theorem refzig_any (n : Int) (w : World) (h1 : -9223372036854775808 ≤ n) (h2 : n < 9223372036854775808) :
    Calls Tryz.prog 58 #[.int .i64 n] w fun e w' => e = .returned (.int .u64 (zig n)) ∧ w = w' := by
  have H1 := hide h1
  have H2 := hide h2
  by_cases hneg : n < 0
  · have H := hide hneg
    clear h1 h2
    go_enter Tryz.func58, Tryz.ntmps58
    go_wp2
    go_ret
    exact ⟨ret_int (refzig_neg n H1.out H.out), rfl⟩
  · have H := hide hneg
    clear h1 h2
    go_enter Tryz.func58, Tryz.ntmps58
    go_wp2
    go_ret
    exact ⟨ret_int (zig_pos n (by have := H.out; omega) H2.out), rfl⟩

set_option maxHeartbeats 400000 in
theorem refzag_any (v : Nat) (w : World) (h : v < 18446744073709551616) :
    Calls Tryz.prog 52 #[.int .u64 v] w fun e w' => e = .returned (.int .i64 (zag v)) ∧ w = w' := by
  have H := hide h
  clear h
  by_cases hz : v % 2 = 1
  · have ht : ((v : Int) % 2 == 1) = true := by simp; omega
    have Hz := hide hz
    clear hz
    go_enter Tryz.func52, Tryz.ntmps52
    go_wp2
    go_ret
    exact ⟨ret_int (refzag_odd v H.out Hz.out), rfl⟩
  · have ht : ((v : Int) % 2 == 1) = false := by simp; omega
    have Hz := hide hz
    clear hz
    go_enter Tryz.func52, Tryz.ntmps52
    go_wp2
    go_ret
    exact ⟨ret_int (refzag_even v H.out Hz.out), rfl⟩
end Go.Proofs.YtehiaeihkdfclaaGreatDoor
/- The walks over droverref01.Open and number. -/
namespace Go.Proofs.YtehiaeihkdfclaaGreatDoor
open Go.RowKit

/-- Do bytes end within a number? -/
def openB (l : List Nat) : Bool := l.all (fun x => decide (128 ≤ x)) && decide (l.length ≤ 9)
theorem num_three : ∀ (l : List Nat) (i a : Nat), i ≤ 9 → ((num l i a).2.2 = 3 ↔ (∀ x ∈ l, 128 ≤ x) ∧ l.length + i ≤ 9)
  | [], i, a, h => by simp [num, h]
  | c :: r, i, a, h => by
    unfold num
    by_cases h1 : (i = 9 ∧ 1 < c) ∨ (0 < i ∧ c = 0)
    · rw [if_pos h1]
      constructor
      · intro h2; cases h2
      · rintro ⟨h2, h3⟩
        have := h2 c (by simp)
        simp at h3
        omega
    · rw [if_neg h1]
      by_cases h2 : c < 128
      · rw [if_pos h2]
        constructor
        · intro h3; cases h3
        · rintro ⟨h3, _⟩
          have := h3 c (by simp)
          omega
      · rw [if_neg h2]
        have h9 : i + 1 ≤ 9 := by omega
        rw [num_three r (i + 1) _ h9]
        simp only [List.mem_cons, forall_eq_or_imp, List.length_cons]
        constructor
        · rintro ⟨h3, h4⟩; exact ⟨⟨by omega, h3⟩, by omega⟩
        · rintro ⟨⟨_, h3⟩, h4⟩; exact ⟨h3, by omega⟩
theorem num_cases : ∀ (l : List Nat) (i a : Nat), ((num l i a).2.2 = 0 ∧ 0 < (num l i a).2.1) ∨ num l i a = (0, 0, 3) ∨ num l i a = (0, 0, 4)
  | [], i, a => by simp [num]
  | c :: r, i, a => by
    unfold num
    split
    · simp
    · split
      · simp
      · exact num_cases r (i + 1) _
theorem num_open (l : List Nat) : (num l 0 0).2.2 = 3 ↔ openB l = true := by
  rw [num_three l 0 0 (by omega)]
  simp [openB]

set_option maxHeartbeats 800000 in
set_option maxRecDepth 100000 in
theorem ropen_any (A : Option Addr) (n c B : Nat) (l : List Nat) (w : World) (hl : Holds w B A n l) (hn : n ≤ 1099511627000) :
    Calls Tryz.prog 88 #[.slice A n c] w fun e w' => e = .returned (.bool (openB l)) ∧ w' = w := by
  have H := hide hl
  clear hl
  go_enter Tryz.func88, Tryz.ntmps88
  go_wp2
  go_loop [7] (fun i => ∃ q : Nat, q ≤ n ∧ i = .int .i64 (q : Int) ∧ (l.take q).all (fun x => decide (128 ≤ x)) = true) (fun i => n - (intOf i).toNat)
  case atStart => exact ⟨0, by omega, rfl, rfl⟩
  case round =>
    obtain ⟨q, hq, rfl, hall⟩ := hrel
    have HA := hide hall
    clear hall
    by_cases hlt : q < n
    · obtain ⟨b, off, rfl, _, hcs⟩ := H.out.2.2 (by omega)
      have hc := hcs q hlt
      have hlen : q < l.length := by rw [H.out.1]; exact hlt
      have hx : l[q]? = some (l.getD q 0) := by simp [List.getD, hlen]
      have hs : l.getD q 0 < 256 := H.out.2.1 _ (List.mem_of_getElem? hx)
      clear hcs hlen
      generalize l.getD q 0 = x at hc hx hs
      have HX := hide hx
      clear hx
      by_cases h1 : x < 128
      · have hno : false = openB l := by
          symm
          rw [Bool.eq_false_iff]
          intro h
          unfold openB at h
          rw [Bool.and_eq_true, List.all_eq_true] at h
          have := h.1 x (List.mem_of_getElem? HX.out)
          simp at this
          omega
        have HNO := hide hno
        clear hno
        go_wp2
        go_ret
        exact ⟨ret_bool HNO.out, rfl⟩
      · have hnx : (l.take (q + 1)).all (fun x => decide (128 ≤ x)) = true := by
          rw [List.take_add_one, HX.out, List.all_append, HA.out]
          simp
          omega
        have HNX := hide hnx
        clear hnx
        go_wp2
        go_round
        case rel => exact ⟨q + 1, by omega, by go_num, HNX.out⟩
        case measure => simp [intOf]; omega
    · have hall : l.all (fun x => decide (128 ≤ x)) = true := by
        have h1 := HA.out
        rwa [List.take_of_length_le (by have := H.out.1; omega)] at h1
      have HL : Hid (decide (n ≤ 9) = openB l) := by show _ = _; unfold openB; rw [hall, H.out.1]; rfl
      clear hall
      by_cases h9 : n ≤ 9
      · go_wp2
        go_ret
        exact ⟨ret_bool (by rw [← HL.out, decide_eq_true h9]; simp; omega), rfl⟩
      · go_wp2
        go_ret
        exact ⟨ret_bool (by rw [← HL.out, decide_eq_false h9]; simp; omega), rfl⟩

set_option maxHeartbeats 800000 in
set_option maxRecDepth 100000 in
theorem rnumber_any (A : Option Addr) (n c B : Nat) (l : List Nat) (w : World) (hl : Holds w B A n l) (hn : n ≤ 1099511627000) :
    Calls Tryz.prog 89 #[.slice A n c] w fun e w' => e = .returned (.tuple #[.int .u64 (num l 0 0).1, .int .i64 (num l 0 0).2.1, .int .i64 (num l 0 0).2.2]) ∧ w = w' := by
  obtain ⟨⟨v, k, er⟩, hq⟩ : ∃ q, num l 0 0 = q := ⟨_, rfl⟩
  have C := refgetuint_any A n c B l w hl hn
  have D := ropen_any A n c B l w hl hn
  have hcs := num_cases l 0 0
  have ho := num_open l
  rw [hq] at C hcs ho
  simp only at C hcs ho
  have HC := hide C
  have HQ := hide hq
  rw [hq]
  clear C hl hq
  rcases hcs with ⟨rfl, hk⟩ | hcs | hcs
  · have HD := hide D
    clear D ho
    go_enter Tryz.func89, Tryz.ntmps89
    go_wp2_with (fail)
    refine HC.out.mono ?_
    rintro e w1 ⟨rfl, rfl⟩
    go_wp2
    go_ret3
    exact ⟨rfl, rfl⟩
  · obtain ⟨rfl, rfl, rfl⟩ : v = 0 ∧ k = 0 ∧ er = 3 := by simpa using hcs
    rw [ho.1 rfl] at D
    have HD := hide D
    clear D ho hcs
    go_enter Tryz.func89, Tryz.ntmps89
    go_wp2_with (fail)
    refine HC.out.mono ?_
    rintro e w1 ⟨rfl, rfl⟩
    go_wp2_with (fail)
    refine HD.out.mono ?_
    rintro e w1 ⟨rfl, rfl⟩
    go_wp2
    go_ret3
    exact ⟨rfl, rfl⟩
  · obtain ⟨rfl, rfl, rfl⟩ : v = 0 ∧ k = 0 ∧ er = 4 := by simpa using hcs
    have hf : openB l = false := by
      rw [Bool.eq_false_iff]
      intro h
      have := ho.2 h
      omega
    rw [hf] at D
    have HD := hide D
    clear D ho hcs hf
    go_enter Tryz.func89, Tryz.ntmps89
    go_wp2_with (fail)
    refine HC.out.mono ?_
    rintro e w1 ⟨rfl, rfl⟩
    go_wp2_with (fail)
    refine HD.out.mono ?_
    rintro e w1 ⟨rfl, rfl⟩
    go_wp2
    go_ret3
    exact ⟨rfl, rfl⟩
end Go.Proofs.YtehiaeihkdfclaaGreatDoor
/- The walk over droverref01.Read: the fields of bytes, as the document reads them. -/
namespace Go.Proofs.YtehiaeihkdfclaaGreatDoor
open Go.RowKit

/-- What the document's Read tells. -/
def RReadIs (w : World) (q : Nat × List PF) (e : Ending) (w' : World) : Prop :=
  ∃ A n c fs, e = .returned (.tuple #[.slice A n c, .int .i64 (q.1 : Nat)]) ∧ fs.map Fd.pf = q.2 ∧ FHolds w' w'.heap.size A n fs ∧ n ≤ c ∧ Below w.heap.size w w'
theorem Tryz.infoRd : (Tryz.prog.info? 92).map (fun i => (i.zero, i.size, i.bytes)) = some (some (.agg #[.int .i64 0, .bool false, .int .u64 0, .slice none 0 0]), 4, 48) := by kernel_rfl
def RReadAt (w : World) (n : Nat) (l : List Nat) (b v : Value) (wr : World) : Prop :=
  ∃ A' n' c' done rest, b = .slice A' n' c' ∧ n' ≤ c' ∧ Holds wr w.heap.size A' n' rest ∧ readOn (done.map Fd.pf) (pread rest) = pread l ∧
    wr.ownsRow w.heap.size 92 4 v done.length (fcells done) ∧ (∀ f ∈ done, FdOwn wr w.heap.size f) ∧ done.length + n' ≤ n ∧ Below w.heap.size w wr
theorem rnumber_is (A : Option Addr) (n c B : Nat) (l : List Nat) (x k y : Nat) (w : World) (hl : Holds w B A n l) (hn : n ≤ 1099511627000) (h : num l 0 0 = (x, k, y)) :
    Calls Tryz.prog 89 #[.slice A n c] w fun e w' => e = .returned (.tuple #[.int .u64 x, .int .i64 k, .int .i64 y]) ∧ w = w' :=
  (rnumber_any A n c B l w hl hn).mono fun e w' ⟨he, hw⟩ => ⟨by rw [he, h], hw⟩
theorem rread_nil {w : World} {l : List Nat} {er : Nat} (h : pread l = (er, [])) {w' : World} (hb : Below w.heap.size w w') : RReadIs w (pread l) (.returned (.tuple #[.slice none 0 0, .int .i64 (er : Int)])) w' :=
  ⟨none, 0, 0, [], by rw [h], by rw [h]; rfl, ⟨rfl, by simp, fun h => by omega⟩, Nat.le_refl _, hb⟩

/-- An empty literal's row. -/
theorem lit0 (W : World) {b : Nat} (hb : W.heap.size = b) : (W.alloc (.cells #[] 5 (0, 0))).ownsRow b 5 1 (.slice (some ⟨b, 0, none⟩) 0 0) 0 [] := by
  subst hb
  exact World.ownsRow_lit W #[] 0 (Nat.le_refl _) (by simp [maxLen]) rfl
/-- The same with bounds of 64 bits without sign. -/
theorem cut_to_u (A : Option Addr) (n c k : Nat) (hc : k ≤ c) : ∃ A' : Option Addr, (¬ c = 0 → A' = A.map (·.add 0)) ∧
    ∀ w, (Instr.slice 38 (.slice A n c) none (some (.int .u64 (k : Int))) none).run Tryz.prog w = .ok (.slice A' k c) w := by
  refine ⟨if c = 0 then A else A.map (·.add 0), fun h => by rw [if_neg h], fun w => ?_⟩
  rw [run_slice_h w _ _ _ _ sliceU8 .u64 _ (by omega) (by omega), elemU8, sizeU8]
  cases A with
  | none => simp [Result.andThen, sliced]
  | some a =>
    by_cases h : c = 0
    · subst h
      simp [Result.andThen, sliced]
    · simp [Result.andThen, sliced, h]
theorem cut_from_u (A : Option Addr) (n c k : Nat) (hk : k ≤ n) : ∃ A' : Option Addr, (¬ c = k → A' = A.map (·.add k)) ∧
    ∀ w, (Instr.slice 38 (.slice A n c) (some (.int .u64 (k : Int))) none none).run Tryz.prog w = .ok (.slice A' (n - k) (c - k)) w := by
  refine ⟨if c = k then A else A.map (·.add k), fun h => by rw [if_neg h], fun w => ?_⟩
  rw [run_slice_l w _ _ _ _ sliceU8 .u64 _ (by omega) (by omega), elemU8, sizeU8]
  cases A with
  | none => simp [Result.andThen, sliced]
  | some a =>
    by_cases h : c = k
    · subst h
      simp [Result.andThen, sliced]
    · simp [Result.andThen, sliced, h]

set_option maxHeartbeats 4000000 in
set_option maxRecDepth 100000 in
theorem rread_any (A : Option Addr) (n c : Nat) (l : List Nat) (w : World) (hl : Holds w w.heap.size A n l) (hn : n ≤ 1000000) (hc : n ≤ c) :
    Calls Tryz.prog 47 #[.slice A n c] w (RReadIs w (pread l)) := by
  obtain ⟨i0, hi, hz0, hz1, hz2⟩ := info_parts Tryz.infoRd
  obtain ⟨j0, hj, hy0, hy1, hy2⟩ := info_parts Tryz.infoU8
  have H0 : Hid (RReadAt w n l (.slice A n c) (.slice none 0 0) w) := ⟨A, n, c, [], l, rfl, hc, hl, (readOn_start l).symm, by simpa [fcells] using World.ownsRow_nil _ _ _ _, by simp, by simp, Below.refl _ _⟩
  clear hl
  go_enter Tryz.func47, Tryz.ntmps47
  go_wp2
  go_loopw [0, 4] (fun b v wr => RReadAt w n l b v wr) (fun b _ _ => lenV b)
  case atStart => exact H0.out
  case round =>
    obtain ⟨A1, n1, c1, done, rest, rfl, hc1, hh, hread, hown, hoks, hcnt, hbel⟩ := hrel
    have HH := hide hh
    have HR := hide hread
    have Hown := hide hown
    have Hoks := hide hoks
    have HBL := hide hbel
    have hsz := hbel.size
    clear hh hread hown hoks H0 hbel
    by_cases hlt : 0 < n1
    · have hne : rest ≠ [] := by
        intro h
        have := HH.out.1
        rw [h] at this
        simp at this
        omega
      have Hne := hide hne
      clear hne
      obtain ⟨⟨K, m, e1⟩, hnum⟩ : ∃ q, num rest 0 0 = q := ⟨_, rfl⟩
      have HN := hide hnum
      by_cases h1 : e1 = 0
      · subst h1
        obtain ⟨q1, _, q3⟩ := num_ok HH.out.2.1 hnum
        have hm : m ≤ n1 := by
          have := (num_bound rest 0 0).1
          rw [hnum] at this
          have := HH.out.1
          simp only at *
          omega
        have hm1 : 1 ≤ m := by rw [q1]; exact (enc_len K).1
        obtain ⟨h, hhk⟩ : ∃ h, h = K / 2 := ⟨_, rfl⟩
        have hq : (K : Int) / 2 = (h : Int) := by omega
        have hh0 : h < 9223372036854775808 := by omega
        have HK := hide hhk
        have Q3 := hide q3
        clear hnum hhk q1 q3
        by_cases h2 : h < 1 ∨ 1000 < h
        · have hr := pfirst_2 HN.out (by rw [← HK.out]; exact h2)
          have hpr := hide (readOn_err HH.out.2.1 (done.map Fd.pf) Hne.out (by rw [hr]; simp))
          rw [HR.out, hr] at hpr
          clear hr
          by_cases h21 : h < 1
          · have hd1 : decide ((h : Int) < 1) = true := by simp; omega
            clear h2 h21
            go_wp2_with (fail)
            refine (rnumber_is A1 n1 c1 _ rest K m 0 _ HH.out (by omega) HN.out).mono ?_
            rintro e w1 ⟨rfl, rfl⟩
            go_wp2
            go_ret2
            exact rread_nil (er := 4) hpr.out HBL.out
          · have hd1 : decide ((h : Int) < 1) = false := by simp; omega
            have hd2 : decide (1000 < (h : Int)) = true := by simp; omega
            clear h2 h21
            go_wp2_with (fail)
            refine (rnumber_is A1 n1 c1 _ rest K m 0 _ HH.out (by omega) HN.out).mono ?_
            rintro e w1 ⟨rfl, rfl⟩
            go_wp2
            go_ret2
            exact rread_nil (er := 4) hpr.out HBL.out
        · have H2 := hide h2
          have hd1 : decide ((h : Int) < 1) = false := by simp; omega
          have hd2 : decide (1000 < (h : Int)) = false := by simp; omega
          clear h2
          obtain ⟨A', hA', hsl⟩ := cut_from A1 n1 c1 m hm
          have HL2 := hide (HH.out.drop hm hc1 A' hA')
          have HS2 : Hid (∀ x ∈ rest.drop m, x < 256) := fun x hx => HH.out.2.1 x (List.mem_of_mem_drop hx)
          obtain ⟨⟨V, z, e2⟩, hnum2⟩ : ∃ q, num (rest.drop m) 0 0 = q := ⟨_, rfl⟩
          have HN2 := hide hnum2
          clear hA'
          by_cases h3 : e2 = 0
          · subst h3
            have q4 := (num_ok HS2.out hnum2).2.2
            have hz : z ≤ n1 - m := by
              have := (num_bound (rest.drop m) 0 0).1
              rw [hnum2] at this
              have := HH.out.1
              simp only [List.length_drop] at *
              omega
            have Q4 := hide q4
            obtain ⟨A2, hA2, hsl2⟩ := cut_from A' (n1 - m) (c1 - m) z hz
            have HL3 := hide (HL2.out.drop hz (by omega) A2 hA2)
            rw [List.drop_drop] at HL3
            clear hnum2 q4 hA2
            by_cases h4 : K % 2 = 0
            · have hr := pfirst_4 HN.out (by rw [← HK.out]; exact H2.out) HN2.out h4
              have hpr := hide (readOn_next HH.out.2.1 (done.map Fd.pf) Hne.out (by rw [hr]))
              rw [HR.out, hr, ← HK.out] at hpr
              have hb4 : ((K : Int) % 2 == 1) = false := by simp; omega
              clear hr h4
              go_wp2_with (fail)
              refine (rnumber_is A1 n1 c1 _ rest K m 0 _ HH.out (by omega) HN.out).mono ?_
              rintro e w1 ⟨rfl, rfl⟩
              go_wp2_with (fail)
              refine (rnumber_is A' (n1 - m) (c1 - m) _ (rest.drop m) V z 0 _ HL2.out (by omega) HN2.out).mono ?_
              rintro e w1 ⟨rfl, rfl⟩
              go_wp2_with (at_builtin; refine wpList_append_own_at _ rfl (.tmp 71) (.tmp 73) 71 rfl w.heap.size 92 i0 _ 4 48 Tryz.underlying71 hi hz0 hz1 hz2 rfl (by omega) _ done.length (fcells done) rfl ((Hown.out.alloc _).alloc _) ⟨wr.heap.size + 1, 0, none⟩ 1 1 [.int .i64 h, .bool false, .int .u64 V, .slice none 0 0] rfl rfl (by have := cells_new (wr.alloc (.cells #[.int .i64 h, .bool false, .int .u64 V, .slice none 0 0] 92)) [.int .i64 h, .bool false, .int .u64 V, .slice none 0 0] 92; rw [World.size_alloc] at this; exact this) (by intro u hu; simp at hu; rcases hu with rfl | rfl | rfl | rfl <;> rfl) (by simp only [maxLen]; omega) (by omega) (by simp; omega) ?_; intro v2 w2 o2 g2 _ _)
              have O2 := hide o2
              have G2 := hide g2
              clear o2 g2
              go_roundw
              case rel =>
                have b1 : Below wr.heap.size wr ((wr.alloc (.cells #[.int .i64 h, .bool false, .int .u64 V, .slice none 0 0] 92)).alloc (.cells #[.int .i64 h, .bool false, .int .u64 V, .slice none 0 0] 92)) := ((Below.refl _ _).alloc (Nat.le_refl _) _).alloc (by simp) _
                have b2 : Below w.heap.size wr w2 := (b1.mono hsz).trans ((Below.refl _ _).grown G2.out (by simp; omega) fun g hg => (Hown.out.lt g hg).1)
                refine ⟨A2, n1 - m - z, c1 - m - z, done ++ [⟨h, false, V, none, 0, 0, []⟩], rest.drop (m + z), rfl, by omega, HL3.out.below b2, ?_, ?_, ?_, ?_, HBL.out.trans b2⟩
                · rw [hpr.out, List.map_append]
                  rfl
                · rw [fcells_snoc, List.length_append]
                  exact O2.out
                · intro f hf
                  rcases List.mem_append.1 hf with hf | hf
                  · exact ((Hoks.out f hf).below b1).kept ((Hown.out.alloc _).alloc _) G2.out (by decide)
                  · simp at hf
                    subst hf
                    exact own_plain hh0 Q4.out
                · simp
                  omega
              case measure => simp [lenV]; omega
            · have H4 := hide h4
              have hb4 : ((K : Int) % 2 == 1) = true := by simp; omega
              obtain ⟨R, hR⟩ : ∃ R, n1 - m - z = R := ⟨_, rfl⟩
              obtain ⟨cR, hcR⟩ : ∃ cR, c1 - m - z = cR := ⟨_, rfl⟩
              rw [hR, hcR] at hsl2
              rw [hR] at HL3
              have hRc : R ≤ cR := by omega
              have hRn : R ≤ 1000000 := by omega
              have hlenr := HH.out.1
              clear h4
              by_cases h5 : R < V
              · have hr := pfirst_5 HN.out (by rw [← HK.out]; exact H2.out) HN2.out H4.out (by omega)
                have hpr := hide (readOn_err HH.out.2.1 (done.map Fd.pf) Hne.out (by rw [hr]; simp))
                rw [HR.out, hr] at hpr
                clear hr hR hcR hlenr
                go_wp2_with (fail)
                refine (rnumber_is A1 n1 c1 _ rest K m 0 _ HH.out (by omega) HN.out).mono ?_
                rintro e w1 ⟨rfl, rfl⟩
                go_wp2_with (fail)
                refine (rnumber_is A' (n1 - m) (c1 - m) _ (rest.drop m) V z 0 _ HL2.out (by omega) HN2.out).mono ?_
                rintro e w1 ⟨rfl, rfl⟩
                go_wp2
                go_ret2
                exact rread_nil (er := 3) hpr.out (HBL.out.trans (((Below.refl _ _).alloc hsz _)))
              · have hr := pfirst_6 HN.out (by rw [← HK.out]; exact H2.out) HN2.out H4.out (by omega)
                have hpr := hide (readOn_next HH.out.2.1 (done.map Fd.pf) Hne.out (by rw [hr]))
                rw [HR.out, hr, ← HK.out] at hpr
                obtain ⟨A4, hA4, hsl4⟩ := cut_to_u A2 R cR V (by omega)
                have HL4 := hide (HL3.out.to (h := V) (by omega) hRc hA4)
                obtain ⟨A5, hA5, hsl5⟩ := cut_from_u A2 R cR V (by omega)
                have HL5 := hide (HL3.out.drop (k := V) (by omega) hRc A5 hA5)
                have hRV : V ≤ R := by omega
                have HRR := hide hR
                have HCR := hide hcR
                clear hr hA4 hA5 hR hcR
                go_wp2_with (fail)
                refine (rnumber_is A1 n1 c1 _ rest K m 0 _ HH.out (by omega) HN.out).mono ?_
                rintro e w1 ⟨rfl, rfl⟩
                go_wp2_with (fail)
                refine (rnumber_is A' (n1 - m) (c1 - m) _ (rest.drop m) V z 0 _ HL2.out (by omega) HN2.out).mono ?_
                rintro e w1 ⟨rfl, rfl⟩
                go_wp2_with (at_builtin; refine wpList_append_bytes _ rfl (.tmp 62) (.tmp 65) 38 rfl (wr.heap.size + 1) 5 j0 (.int .u8 0) Tryz.underlying38 hj hy0 hy1 hy2 rfl _ 0 [] rfl (lit0 (wr.alloc (.cells #[.int .i64 h, .bool true, .int .u64 0, .slice none 0 0] 92)) (World.size_alloc _ _)) w.heap.size A4 V cR _ rfl (HL4.out.below (((Below.refl _ _).alloc hsz _).alloc (by simp; omega) _)) (by omega) (by simp) ?_)
                intro v2 w2 o2 g2
                have o2' : w2.ownsRow (wr.heap.size + 1) 5 1 v2 V (bvs ((rest.drop (m + z)).take V)) := by simpa using o2
                have hsm2 : ∀ x ∈ (rest.drop (m + z)).take V, x < 256 := fun x hx => HH.out.2.1 x (List.mem_of_mem_drop (List.mem_of_mem_take hx))
                obtain ⟨AV, cV, rfl, hcV, _, hHV⟩ := Holds.of_own o2' hsm2
                have h1 := g2.below (lit0 (wr.alloc (.cells #[.int .i64 h, .bool true, .int .u64 0, .slice none 0 0] 92)) (World.size_alloc _ _)) (by simp)
                have hb2 : Below wr.heap.size wr w2 := (((Below.refl _ _).alloc (Nat.le_refl _) _).alloc (by simp) _).trans (h1.mono (by omega))
                have hx2 : w2.heap[wr.heap.size]? = some (.cells #[.int .i64 h, .bool true, .int .u64 0, .slice none 0 0] 92 (0, 0)) := (h1.block wr.heap.size (by omega)).trans ((Below.block ((Below.refl _ (wr.alloc (.cells #[.int .i64 h, .bool true, .int .u64 0, .slice none 0 0] 92))).alloc (Nat.le_refl _) _) wr.heap.size (by simp)).trans (heap_alloc_new _ _))
                have r0 := cell_of_row w2 wr.heap.size 0 _ _ _ hx2
                have r1 := cell_of_row w2 wr.heap.size 1 _ _ _ hx2
                have r2 := cell_of_row w2 wr.heap.size 2 _ _ _ hx2
                have r3 := cell_of_row w2 wr.heap.size 3 _ _ _ hx2
                have f3 := frozen_of_row w2 wr.heap.size 3 _ _ hx2
                have hszz : wr.heap.size < w2.heap.size := lt_of_block hx2
                have O2 := hide o2'
                have HX2 := hide hx2
                have HB2 := hide hb2
                clear o2 o2' g2 hx2 hb2 hHV h1
                have hB3 : Below wr.heap.size wr (w2.setCell ⟨wr.heap.size, 3, none⟩ (.slice AV V cV)) := by
                  have b2 : Below wr.heap.size wr w2 := HB2.out
                  go_grown
                have HB3 := hide hB3
                clear hB3
                go_wp2_with (at_builtin; refine wpList_append_own_at _ rfl (.tmp 71) (.tmp 73) 71 rfl w.heap.size 92 i0 _ 4 48 Tryz.underlying71 hi hz0 hz1 hz2 rfl (by omega) _ done.length (fcells done) rfl ((own_below_any Hown.out HB3.out).alloc _) ⟨w2.heap.size, 0, none⟩ 1 1 [.int .i64 h, .bool true, .int .u64 0, .slice AV V cV] rfl rfl (by have := cells_new (w2.setCell ⟨wr.heap.size, 3, none⟩ (.slice AV V cV)) [.int .i64 h, .bool true, .int .u64 0, .slice AV V cV] 92; simpa using this) (by intro u hu; simp at hu; rcases hu with rfl | rfl | rfl | rfl <;> rfl) (by simp only [maxLen]; omega) (by omega) (by simp; omega) ?_; intro v4 w4 o4 g4 _ _)
                have O4 := hide o4
                have G4 := hide g4
                clear o4 g4
                go_roundw
                case rel =>
                  have b1 : Below wr.heap.size wr ((w2.setCell ⟨wr.heap.size, 3, none⟩ (.slice AV V cV)).alloc (.cells #[.int .i64 h, .bool true, .int .u64 0, .slice AV V cV] 92)) := HB3.out.alloc (by simp; omega) _
                  have b2 : Below w.heap.size wr w4 := (b1.mono hsz).trans ((Below.refl _ _).grown G4.out (by simp; omega) fun g hg => (Hown.out.lt g hg).1)
                  refine ⟨A5, R - V, cR - V, done ++ [⟨h, true, 0, AV, V, cV, (rest.drop (m + z)).take V⟩], rest.drop (m + z + V), rfl, by omega, ?_, ?_, ?_, ?_, ?_, HBL.out.trans b2⟩
                  · have h1 := HL5.out.below b2
                    rwa [List.drop_drop] at h1
                  · rw [hpr.out, List.map_append]
                    rfl
                  · rw [fcells_snoc, List.length_append]
                    exact O4.out
                  · intro f hf
                    rcases List.mem_append.1 hf with hf | hf
                    · exact ((Hoks.out f hf).below b1).kept ((own_below_any Hown.out HB3.out).alloc _) G4.out (by decide)
                    · simp at hf
                      subst hf
                      have hF := own_text (w' := (w2.setCell ⟨wr.heap.size, 3, none⟩ (.slice AV V cV))) O2.out (fun x hx => HH.out.2.1 x (List.mem_of_mem_drop (List.mem_of_mem_take hx))) hh0 (fun g hg => by
                        rw [Below.heap_setCell _ _ _ _ (by simp; omega)])
                      exact ((hF.base (by omega)).below ((Below.refl _ _).alloc (Nat.le_refl _) _)).kept ((own_below_any Hown.out HB3.out).alloc _) G4.out (by decide)
                  · simp
                    have := HRR.out
                    omega
                case measure => simp [lenV]; have := HRR.out; omega
          · have hr := pfirst_3 HN.out (by rw [← HK.out]; exact H2.out) HN2.out h3
            have hpr := hide (readOn_err HH.out.2.1 (done.map Fd.pf) Hne.out (by rw [hr]; exact h3))
            rw [HR.out, hr] at hpr
            have hne : ((e2 : Int) != 0) = true := by simp; omega
            clear hr h3 hnum2
            go_wp2_with (fail)
            refine (rnumber_is A1 n1 c1 _ rest K m 0 _ HH.out (by omega) HN.out).mono ?_
            rintro e w1 ⟨rfl, rfl⟩
            go_wp2_with (fail)
            refine (rnumber_is A' (n1 - m) (c1 - m) _ (rest.drop m) V z e2 _ HL2.out (by omega) HN2.out).mono ?_
            rintro e w1 ⟨rfl, rfl⟩
            go_wp2
            go_ret2
            exact rread_nil hpr.out HBL.out
      · have hr := pfirst_1 HN.out h1
        have hpr := hide (readOn_err HH.out.2.1 (done.map Fd.pf) Hne.out (by rw [hr]; exact h1))
        rw [HR.out, hr] at hpr
        have hne : ((e1 : Int) != 0) = true := by simp; omega
        clear hr h1 hnum
        go_wp2_with (fail)
        refine (rnumber_is A1 n1 c1 _ rest K m e1 _ HH.out (by omega) HN.out).mono ?_
        rintro e w1 ⟨rfl, rfl⟩
        go_wp2
        go_ret2
        exact rread_nil hpr.out HBL.out
    · have hnil := holds_nil HH.out hlt
      have hr : pread l = (0, done.map Fd.pf) := by rw [← HR.out, hnil, readOn_end]
      obtain ⟨A', c', hv, h1, h2⟩ := FHolds.of_own Hown.out fun f hf => (Hoks.out f hf).ok
      have HRR := hide hr
      have H2 := hide h2
      clear hr hnil h2
      subst hv
      go_wp2
      go_ret2
      exact ⟨A', done.length, c', done, by rw [HRR.out]; rfl, by rw [HRR.out], H2.out, h1, HBL.out⟩
end Go.Proofs.YtehiaeihkdfclaaGreatDoor
/- The walks over field.Find and droverref01.Find: the last field of a number. -/
namespace Go.Proofs.YtehiaeihkdfclaaGreatDoor
open Go.RowKit

/-- The last one of that number. -/
def pfind (ps : List PF) (m : Int) : PF × Bool := match ps.reverse.find? (fun p => p.1 == m) with
  | some p => (p, true)
  | none => (pz, false)
theorem pfind_nil (m : Int) : pfind [] m = (pz, false) := rfl
theorem pfind_snoc (ps : List PF) (p : PF) (m : Int) : pfind (ps ++ [p]) m = if p.1 = m then (p, true) else pfind ps m := by
  unfold pfind
  rw [List.reverse_append]
  by_cases h : p.1 = m
  · simp [h]
  · have : (p.1 == m) = false := by simpa using h
    simp [this, h]
theorem pfind_append (ps qs : List PF) (m : Int) : pfind (ps ++ qs) m = if (pfind qs m).2 then pfind qs m else pfind ps m := by
  unfold pfind
  rw [List.reverse_append, List.find?_append]
  cases h : qs.reverse.find? (fun p => p.1 == m) <;> simp

/-- Where the loop stands: what lies behind the first k has not the number. -/
def FindAt (fs : List Fd) (m : Int) (k : Nat) : Prop := pfind (fs.map Fd.pf) m = pfind ((fs.take k).map Fd.pf) m
theorem findAt_start {fs : List Fd} {n : Nat} (h : fs.length = n) (m : Int) : FindAt fs m n := by
  unfold FindAt
  rw [List.take_of_length_le (by omega)]
theorem FindAt.hit {fs : List Fd} {m : Int} {k : Nat} {f : Fd} (h : FindAt fs m (k + 1)) (ht : fs.take (k + 1) = fs.take k ++ [f]) (hm : f.num = m) : pfind (fs.map Fd.pf) m = (f.pf, true) := by
  unfold FindAt at h
  rw [h, ht, List.map_append, List.map_cons, List.map_nil, pfind_snoc, if_pos (by exact hm)]
theorem FindAt.miss {fs : List Fd} {m : Int} {k : Nat} {f : Fd} (h : FindAt fs m (k + 1)) (ht : fs.take (k + 1) = fs.take k ++ [f]) (hm : f.num ≠ m) : FindAt fs m k := by
  unfold FindAt at h ⊢
  rw [h, ht, List.map_append, List.map_cons, List.map_nil, pfind_snoc, if_neg (by exact hm)]
theorem FindAt.none {fs : List Fd} {m : Int} (h : FindAt fs m 0) : pfind (fs.map Fd.pf) m = (pz, false) := h

/-- What Find tells. -/
def FindIs (w : World) (q : PF × Bool) (e : Ending) (w' : World) : Prop :=
  ∃ f : Fd, e = .returned (.tuple #[.agg #[.int .i64 f.num, .bool f.text, .int .u64 f.v, .slice f.a f.n f.c], .bool q.2]) ∧ f.pf = q.1 ∧ f.ok w' w'.heap.size ∧ Later w w'

theorem fz_ok (w : World) (B : Nat) : fz.ok w B := ⟨⟨by decide, by decide⟩, by decide, Nat.le_refl _, Holds.nil_ _ _⟩
theorem Fd.ok.later {w w' : World} {f : Fd} (h : f.ok w w.heap.size) (hl : Later w w') : f.ok w' w'.heap.size := ⟨h.1, h.2.1, h.2.2.1, h.2.2.2.later hl⟩
end Go.Proofs.YtehiaeihkdfclaaGreatDoor
/- The walks over droverref01.Find, Good and Write: the document's own. -/
namespace Go.Proofs.YtehiaeihkdfclaaGreatDoor
open Go.RowKit

set_option maxHeartbeats 1000000 in
set_option maxRecDepth 100000 in
theorem reffind_any (A : Option Addr) (n c : Nat) (fs : List Fd) (m : Int) (w : World) (hf : FHolds w w.heap.size A n fs) (hn : n ≤ 1099511627000) :
    Calls Tryz.prog 90 #[.slice A n c, .int .i64 m] w (FindIs w (pfind (fs.map Fd.pf) m)) := by
  have HF := hide hf
  have H0 := hide (findAt_start hf.1 m)
  clear hf
  go_enter Tryz.func90, Tryz.ntmps90
  go_wp2
  go_loop [6] (fun i => ∃ k : Nat, k ≤ n ∧ i = .int .i64 ((k : Int) - 1) ∧ FindAt fs m k) (fun i => ((intOf i) + 1).toNat)
  case atStart => exact ⟨n, by omega, by rfl, H0.out⟩
  case round =>
    obtain ⟨k, hk, rfl, hat⟩ := hrel
    have Hat := hide hat
    clear hat H0
    by_cases hlt : 0 < k
    · obtain ⟨j, rfl⟩ : ∃ j, k = j + 1 := ⟨k - 1, by omega⟩
      have ej : ((j + 1 : Nat) : Int) - 1 = (j : Int) := by omega
      rw [ej]
      obtain ⟨f, b, off, hfk, hok, rfl, hbB, q0, q1, q2, q3, htk⟩ := HF.out.at_ (k := j) (by omega)
      obtain ⟨num, text, v, a, fn, fc, fb⟩ := f
      simp only at q0 q1 q2 q3
      have Htk := hide htk
      have Hok := hide hok
      have hbne : b ≠ w.heap.size := by omega
      clear htk hfk hok ej
      by_cases hm : num = m
      · have hm2 : (num == m) = true := by simpa using hm
        have Hm := hide (Hat.out.hit Htk.out hm)
        clear hm
        go_wp2
        refine bodyPost_ret (v := .tuple #[.agg #[.int .i64 num, .bool text, .int .u64 v, .slice a fn fc], .bool true]) (by simp [results, Tryz.results90, go_sem]) rfl ⟨⟨num, text, v, a, fn, fc, fb⟩, by rw [Hm.out], by rw [Hm.out], Hok.out.later ?_, ?_⟩
        all_goals (show Below _ _ _; go_grown)
      · have hm2 : (num == m) = false := by simpa using hm
        have Hm := hide (Hat.out.miss Htk.out hm)
        clear hm
        go_wp2
        go_round
        case rel => exact ⟨j, by omega, by first | rfl | go_num, Hm.out⟩
        case measure => simp [intOf]
    · obtain rfl : k = 0 := by omega
      have Hn := hide Hat.out.none
      go_wp2
      refine bodyPost_ret (v := .tuple #[.agg #[.int .i64 0, .bool false, .int .u64 0, .slice none 0 0], .bool false]) (by simp [results, Tryz.results90, go_sem]) rfl ⟨fz, by rw [Hn.out]; rfl, by rw [Hn.out]; rfl, fz_ok _ _, ?_⟩
      show Below _ _ _
      go_grown

set_option maxHeartbeats 400000 in
theorem refgood_any (f : Fd) (w : World) :
    Calls Tryz.prog 80 #[.agg #[.int .i64 f.num, .bool f.text, .int .u64 f.v, .slice f.a f.n f.c]] w fun e w' => e = .returned (.bool f.good) ∧ Below w.heap.size w w' := by
  obtain ⟨num, text, v, a, n, c, b⟩ := f
  go_enter Tryz.func80, Tryz.ntmps80
  go_wp2
  · go_ret
    exact ⟨ret_bool (Fd.good_not (by simp only; omega)), (Below.refl _ _).alloc (Nat.le_refl _) _⟩
  · go_ret
    exact ⟨ret_bool (Fd.good_text (f := ⟨num, text, v, a, n, c, b⟩) (by simp only; omega) (by simp only; omega) (by assumption)), (Below.refl _ _).alloc (Nat.le_refl _) _⟩
  · go_ret
    exact ⟨ret_bool (Fd.good_num (f := ⟨num, text, v, a, n, c, b⟩) (by simp only; omega) (by simp only; omega) (by assumption)), (Below.refl _ _).alloc (Nat.le_refl _) _⟩
  · go_ret
    exact ⟨ret_bool (Fd.good_not (by simp only; omega)), (Below.refl _ _).alloc (Nat.le_refl _) _⟩
theorem refgood_is (f : Fd) (b : Bool) (h : f.good = b) (w : World) :
    Calls Tryz.prog 80 #[.agg #[.int .i64 f.num, .bool f.text, .int .u64 f.v, .slice f.a f.n f.c]] w fun e w' => e = .returned (.bool b) ∧ Later w w' :=
  (refgood_any f w).mono fun _ _ ⟨he, hb⟩ => ⟨by rw [he, h], hb⟩

/-- The number of bytes is 'V' of whatever list 'L' is told: Uint, its lists under names. -/
theorem refuint_is (A : Option Addr) (n c : Nat) (V : Int) (l L : List Nat) (w : World) (h0 : 0 ≤ V) (hV : V < 18446744073709551616) (hn : n ≤ 1099511627000) (hl : Holds w w.heap.size A n l) (h : l ++ enc V.toNat = L) :
    Calls Tryz.prog 73 #[.slice A n c, .int .u64 V] w (NewBytes w L) := by
  obtain ⟨k, rfl⟩ := Int.eq_ofNat_of_zero_le h0
  subst h
  exact refuint_any A n c k l w.heap.size w (by omega) hn hl (Nat.le_refl _)

theorem bytes_room {fs : List Fd} {k : Nat} {R : Nat} (h : ∀ f ∈ fs, f.b.length = f.n) (hR : room fs ≤ R) : (recOf (fs.take k)).length ≤ R := by
  have h1 := recOf_len (fs.take k) fun g hg => h g (List.mem_of_mem_take hg)
  have h2 := room_take fs k
  omega

set_option maxHeartbeats 2000000 in
set_option maxRecDepth 100000 in
theorem refwrite_any (A : Option Addr) (n c : Nat) (fs : List Fd) (w : World) (hf : FHolds w w.heap.size A n fs) (hroom : room fs ≤ 10000000) (hn : n ≤ 10000000) :
    Calls Tryz.prog 39 #[.slice A n c] w (NewBytes w (recOf fs)) := by
  obtain ⟨i0, hi, hz0, hz1, hz2⟩ := info_parts Tryz.infoU8
  have HF := hide hf
  clear hf
  go_enter Tryz.func39, Tryz.ntmps39
  go_wp2
  go_loopw [3, 8] (fun s i wr => ∃ k : Nat, k ≤ n ∧ i = .int .i64 k ∧ (∃ m1, wr.ownsRow w.heap.size 5 1 s m1 (bvs (recOf (fs.take k)))) ∧ Below w.heap.size w wr) (fun _ i _ => n - (intOf i).toNat)
  case atStart => exact ⟨0, by omega, rfl, ⟨0, by simpa [recOf, bvs] using World.ownsRow_nil _ _ _ _⟩, Below.refl _ _⟩
  case round =>
    obtain ⟨k, hk, rfl, ⟨m1, hown⟩, hbel⟩ := hrel
    have hsz := hbel.size
    have hsm := HF.out.small
    have Hs : Hid (∀ x ∈ recOf (fs.take k), x < 256) := by
      intro x hx
      refine hsm x ?_
      have e : fs = fs.take k ++ fs.drop k := (List.take_append_drop k fs).symm
      rw [e, recOf, List.map_append, List.flatten_append]
      exact List.mem_append_left _ hx
    have hm1 : m1 ≤ 10000000 := by
      have h1 := bytes_room (k := k) HF.out.lens hroom
      have h2 := hown.1
      rw [bvs_len] at h2
      omega
    obtain ⟨A1, c1, rfl, _, _, hh⟩ := Holds.of_own hown Hs.out
    have Hh := hide hh
    have Hown := hide hown
    clear hown hsm hh
    by_cases hlt : k < n
    · obtain ⟨f, b, off, hfk, hok, rfl, hbB, q0, q1, q2, q3, htk⟩ := (HF.out.below hbel).at_ hlt
      obtain ⟨num, text, v, a, fn, fc, fb⟩ := f
      simp only at q0 q1 q2 q3
      have hfn : fn ≤ 10000000 ∧ m1 + 20 + fn ≤ 20000000 := by
        have h2 := room_take fs (k + 1)
        rw [htk, room_snoc] at h2
        simp only at h2
        omega
      have hf1 := hfn.1
      have Hrs : Hid (recOf (fs.take (k + 1)) = recOf (fs.take k) ++ Fd.bytes ⟨num, text, v, a, fn, fc, fb⟩) := by
        show _ = _
        rw [htk, recOf_snoc]
      have Hok := hide hok
      clear htk hfk hok hfn
      by_cases hgood : Fd.good ⟨num, text, v, a, fn, fc, fb⟩ = true
      · obtain ⟨hn1, hn2⟩ := Fd.good_range hgood
        simp only at hn1 hn2
        have Hg := hide hgood
        have HB := hide (show Holds wr w.heap.size a fn fb from Hok.out.2.2.2)
        have Hv : Hid (v < 18446744073709551616) := Hok.out.2.1
        have b1 := enc_len (num * 2 + 1).toNat
        have b2 := enc_len ((fn : Int)).toNat
        have b3 := enc_len (num * 2).toNat
        have B0 := hide (Box.new wr 92 (.int .i64 num) (.bool text) (.int .u64 v) (.slice a fn fc))
        clear hgood
        cases text with
        | true =>
          go_wp2_with (fail)
          refine (refgood_is ⟨num, true, v, a, fn, fc, fb⟩ true Hg.out _).mono ?_
          rintro e w1 ⟨rfl, hb1⟩
          have L1 := hide ((Later.alloc wr _).trans hb1)
          have B1 := hide (B0.out.below hb1 (by simp))
          obtain ⟨d0, d1, d2, d3⟩ := B1.out.cell
          have s1 := hb1.size
          simp at s1
          clear hb1
          go_wp2_with (fail)
          refine (refuint_is A1 m1 c1 (num * 2 + 1) _ _ _ (by omega) (by omega) (by omega) (Hh.out.later L1.out) rfl).mono ?_
          rintro e w2 ⟨A2, m2, c2, rfl, o2, h2, _, k2⟩
          have L2 := hide (L1.out.trans k2)
          have B2 := hide (B1.out.below k2 (by omega))
          obtain ⟨e0, e1, e2, e3⟩ := B2.out.cell
          have H2 := hide h2
          have hm2 := h2.1
          have hlr := Hh.out.1
          simp only [List.length_append] at hm2
          have s2 := k2.size
          clear d0 d1 d2 d3 o2 h2 k2
          go_wp2_with (fail)
          refine (refuint_is A2 m2 c2 (fn : Int) _ _ _ (by omega) (by omega) (by omega) H2.out rfl).mono ?_
          rintro e w3 ⟨A3, m3, c3, rfl, o3, h3, _, k3⟩
          have L3 := hide (L2.out.trans k3)
          have B3 := hide (B2.out.below k3 (by omega))
          obtain ⟨f0, f1, f2, f3⟩ := B3.out.cell
          have O3 := hide o3
          have hm3 := h3.1
          simp only [List.length_append] at hm3
          have s3 := k3.size
          clear e0 e1 e2 e3 o3 h3 k3
          go_wp2_with (at_builtin; refine wpList_append_bytes _ rfl (.tmp 42) (.tmp 44) 38 rfl w2.heap.size 5 i0 (.int .u8 0) Tryz.underlying38 hi hz0 hz1 hz2 rfl _ m3 _ rfl O3.out w.heap.size a fn fc fb rfl (HB.out.below (L3.out.below hsz)) (by omega) (by omega) ?_; intro v4 w4 o4 g4)
          have O4 := hide o4
          have G4 := hide g4
          clear o4 g4
          go_roundw
          case rel =>
            refine ⟨k + 1, by omega, by go_num, ⟨m3 + fn, ?_⟩, (hbel.trans (L3.out.below hsz)).trans ((G4.out.below O3.out (by omega)).mono (by omega))⟩
            rw [Hrs.out, bytes_text Hg.out rfl, show 2 * num.toNat + 1 = (num * 2 + 1).toNat from by omega]
            have := own_base O4.out (base' := w.heap.size) (by omega)
            rw [← bvs_append] at this
            simpa [List.append_assoc] using this
          case measure => simp [intOf]; omega
        | false =>
          go_wp2_with (fail)
          refine (refgood_is ⟨num, false, v, a, fn, fc, fb⟩ true Hg.out _).mono ?_
          rintro e w1 ⟨rfl, hb1⟩
          have L1 := hide ((Later.alloc wr _).trans hb1)
          have B1 := hide (B0.out.below hb1 (by simp))
          obtain ⟨d0, d1, d2, d3⟩ := B1.out.cell
          have s1 := hb1.size
          simp at s1
          clear hb1
          go_wp2_with (fail)
          refine (refuint_is A1 m1 c1 (num * 2) _ _ _ (by omega) (by omega) (by omega) (Hh.out.later L1.out) rfl).mono ?_
          rintro e w2 ⟨A2, m2, c2, rfl, o2, h2, _, k2⟩
          have L2 := hide (L1.out.trans k2)
          have B2 := hide (B1.out.below k2 (by omega))
          obtain ⟨e0, e1, e2, e3⟩ := B2.out.cell
          have H2 := hide h2
          have hm2 := h2.1
          have hlr := Hh.out.1
          simp only [List.length_append] at hm2
          have s2 := k2.size
          clear d0 d1 d2 d3 o2 h2 k2
          go_wp2_with (fail)
          refine (refuint_is A2 m2 c2 (v : Int) _ _ _ (by omega) (by have := Hv.out; omega) (by omega) H2.out rfl).mono ?_
          rintro e w3 ⟨A3, m3, c3, rfl, o3, h3, _, k3⟩
          have L3 := hide (L2.out.trans k3)
          have O3 := hide o3
          clear e0 e1 e2 e3 o3 h3 k3
          go_wp2
          go_roundw
          case rel =>
            refine ⟨k + 1, by omega, by go_num, ⟨m3, ?_⟩, hbel.trans (L3.out.below hsz)⟩
            rw [Hrs.out, bytes_num Hg.out rfl, show 2 * num.toNat = (num * 2).toNat from by omega]
            simpa using own_base O3.out (base' := w.heap.size) (by omega)
          case measure => simp [intOf]; omega
      · have Hg := hide (show Fd.good ⟨num, text, v, a, fn, fc, fb⟩ = false by simpa using hgood)
        clear hgood
        go_wp2_with (fail)
        refine (refgood_is ⟨num, text, v, a, fn, fc, fb⟩ false Hg.out _).mono ?_
        rintro e w1 ⟨rfl, hb1⟩
        have o1 := hide (own_below (Hown.out.alloc (.cells #[.int .i64 num, .bool text, .int .u64 v, .slice a fn fc] 92)) hb1)
        have L1 := hide ((Later.alloc wr _).trans hb1)
        clear hb1
        go_wp2
        go_roundw
        case rel =>
          refine ⟨k + 1, by omega, by go_num, ⟨m1, ?_⟩, hbel.trans (L1.out.below hsz)⟩
          rw [Hrs.out, bytes_not Hg.out]
          simpa using o1.out
        case measure => simp [intOf]; omega
    · have Hk : Hid (fs.take k = fs) := by
        show _ = _
        exact List.take_of_length_le (by have := HF.out.1; omega)
      go_wp2
      go_ret
      have := Hown.out
      rw [Hk.out] at this
      exact newBytes_of this HF.out.small hbel
end Go.Proofs.YtehiaeihkdfclaaGreatDoor
/- The walks over droverref09.val, is and bytes: a field's number, bool, bytes. -/
namespace Go.Proofs.YtehiaeihkdfclaaGreatDoor
open Go.RowKit

theorem rzag_is {w w1 : World} (v : Nat) (h : v < 18446744073709551616) (hl : Later w w1) :
    Calls Tryz.prog 52 #[.int .u64 v] w1 fun e w' => e = .returned (.int .i64 (zag v)) ∧ Later w w' :=
  (refzag_any v w1 h).mono fun _ _ ⟨h1, h2⟩ => ⟨h1, h2 ▸ hl⟩

set_option maxHeartbeats 800000 in
set_option maxRecDepth 100000 in
theorem rval_any {A : Option Addr} {n c : Nat} {fs : List Fd} {m : Int} {w : World} (hf : FHolds w w.heap.size A n fs) (hn : n ≤ 1099511627000) :
    Calls Tryz.prog 48 #[.slice A n c, .int .i64 m] w fun e w' => e = .returned (.int .i64 (zag (pfind (fs.map Fd.pf) m).1.2.2.1)) ∧ Later w w' := by
  have C := hide (reffind_any A n c fs m w hf hn)
  clear hf
  go_enter Tryz.func48, Tryz.ntmps48
  go_wp2_with (fail)
  refine C.out.mono ?_
  rintro e w1 ⟨⟨fnum, ftext, fv, fa, fn, fc, fb⟩, rfl, hp, hok, hl⟩
  have HP := hide hp
  have HO := hide hok
  have HL : Hid (Later w (w1.alloc (.cells #[.int .i64 fnum, .bool ftext, .int .u64 fv, .slice fa fn fc] 92 (0, 0)))) := Below.trans hl (Below.mono (Later.alloc w1 _) (Below.size hl))
  clear hp hok hl C
  simp only
  go_wp2_with (fail)
  refine (rzag_is fv HO.out.2.1 HL.out).mono ?_
  rintro e w2 ⟨rfl, hl2⟩
  have HL2 := hide hl2
  clear hl2
  go_wp2
  go_ret
  exact ⟨by rw [← HP.out]; rfl, HL2.out⟩

set_option maxHeartbeats 800000 in
set_option maxRecDepth 100000 in
theorem ris_any {A : Option Addr} {n c : Nat} {fs : List Fd} {m : Int} {w : World} (hf : FHolds w w.heap.size A n fs) (hn : n ≤ 1099511627000) :
    Calls Tryz.prog 49 #[.slice A n c, .int .i64 m] w fun e w' => e = .returned (.bool (decide ((pfind (fs.map Fd.pf) m).1.2.2.1 = 1))) ∧ Later w w' := by
  have C := hide (reffind_any A n c fs m w hf hn)
  clear hf
  go_enter Tryz.func49, Tryz.ntmps49
  go_wp2_with (fail)
  refine C.out.mono ?_
  rintro e w1 ⟨⟨fnum, ftext, fv, fa, fn, fc, fb⟩, rfl, hp, hok, hl⟩
  obtain ⟨b, hb⟩ : ∃ b, decide (fv = 1) = b := ⟨_, rfl⟩
  have ht : ((fv : Int) == 1) = b := by rw [← hb, Bool.eq_iff_iff]; simp; omega
  have HP : Hid (decide ((pfind (fs.map Fd.pf) m).1.2.2.1 = 1) = b) := by show _ = _; rw [← hp, ← hb]; rfl
  have HL : Hid (Later w (w1.alloc (.cells #[.int .i64 fnum, .bool ftext, .int .u64 fv, .slice fa fn fc] 92 (0, 0)))) := Below.trans hl (Below.mono (Later.alloc w1 _) (Below.size hl))
  clear hp hok hl hb C
  simp only
  go_wp2
  go_ret
  exact ⟨by rw [HP.out]; rfl, HL.out⟩

set_option maxHeartbeats 800000 in
set_option maxRecDepth 100000 in
theorem rbytes_any {A : Option Addr} {n c : Nat} {fs : List Fd} {m : Int} {w : World} (hf : FHolds w w.heap.size A n fs) (hn : n ≤ 1099511627000) :
    Calls Tryz.prog 51 #[.slice A n c, .int .i64 m] w fun e w' => ∃ A' n' c', e = .returned (.slice A' n' c') ∧ Holds w' w'.heap.size A' n' (pfind (fs.map Fd.pf) m).1.2.2.2 ∧ n' ≤ c' ∧ Later w w' := by
  have C := hide (reffind_any A n c fs m w hf hn)
  clear hf
  go_enter Tryz.func51, Tryz.ntmps51
  go_wp2_with (fail)
  refine C.out.mono ?_
  rintro e w1 ⟨⟨fnum, ftext, fv, fa, fn, fc, fb⟩, rfl, hp, hok, hl⟩
  have HP := hide hp
  have HH := hide (hok.2.2.2.later (Later.alloc w1 (.cells #[.int .i64 fnum, .bool ftext, .int .u64 fv, .slice fa fn fc] 92 (0, 0))))
  have HN := hide hok.2.2.1
  have HL : Hid (Later w (w1.alloc (.cells #[.int .i64 fnum, .bool ftext, .int .u64 fv, .slice fa fn fc] 92 (0, 0)))) := Below.trans hl (Below.mono (Later.alloc w1 _) (Below.size hl))
  clear hp hok hl C
  simp only
  go_wp2
  go_ret
  exact ⟨fa, fn, fc, rfl, by rw [← HP.out]; exact HH.out, HN.out, HL.out⟩
end Go.Proofs.YtehiaeihkdfclaaGreatDoor
/- What the document's readers say of bytes, on data alone: each field as the last of its number; the same as what the program reads, for bytes that are written again. -/
namespace Go.Proofs.YtehiaeihkdfclaaGreatDoor
open Go.RowKit

/-- The last field of a number: its value, its bytes. -/
def pv (ps : List PF) (m : Int) : Nat := (pfind ps m).1.2.2.1
def pb (ps : List PF) (m : Int) : List Nat := (pfind ps m).1.2.2.2
theorem pv_nil (m : Int) : pv [] m = 0 := rfl
theorem pb_nil (m : Int) : pb [] m = [] := rfl
theorem pfind_none {ps qs : List PF} {m : Int} (h : ∀ p ∈ qs, p.1 ≠ m) : pfind (ps ++ qs) m = pfind ps m := by
  rw [pfind_append]
  have : (pfind qs m).2 = false := by
    unfold pfind
    rw [List.find?_eq_none.2 (fun p hp => by simpa using h p (List.mem_reverse.1 hp))]
  rw [this]
  simp
theorem pfind_last (ps : List PF) (p : PF) : pfind (ps ++ [p]) p.1 = (p, true) := by rw [pfind_snoc, if_pos rfl]
theorem pfind_num (ps : List PF) (n v m : Int) : pfind (ps ++ pnum n v) m = if n = m ∧ v ≠ 0 then ((n, false, zig v, []), true) else pfind ps m := by
  unfold pnum
  by_cases hv : v = 0
  · simp [hv]
  · rw [if_neg hv, pfind_snoc]
    simp [hv]
theorem pfind_flag (ps : List PF) (n : Int) (b : Bool) (m : Int) : pfind (ps ++ pflag n b) m = if n = m ∧ b = true then ((n, false, 1, []), true) else pfind ps m := by
  unfold pflag
  cases b
  · simp
  · rw [if_pos rfl, pfind_snoc]
    simp
theorem pfind_text (ps : List PF) (n : Int) (l : List Nat) (m : Int) : pfind (ps ++ ptext n l) m = if n = m ∧ l ≠ [] then ((n, true, 0, l), true) else pfind ps m := by
  unfold ptext
  by_cases hl : l = []
  · simp [hl]
  · rw [if_neg hl, pfind_snoc]
    simp [hl]
theorem pfind_rows {α : Type} (ps : List PF) (n : Int) (f : α → List Nat) (l : List α) {m : Int} (h : n ≠ m) : pfind (ps ++ l.map fun a => prow n (f a)) m = pfind ps m :=
  pfind_none fun p hp => by
    obtain ⟨a, _, rfl⟩ := List.mem_map.1 hp
    exact h
theorem pfind_ints (ps : List PF) (n : Int) (l : List Int) {m : Int} (h : n ≠ m) : pfind (ps ++ l.map fun a => pint n a) m = pfind ps m :=
  pfind_none fun p hp => by
    obtain ⟨a, _, rfl⟩ := List.mem_map.1 hp
    exact h
theorem pv_num (ps : List PF) (n v m : Int) : pv (ps ++ pnum n v) m = if n = m ∧ v ≠ 0 then zig v else pv ps m := by unfold pv; rw [pfind_num]; split <;> rfl
theorem pv_flag (ps : List PF) (n : Int) (b : Bool) (m : Int) : pv (ps ++ pflag n b) m = if n = m ∧ b = true then 1 else pv ps m := by unfold pv; rw [pfind_flag]; split <;> rfl
theorem pv_text (ps : List PF) (n : Int) (l : List Nat) {m : Int} (h : n ≠ m) : pv (ps ++ ptext n l) m = pv ps m := by unfold pv; rw [pfind_text, if_neg (fun e => h e.1)]
theorem pb_num (ps : List PF) (n v : Int) {m : Int} (h : n ≠ m) : pb (ps ++ pnum n v) m = pb ps m := by unfold pb; rw [pfind_num, if_neg (fun e => h e.1)]
theorem pb_flag (ps : List PF) (n : Int) (b : Bool) {m : Int} (h : n ≠ m) : pb (ps ++ pflag n b) m = pb ps m := by unfold pb; rw [pfind_flag, if_neg (fun e => h e.1)]
theorem pb_text (ps : List PF) (n : Int) (l : List Nat) (m : Int) : pb (ps ++ ptext n l) m = if n = m ∧ l ≠ [] then l else pb ps m := by unfold pb; rw [pfind_text]; split <;> rfl
theorem pv_rows {α : Type} (ps : List PF) (n : Int) (f : α → List Nat) (l : List α) {m : Int} (h : n ≠ m) : pv (ps ++ l.map fun a => prow n (f a)) m = pv ps m := by unfold pv; rw [pfind_rows _ _ _ _ h]
theorem pb_rows {α : Type} (ps : List PF) (n : Int) (f : α → List Nat) (l : List α) {m : Int} (h : n ≠ m) : pb (ps ++ l.map fun a => prow n (f a)) m = pb ps m := by unfold pb; rw [pfind_rows _ _ _ _ h]
theorem pv_ints (ps : List PF) (n : Int) (l : List Int) {m : Int} (h : n ≠ m) : pv (ps ++ l.map fun a => pint n a) m = pv ps m := by unfold pv; rw [pfind_ints _ _ _ h]
theorem pb_ints (ps : List PF) (n : Int) (l : List Int) {m : Int} (h : n ≠ m) : pb (ps ++ l.map fun a => pint n a) m = pb ps m := by unfold pb; rw [pfind_ints _ _ _ h]
theorem zag_ite (v : Int) : zag (if v ≠ 0 then zig v else 0) = v := by
  by_cases h : v = 0
  · subst h
    rw [if_neg (by simp)]
    exact zag_zig 0
  · rw [if_pos h, zag_zig]
theorem flag_ite (b : Bool) : decide ((if b = true then 1 else 0) = 1) = b := by cases b <;> simp
theorem text_ite (l : List Nat) : (if l ≠ [] then l else []) = l := by
  by_cases h : l = []
  · simp [h]
  · rw [if_pos h]

def stepQ (b : List Nat) : StepD := ⟨str (pb (pread b).2 1), zag (pv (pread b).2 2), zag (pv (pread b).2 3), zag (pv (pread b).2 4), decide (pv (pread b).2 5 = 1), decide (pv (pread b).2 6 = 1)⟩
def defQ (b : List Nat) : DefD := ⟨str (pb (pread b).2 1), ((pread b).2.filter fun p => p.1 == 2).map fun p => stepQ p.2.2.2⟩
def opQ (b : List Nat) : OpD :=
  ⟨zag (pv (pread b).2 1), zag (pv (pread b).2 2), zag (pv (pread b).2 3), (defQ (pb (pread b).2 4)).name, (defQ (pb (pread b).2 4)).steps, zag (pv (pread b).2 5), zag (pv (pread b).2 6), zag (pv (pread b).2 7), decide (pv (pread b).2 8 = 1), decide (pv (pread b).2 9 = 1)⟩
def msgQ (b : List Nat) : MsgD :=
  ⟨zag (pv (pread b).2 1), zag (pv (pread b).2 2), zag (pv (pread b).2 3), zag (pv (pread b).2 4), zag (pv (pread b).2 5), zag (pv (pread b).2 6), zag (pv (pread b).2 7), zag (pv (pread b).2 8), zag (pv (pread b).2 9),
   decide (pv (pread b).2 10 = 1), decide (pv (pread b).2 11 = 1), decide (pv (pread b).2 12 = 1), opQ (pb (pread b).2 13),
   zag (pv (pread (pb (pread b).2 14)).2 1), zag (pv (pread (pb (pread b).2 14)).2 2), zag (pv (pread (pb (pread b).2 14)).2 3), zag (pv (pread (pb (pread b).2 14)).2 4),
   zag (pv (pread (pb (pread b).2 15)).2 1), zag (pv (pread (pb (pread b).2 15)).2 2), zag (pv (pread (pb (pread b).2 15)).2 3), zag (pv (pread (pb (pread b).2 15)).2 4), zag (pv (pread (pb (pread b).2 15)).2 5), decide (pv (pread (pb (pread b).2 15)).2 6 = 1),
   ((pread b).2.filter fun p => p.1 == 16).map fun p => opQ p.2.2.2, ((pread b).2.filter fun p => p.1 == 17).map fun p => zag p.2.2.1⟩

theorem ext0 (ps : List PF) : ps = [] ++ ps := rfl
theorem filter_num (n v m : Int) : (pnum n v).filter (fun p => p.1 == m) = if n = m then pnum n v else [] := by
  unfold pnum
  by_cases hv : v = 0
  · simp [hv]
  · by_cases h : n = m <;> simp [hv, h]
theorem filter_flag (n : Int) (b : Bool) (m : Int) : (pflag n b).filter (fun p => p.1 == m) = if n = m then pflag n b else [] := by
  unfold pflag
  cases b
  · simp
  · by_cases h : n = m <;> simp [h]
theorem filter_text (n : Int) (l : List Nat) (m : Int) : (ptext n l).filter (fun p => p.1 == m) = if n = m then ptext n l else [] := by
  unfold ptext
  by_cases hv : l = []
  · simp [hv]
  · by_cases h : n = m <;> simp [hv, h]
theorem filter_rows {α : Type} (n : Int) (f : α → List Nat) (l : List α) (m : Int) : (l.map fun a => prow n (f a)).filter (fun p => p.1 == m) = if n = m then l.map (fun a => prow n (f a)) else [] := by
  by_cases h : n = m
  · rw [if_pos h, List.filter_eq_self]
    intro p hp
    obtain ⟨a, _, rfl⟩ := List.mem_map.1 hp
    simp [prow, h]
  · rw [if_neg h, List.filter_eq_nil_iff]
    intro p hp
    obtain ⟨a, _, rfl⟩ := List.mem_map.1 hp
    simp [prow, h]
theorem filter_ints (n : Int) (l : List Int) (m : Int) : (l.map fun a => pint n a).filter (fun p => p.1 == m) = if n = m then l.map (fun a => pint n a) else [] := by
  by_cases h : n = m
  · rw [if_pos h, List.filter_eq_self]
    intro p hp
    obtain ⟨a, _, rfl⟩ := List.mem_map.1 hp
    simp [pint, h]
  · rw [if_neg h, List.filter_eq_nil_iff]
    intro p hp
    obtain ⟨a, _, rfl⟩ := List.mem_map.1 hp
    simp [pint, h]

theorem stepF_left (s : StepD) : stepF s = [] ++ ptext 1 (nums s.name) ++ pnum 2 s.stub ++ pnum 3 s.retry ++ pnum 4 s.wait ++ pflag 5 s.undo ++ pflag 6 s.pivot := by simp [stepF]
theorem defF_left (d : DefD) : defF d = [] ++ ptext 1 (nums d.name) ++ d.steps.map fun s => prow 2 (stepB s) := by simp [defF]
theorem opF_left (o : OpD) : opF o = [] ++ pnum 1 o.kind ++ pnum 2 o.client ++ pnum 3 o.request ++ ptext 4 (defB o.defn) ++ pnum 5 o.saga ++ pnum 6 o.step ++ pnum 7 o.try_ ++ pflag 8 o.back ++ pflag 9 o.good := by simp [opF]
theorem replyF_left (m : MsgD) : replyF m = [] ++ pnum 1 m.rerr ++ pnum 2 m.rsaga ++ pnum 3 m.rstate ++ pnum 4 m.rstep := by simp [replyF]
theorem cmdF_left (m : MsgD) : cmdF m = [] ++ pnum 1 m.cview ++ pnum 2 m.cstub ++ pnum 3 m.csaga ++ pnum 4 m.cstep ++ pnum 5 m.ctry ++ pflag 6 m.cback := by simp [cmdF]
theorem msgF_left (m : MsgD) : msgF m = [] ++ pnum 1 m.kind ++ pnum 2 m.src ++ pnum 3 m.dst ++ pnum 4 m.view ++ pnum 5 m.last ++ pnum 6 m.num ++ pnum 7 m.commit ++ pnum 8 m.nonce ++ pnum 9 m.request ++ pflag 10 m.lead ++ pflag 11 m.good ++ pflag 12 m.fenced ++
   ptext 13 (opB m.op) ++ ptext 14 (replyB m) ++ ptext 15 (cmdB m) ++ (m.ops.map fun o => prow 16 (opB o)) ++ m.incs.map fun x => pint 17 x := by simp [msgF]
set_option maxHeartbeats 1000000 in
theorem stepQ_B {k : Nat} {s : StepD} (h : s.sm k) (hk : k ≤ 5000) : stepQ (stepB s) = s := by
  unfold stepQ stepB
  rw [pread_fine (stepF_fine h hk), stepF_left]
  simp only [pv_num, pv_flag, pv_text, pb_text, pb_num, pb_flag, pv_nil, pb_nil, true_and, false_and, if_false, Int.reduceEq, zag_ite, flag_ite, text_ite, str_nums_self, ne_eq, not_false_eq_true]
theorem defQ_B {k : Nat} {d : DefD} (h : d.sm k) (hk : k ≤ 5000) : defQ (defB d) = d := by
  unfold defQ defB
  rw [pread_fine (defF_fine h hk), defF_left]
  simp only [pb_rows _ _ _ _ (show (2 : Int) ≠ 1 by decide), pb_text, pb_nil, true_and, text_ite, str_nums_self]
  simp only [List.filter_append, filter_text, filter_rows, Int.reduceEq, reduceIte, List.nil_append, List.map_map]
  congr 1
  rw [List.map_congr_left (g := id)]
  · simp
  · intro s hs
    exact stepQ_B (h.2.2 s hs) hk
theorem defQ_nil : defQ [] = .zero := rfl
set_option maxHeartbeats 1000000 in
theorem opQ_B {k : Nat} {o : OpD} (h : o.sm k) (hk : k ≤ 5000) : opQ (opB o) = o := by
  unfold opQ opB
  rw [pread_fine (opF_fine h hk), opF_left]
  simp only [pv_num, pv_flag, pv_text, pb_text, pb_num, pb_flag, pv_nil, pb_nil, true_and, false_and, if_false, Int.reduceEq, zag_ite, flag_ite, text_ite, ne_eq, not_false_eq_true]
  rw [defQ_B h.2.2.2.1 hk]
  rfl
theorem zag_of {a : Nat} {v : Int} (h : a = if v ≠ 0 then zig v else 0) : zag a = v := by rw [h, zag_ite]
theorem flag_of {a : Nat} {b : Bool} (h : a = if b = true then 1 else 0) : decide (a = 1) = b := by rw [h, flag_ite]
set_option maxHeartbeats 4000000 in
theorem replyQ_B {m : MsgD} (h : m.nums) : zag (pv (pread (replyB m)).2 1) = m.rerr ∧ zag (pv (pread (replyB m)).2 2) = m.rsaga ∧ zag (pv (pread (replyB m)).2 3) = m.rstate ∧ zag (pv (pread (replyB m)).2 4) = m.rstep := by
  unfold replyB
  rw [pread_fine (replyF_fine h), replyF_left]
  simp only [pv_num, pv_nil, true_and, false_and, if_false, Int.reduceEq, zag_ite, ne_eq, and_self]
theorem cmdQ_B {m : MsgD} (h : m.nums) : zag (pv (pread (cmdB m)).2 1) = m.cview ∧ zag (pv (pread (cmdB m)).2 2) = m.cstub ∧ zag (pv (pread (cmdB m)).2 3) = m.csaga ∧ zag (pv (pread (cmdB m)).2 4) = m.cstep ∧ zag (pv (pread (cmdB m)).2 5) = m.ctry ∧ decide (pv (pread (cmdB m)).2 6 = 1) = m.cback := by
  unfold cmdB
  rw [pread_fine (cmdF_fine h), cmdF_left]
  simp only [pv_num, pv_flag, pv_nil, true_and, false_and, if_false, Int.reduceEq, zag_ite, flag_ite, ne_eq, and_self]
set_option maxHeartbeats 4000000 in
theorem msgQ_fields {k : Nat} {m : MsgD} (h : m.sm k) (hk : k ≤ 5000) : (pread (msgB m)).2 = msgF m := by
  unfold msgB
  rw [pread_fine (msgF_fine h hk)]
set_option maxHeartbeats 4000000 in
theorem msgQ_nums (m : MsgD) : zag (pv (msgF m) 1) = m.kind ∧ zag (pv (msgF m) 2) = m.src ∧ zag (pv (msgF m) 3) = m.dst ∧ zag (pv (msgF m) 4) = m.view ∧ zag (pv (msgF m) 5) = m.last ∧ zag (pv (msgF m) 6) = m.num ∧ zag (pv (msgF m) 7) = m.commit ∧ zag (pv (msgF m) 8) = m.nonce ∧ zag (pv (msgF m) 9) = m.request ∧
    decide (pv (msgF m) 10 = 1) = m.lead ∧ decide (pv (msgF m) 11 = 1) = m.good ∧ decide (pv (msgF m) 12 = 1) = m.fenced := by
  rw [msgF_left]
  simp only [pv_num, pv_flag, pv_text, pv_rows, pv_ints, pv_nil, true_and, false_and, if_false, Int.reduceEq, zag_ite, flag_ite, ne_eq, not_false_eq_true, and_self]
set_option maxHeartbeats 4000000 in
theorem msgQ_texts (m : MsgD) : pb (msgF m) 13 = opB m.op ∧ pb (msgF m) 14 = replyB m ∧ pb (msgF m) 15 = cmdB m := by
  rw [msgF_left]
  simp only [pb_num, pb_flag, pb_text, pb_rows, pb_ints, pb_nil, true_and, false_and, if_false, Int.reduceEq, text_ite, ne_eq, not_false_eq_true, and_self]
theorem msgQ_ops {k : Nat} {m : MsgD} (h : m.sm k) (hk : k ≤ 5000) : ((msgF m).filter fun p => p.1 == 16).map (fun p => opQ p.2.2.2) = m.ops := by
  rw [msgF_left]
  simp only [List.filter_append, filter_text, filter_rows, filter_num, filter_flag, filter_ints, Int.reduceEq, reduceIte, List.nil_append, List.append_nil, if_false, List.map_map]
  rw [List.map_congr_left (g := id)]
  · simp
  · intro o ho
    exact opQ_B (h.ops o ho) hk
theorem msgQ_incs (m : MsgD) : ((msgF m).filter fun p => p.1 == 17).map (fun p => zag p.2.2.1) = m.incs := by
  rw [msgF_left]
  simp only [List.filter_append, filter_text, filter_rows, filter_num, filter_flag, filter_ints, Int.reduceEq, reduceIte, List.nil_append, List.append_nil, if_false, List.map_map]
  rw [List.map_congr_left (g := id)]
  · simp
  · intro o _
    exact zag_zig o
theorem msgQ_B {k : Nat} {m : MsgD} (h : m.sm k) (hk : k ≤ 5000) : msgQ (msgB m) = m := by
  obtain ⟨n1, n2, n3, n4, n5, n6, n7, n8, n9, n10, n11, n12⟩ := msgQ_nums m
  obtain ⟨t1, t2, t3⟩ := msgQ_texts m
  obtain ⟨r1, r2, r3, r4⟩ := replyQ_B h.nums
  obtain ⟨c1, c2, c3, c4, c5, c6⟩ := cmdQ_B h.nums
  unfold msgQ
  rw [msgQ_fields h hk, n1, n2, n3, n4, n5, n6, n7, n8, n9, n10, n11, n12, t1, t2, t3, r1, r2, r3, r4, c1, c2, c3, c4, c5, c6, opQ_B h.op hk, msgQ_ops h hk, msgQ_incs]
end Go.Proofs.YtehiaeihkdfclaaGreatDoor
/- What the document's readers say, on data: none of it is great; bytes that are written again are read alike by both. -/
namespace Go.Proofs.YtehiaeihkdfclaaGreatDoor
open Go.RowKit

theorem pread_bad {l : List Nat} (h : (pread l).1 ≠ 0) : (pread l).2 = [] := by
  have h1 := readOn_start l
  unfold readOn at h1
  rw [if_pos h] at h1
  rw [h1]
theorem pbytes_ge {p : PF} (h : pgood p = true) : 2 + p.2.2.2.length ≤ (pbytes p).length := by
  have h1 := (pgood_iff p).1 h
  have e1 := (enc_len (2 * p.1.toNat + 1)).1
  have e2 := (enc_len p.2.2.2.length).1
  have e3 := (enc_len (2 * p.1.toNat)).1
  have e4 := (enc_len p.2.2.1).1
  unfold pbytes
  rw [if_pos h]
  split
  · simp; omega
  · rename_i ht
    have h2 := h1.2.2
    rw [if_neg ht] at h2
    rw [h2]
    simp; omega
theorem prec_ge : ∀ ps : List PF, (∀ p ∈ ps, pgood p = true) → (ps.map fun p => 2 + p.2.2.2.length).sum ≤ (prec ps).length
  | [], _ => by simp
  | p :: r, h => by
    have h1 := pbytes_ge (h p (by simp))
    have h2 := prec_ge r fun q hq => h q (by simp [hq])
    unfold prec at h2 ⊢
    simp only [List.map_cons, List.sum_cons, List.flatten_cons, List.length_append] at *
    omega
theorem le_sum_mem {x : Nat} : ∀ {l : List Nat}, x ∈ l → x ≤ l.sum
  | [], h => by cases h
  | y :: r, h => by
    rw [List.sum_cons]
    rcases List.mem_cons.1 h with rfl | h
    · omega
    · have := le_sum_mem h
      omega
/-- The fields of bytes are not longer than they. -/
theorem pread_sum {l : List Nat} (hs : ∀ x ∈ l, x < 256) : ((pread l).2.map fun p => 2 + p.2.2.2.length).sum ≤ l.length := by
  by_cases h : (pread l).1 = 0
  · obtain ⟨h1, h2⟩ := pread_ok l.length l (Nat.le_refl _) hs h
    have h3 := prec_ge (pread l).2 fun p hp => (h2 p hp).1
    rw [h1] at h3
    exact h3
  · rw [pread_bad h]; simp
theorem pread_fits {l : List Nat} (hs : ∀ x ∈ l, x < 256) : ∀ p ∈ (pread l).2, pfits p ∧ (∀ x ∈ p.2.2.2, x < 256) ∧ p.2.2.2.length ≤ l.length := by
  intro p hp
  by_cases h : (pread l).1 = 0
  · obtain ⟨_, h2⟩ := pread_ok l.length l (Nat.le_refl _) hs h
    refine ⟨(h2 p hp).2.2, (h2 p hp).2.1, ?_⟩
    have h3 := pread_sum hs
    have h4 : 2 + p.2.2.2.length ≤ ((pread l).2.map fun p => 2 + p.2.2.2.length).sum := le_sum_mem (List.mem_map.2 ⟨p, hp, rfl⟩)
    omega
  · rw [pread_bad h] at hp; cases hp
theorem pread_count {l : List Nat} (hs : ∀ x ∈ l, x < 256) : 2 * (pread l).2.length ≤ l.length := by
  have h := pread_sum hs
  have h2 : ∀ ps : List PF, 2 * ps.length ≤ (ps.map fun p => 2 + p.2.2.2.length).sum := by
    intro ps
    induction ps with
    | nil => simp
    | cons p r ih => simp only [List.length_cons, List.map_cons, List.sum_cons]; omega
  have := h2 (pread l).2
  omega
theorem pfind_in (ps : List PF) (m : Int) : (pfind ps m).1 = pz ∨ (pfind ps m).1 ∈ ps := by
  unfold pfind
  split
  · rename_i p hp
    exact .inr (List.mem_reverse.1 (List.mem_of_find?_eq_some hp))
  · exact .inl rfl
theorem pb_le {l : List Nat} (hs : ∀ x ∈ l, x < 256) (m : Int) : (pb (pread l).2 m).length ≤ l.length ∧ ∀ x ∈ pb (pread l).2 m, x < 256 := by
  unfold pb
  rcases pfind_in (pread l).2 m with h | h
  · rw [h]; simp [pz]
  · exact ⟨(pread_fits hs _ h).2.2, (pread_fits hs _ h).2.1⟩
theorem pv_lt {l : List Nat} (hs : ∀ x ∈ l, x < 256) (m : Int) : pv (pread l).2 m < 18446744073709551616 := by
  unfold pv
  rcases pfind_in (pread l).2 m with h | h
  · rw [h]; simp [pz]
  · exact (pread_fits hs _ h).1.1
theorem zag_i64 {l : List Nat} (hs : ∀ x ∈ l, x < 256) (m : Int) : I64 (zag (pv (pread l).2 m)) := zag_lt _ (pv_lt hs m)
theorem size_str {l : List Nat} : (str l).size = l.length := by
  unfold str
  show (Array.size _) = _
  simp

theorem stepQ_sm {b : List Nat} (hs : ∀ x ∈ b, x < 256) : (stepQ b).sm b.length :=
  ⟨by unfold stepQ; rw [size_str]; exact (pb_le hs 1).1, zag_i64 hs 2, zag_i64 hs 3, zag_i64 hs 4⟩
theorem defQ_sm {b : List Nat} (hs : ∀ x ∈ b, x < 256) : (defQ b).sm b.length := by
  refine ⟨by unfold defQ; rw [size_str]; exact (pb_le hs 1).1, ?_, fun s hss => ?_⟩
  · unfold defQ
    rw [List.length_map]
    have h1 := List.length_filter_le (fun p : PF => p.1 == 2) (pread b).2
    have h2 := pread_count hs
    omega
  · unfold defQ at hss
    obtain ⟨p, hp, rfl⟩ := List.mem_map.1 hss
    have h1 := pread_fits hs p (List.mem_filter.1 hp).1
    have h2 := stepQ_sm h1.2.1
    exact ⟨Nat.le_trans h2.1 h1.2.2, h2.2⟩
theorem sum_filter (f : PF → Bool) (g : PF → Nat) : ∀ ps : List PF, ((ps.filter f).map g).sum ≤ (ps.map g).sum
  | [] => by simp
  | p :: r => by
    have ih := sum_filter f g r
    by_cases h : f p = true
    · rw [List.filter_cons_of_pos h]
      simp only [List.map_cons, List.sum_cons]
      omega
    · rw [List.filter_cons_of_neg h]
      simp only [List.map_cons, List.sum_cons]
      omega
theorem defQ_room {b : List Nat} (hs : ∀ x ∈ b, x < 256) : proom (defF (defQ b)) ≤ 20 + 71 * b.length := by
  have h1 := proom_text 1 (nums (defQ b).name)
  have hn : (defQ b).name.size ≤ b.length := (defQ_sm hs).1
  rw [nums_len] at h1
  have h2 : ∀ ps : List PF, (∀ p ∈ ps, ∀ x ∈ p.2.2.2, x < 256) → proom (ps.map fun p => prow 2 (stepB (stepQ p.2.2.2))) ≤ 70 * (ps.map fun p => 2 + p.2.2.2.length).sum := by
    intro ps
    induction ps with
    | nil => intro _; simp [proom]
    | cons p r ih =>
      intro hp
      have ih2 := ih fun q hq => hp q (by simp [hq])
      have h3 := stepB_len (stepQ p.2.2.2)
      have h4 := (stepQ_sm (hp p (by simp))).1
      simp only [proom, List.map_cons, List.sum_cons, prow] at ih2 ⊢
      omega
  have h3 := h2 ((pread b).2.filter fun p => p.1 == 2) fun p hp => (pread_fits hs p (List.mem_filter.1 hp).1).2.1
  have h4 := sum_filter (fun p => p.1 == 2) (fun p => 2 + p.2.2.2.length) (pread b).2
  have h5 := pread_sum hs
  have h6 : (defQ b).steps.map (fun s => prow 2 (stepB s)) = ((pread b).2.filter fun p => p.1 == 2).map fun p => prow 2 (stepB (stepQ p.2.2.2)) := by
    unfold defQ
    simp only [List.map_map]
    rfl
  simp only [defF, List.flatten_cons, List.flatten_nil, proom_append]
  rw [h6]
  have : proom [] = 0 := rfl
  omega
theorem opQ_sm {b : List Nat} (hs : ∀ x ∈ b, x < 256) : (opQ b).sm b.length := by
  have h1 := pb_le hs 4
  have h2 := defQ_sm h1.2
  exact ⟨zag_i64 hs 1, zag_i64 hs 2, zag_i64 hs 3, h2.mono h1.1, zag_i64 hs 5, zag_i64 hs 6, zag_i64 hs 7⟩
theorem opQ_def {b : List Nat} (hs : ∀ x ∈ b, x < 256) : proom (defF (opQ b).defn) ≤ 20 + 71 * b.length := by
  have h1 := pb_le hs 4
  have h2 : proom (defF (defQ (pb (pread b).2 4))) ≤ _ := defQ_room h1.2
  have h3 : (opQ b).defn = defQ (pb (pread b).2 4) := rfl
  rw [h3]
  omega
theorem opQ_room {b : List Nat} (hs : ∀ x ∈ b, x < 256) : proom (opF (opQ b)) ≤ 220 + 71 * b.length := by
  obtain ⟨o, ho⟩ : ∃ o, opQ b = o := ⟨_, rfl⟩
  have h0 := opQ_def hs
  rw [ho] at h0 ⊢
  have h1 := proom_num 1 o.kind
  have h2 := proom_num 2 o.client
  have h3 := proom_num 3 o.request
  have h4 := proom_text 4 (defB o.defn)
  have h5 := proom_num 5 o.saga
  have h6 := proom_num 6 o.step
  have h7 := proom_num 7 o.try_
  have h8 := proom_flag 8 o.back
  have h9 := proom_flag 9 o.good
  have h10 : (defB o.defn).length ≤ _ := prec_len (defF o.defn)
  simp only [opF, List.flatten_cons, List.flatten_nil, proom_append]
  have : proom [] = 0 := rfl
  omega

/-- What the document's ReadDef, ReadOp say. -/
def readDefQ (l : List Nat) : Nat × DefD := if (pread l).1 ≠ 0 then ((pread l).1, .zero) else if defB (defQ l) = l ∧ defG (defQ l) = true then (0, defQ l) else (4, .zero)
def readOpQ (l : List Nat) : Nat × OpD := if (pread l).1 ≠ 0 then ((pread l).1, .zero) else if opB (opQ l) = l ∧ opG (opQ l) = true then (0, opQ l) else (4, .zero)
theorem readDefQ_eq {l : List Nat} (hs : ∀ x ∈ l, x < 256) (hl : l.length ≤ 5000) : readDefQ l = readDef l := by
  unfold readDefQ readDef
  split
  · rfl
  · by_cases h : defG (defR l) = true ∧ defB (defR l) = l
    · have e : defQ l = defR l := by
        have h1 := defQ_B (defG_sm h.1) (by omega)
        rwa [h.2] at h1
      rw [e, if_pos ⟨h.2, h.1⟩, if_pos h]
    · rw [if_neg h, if_neg]
      rintro ⟨h1, h2⟩
      have e : defR l = defQ l := by
        have h3 := defR_B (defQ_sm hs) hl
        rwa [h1] at h3
      exact h ⟨by rw [e]; exact h2, by rw [e]; exact h1⟩
theorem readOpQ_eq {l : List Nat} (hs : ∀ x ∈ l, x < 256) (hl : l.length ≤ 5000) : readOpQ l = readOp l := by
  unfold readOpQ readOp
  split
  · rfl
  · by_cases h : opG (opR l) = true ∧ opB (opR l) = l
    · have e : opQ l = opR l := by
        have h1 := opQ_B (opG_sm h.1) (by omega)
        rwa [h.2] at h1
      rw [e, if_pos ⟨h.2, h.1⟩, if_pos h]
    · rw [if_neg h, if_neg]
      rintro ⟨h1, h2⟩
      have e : opR l = opQ l := by
        have h3 := opR_B (opQ_sm hs) hl
        rwa [h1] at h3
      exact h ⟨by rw [e]; exact h2, by rw [e]; exact h1⟩

theorem msgQ_counts {b : List Nat} (hs : ∀ x ∈ b, x < 256) : (msgQ b).ops.length ≤ b.length ∧ (msgQ b).incs.length ≤ b.length := by
  have h1 := List.length_filter_le (fun p : PF => p.1 == 16) (pread b).2
  have h2 := List.length_filter_le (fun p : PF => p.1 == 17) (pread b).2
  have h3 := pread_count hs
  unfold msgQ
  simp only [List.length_map]
  omega
/-- Bytes that are an envelope alone are its content, sealed. -/
theorem opn_all {l : List Nat} (hs : ∀ x ∈ l, x < 256) (h : (opn l).2.2 = 0) (hn : (opn l).2.1 = l.length) : (opn l).1.length ≤ 65536 ∧ sealed (opn l).1 = l := by
  unfold opn at h hn ⊢
  split at h
  · rename_i h1; exact absurd h h1
  · rename_i h1
    split at h
    · cases h
    · rename_i h2
      have hb : (bnd l).2.2 = 0 := Classical.byContradiction h1
      have h2' : (l.drop (bnd l).2.1).take 4 = four (sum (l.take (bnd l).2.1)) := Classical.byContradiction h2
      rw [if_neg h1, if_neg h2] at hn ⊢
      simp only at hn ⊢
      unfold bnd at hb hn h2' ⊢
      split at hb
      · cases hb
      · rename_i b1
        split at hb
        · cases hb
        · rename_i b2
          split at hb
          · rename_i b3; exact absurd hb b3
          · rename_i b3
            split at hb
            · cases hb
            · rename_i b4
              rw [if_neg b1, if_neg b2, if_neg b3, if_neg b4] at hn h2' ⊢
              simp only at hn h2' ⊢
              have hs1 : ∀ x ∈ l.drop 1, x < 256 := fun x hx => hs x (List.mem_of_mem_drop hx)
              have hc : (cnt (l.drop 1)).1 ≤ 65536 := (cnt_fits _).1
              obtain ⟨V, z, hV⟩ : ∃ V z, cnt (l.drop 1) = (V, z, 0) := ⟨_, _, by rw [← Classical.byContradiction b3]⟩
              rw [hV] at hn h2' b4 hc ⊢
              simp only at hn h2' b4 hc ⊢
              have hnum : num (l.drop 1) 0 0 = (V, z, 0) := by
                have hcases := num_cases (l.drop 1) 0 0
                unfold cnt at hV
                split at hV
                · simp at hV
                · split at hV
                  · simp at hV
                  · rename_i c2
                    simp only [Prod.mk.injEq, and_true] at hV
                    rcases hcases with ⟨e1, _⟩ | e | e
                    · exact Prod.ext hV.1 (Prod.ext hV.2 e1)
                    · rw [e] at c2; simp at c2
                    · rw [e] at c2; simp at c2
              obtain ⟨q1, q2, _⟩ := num_ok hs1 hnum
              have hlen : (l.drop 1).length = l.length - 1 := List.length_drop
              have e0 : 1 + z + V - (1 + z) = V := by omega
              rw [e0]
              have hx : ((l.drop (1 + z)).take V).length = V := by rw [List.length_take, List.length_drop]; omega
              refine ⟨by rw [hx]; exact hc, ?_⟩
              unfold sealed
              rw [if_neg (by rw [hx]; omega)]
              have hp : sealP ((l.drop (1 + z)).take V) = l.take (1 + z + V) := by
                unfold sealP
                rw [hx, ← q2]
                cases l with
                | nil => simp at b1
                | cons a r =>
                  have ha : a = 3 := by simpa using b2
                  subst ha
                  simp only [List.drop_succ_cons, List.drop_zero, show 1 + z = z + 1 from by omega, show z + 1 + V = (z + V) + 1 from by omega, List.take_succ_cons, List.take_add]
              rw [hp, ← h2']
              have : (l.drop (1 + z + V)).take 4 = l.drop (1 + z + V) := List.take_of_length_le (by rw [List.length_drop]; omega)
              rw [this, List.take_append_drop]

/-- What the document's Read says. -/
def readMQ (l : List Nat) : Nat × MsgD :=
  if (opn l).2.2 ≠ 0 then ((opn l).2.2, .zero) else if (opn l).2.1 = l.length ∧ msgG (msgQ (opn l).1) = true ∧ msgB (msgQ (opn l).1) = (opn l).1 then (0, msgQ (opn l).1) else (4, .zero)
theorem readMQ_eq {l : List Nat} (hs : ∀ x ∈ l, x < 256) (hl : l.length ≤ 5000) : readMQ l = readM l := by
  unfold readMQ readM
  split
  · rfl
  · rename_i h0
    have h0' : (opn l).2.2 = 0 := Classical.byContradiction h0
    have hxs := opn_small hs
    have hxl := opn_len l
    by_cases h : bytesM (msgR (opn l).1) = l
    · have hne : bytesM (msgR (opn l).1) ≠ [] := fun e => by
        rw [e] at h
        rw [← h] at h0'
        exact absurd h0' (by decide)
      have hg := bytesM_some.1 hne
      have hn : (msgR (opn l).1).ops.length ≤ 100000 := Nat.le_trans (msgR_ops _) (by omega)
      have hsm := msgG0_sm hg.1 hn
      have ho : opn l = (msgB (msgR (opn l).1), (sealed (msgB (msgR (opn l).1))).length, 0) := by
        have h1 := opn_sealed [] hg.2
        have h2 : sealed (msgB (msgR (opn l).1)) = l := by rw [← bytesM_is hne]; exact h
        rw [List.append_nil] at h1
        rw [h2] at h1 ⊢
        exact h1
      have e1 : msgB (msgR (opn l).1) = (opn l).1 := by
        have := congrArg Prod.fst ho
        exact this.symm
      have e2 : msgQ (opn l).1 = msgR (opn l).1 := by
        have h1 := msgQ_B hsm (Nat.le_refl _)
        rwa [e1] at h1
      have e3 : (opn l).2.1 = l.length := by
        have h1 := congrArg (fun q => q.2.1) ho
        simp only at h1
        rw [h1, ← bytesM_is hne, h]
      have e4 : msgG (msgR (opn l).1) = true := by rw [msgG, hg.1]; simpa using hg.2
      rw [if_pos h, e2, if_pos ⟨e3, e4, e1⟩]
    · rw [if_neg h, if_neg]
      rintro ⟨h1, h2, h3⟩
      have hc := msgQ_counts hxs
      have hg : msgG0 (msgQ (opn l).1) = true ∧ (msgB (msgQ (opn l).1)).length ≤ 65536 := by simpa [msgG] using h2
      have hsm := msgG0_sm hg.1 (by omega)
      have e : msgR (opn l).1 = msgQ (opn l).1 := by
        have h4 := msgR_B hsm (Nat.le_refl _)
        rwa [h3] at h4
      obtain ⟨h5, h6⟩ := opn_all hs h0' h1
      apply h
      rw [e]
      unfold bytesM
      rw [if_pos hg.1, h3, h6]
end Go.Proofs.YtehiaeihkdfclaaGreatDoor
/- A struct literal at an operation, its parts said as a list. -/
namespace Go.Proofs.YtehiaeihkdfclaaGreatDoor
open Go.RowKit

section
variable {P : Program} {w : World} {op : Oper} {a : Act}
theorem parts_list (xs : Array (Nat × Operand)) (ps : List (Nat × Value)) (hp : xs.toList.map (fun q => (q.1, a.eval q.2)) = ps) : (xs.map fun (i, x) => (i, a.eval x)).toList = ps := by
  rw [Array.toList_map]
  exact hp
theorem wpList_build_parts {ops : Array Oper} {rest : List Oper} {Q : Exit → Act → World → Prop} (hgd : op.guard = none) (t : TypeId) (xs : Array (Nat × Operand)) (ho : op.op = .build t xs) (ps : List (Nat × Value))
    (hp : xs.toList.map (fun q => (q.1, a.eval q.2)) = ps) (cells : Array Value) (hb : P.built t ps = some cells) (h : wpList P ops Q rest (a.put op.dst (.agg cells)) w) : wpList P ops Q (op :: rest) a w := by
  have e := parts_list xs ps hp
  refine wpList_build hgd t _ ho ?_ ?_
  · rw [e, hb]; rfl
  · rw [e, hb]; exact h
theorem exec_build_parts (t : TypeId) (xs : Array (Nat × Operand)) (ho : op.op = .build t xs) (ps : List (Nat × Value)) (hp : xs.toList.map (fun q => (q.1, a.eval q.2)) = ps) (cells : Array Value) (hb : P.built t ps = some cells) :
    (execOp a.eval op).run P w = .ok (.value (.agg cells)) w := by
  have e := parts_list xs ps hp
  unfold execOp
  simp only [ho, Sem.run_bind, run_build w t _ cells (by rw [e]; exact hb), Result.andThen_ok]
  rfl
end
end Go.Proofs.YtehiaeihkdfclaaGreatDoor
/- The walk over droverref09.def: a definition out of bytes, as the document reads it. -/
namespace Go.Proofs.YtehiaeihkdfclaaGreatDoor
open Go.RowKit

section
variable {fs : List Fd} {ps : List PF} {A : Option Addr} {n c : Nat} {m : Int} {w : World}
theorem rval_is (hp : fs.map Fd.pf = ps) (hf : FHolds w w.heap.size A n fs) (hn : n ≤ 1099511627000) : Calls Tryz.prog 48 #[.slice A n c, .int .i64 m] w fun e w' => e = .returned (.int .i64 (zag (pv ps m))) ∧ Later w w' := by subst hp; exact rval_any hf hn
theorem ris_is (hp : fs.map Fd.pf = ps) (hf : FHolds w w.heap.size A n fs) (hn : n ≤ 1099511627000) : Calls Tryz.prog 49 #[.slice A n c, .int .i64 m] w fun e w' => e = .returned (.bool (decide (pv ps m = 1))) ∧ Later w w' := by subst hp; exact ris_any hf hn
theorem rbytes_is (hp : fs.map Fd.pf = ps) (hf : FHolds w w.heap.size A n fs) (hn : n ≤ 1099511627000) : Calls Tryz.prog 51 #[.slice A n c, .int .i64 m] w fun e w' => ∃ A' n' c', e = .returned (.slice A' n' c') ∧ Holds w' w'.heap.size A' n' (pb ps m) ∧ n' ≤ c' ∧ Later w w' := by subst hp; exact rbytes_any hf hn
end
theorem own_on {w w1 : World} {base e size n : Nat} {v : Value} {xs : List Value} (ho : w.ownsRow base e size v n xs) (hb : Below w.heap.size w w1) : w1.ownsRow base e size v n xs := by
  refine ⟨ho.1, ?_⟩
  rcases ho.2 with h | ⟨g, cap, cur, hv, h1, h2, h3⟩
  · exact .inl h
  · exact .inr ⟨g, cap, cur, hv, h1, (hb.block g (lt_of_block h2)).trans h2, h3⟩
/-- A row stays where one block below it is written. -/
theorem own_off {w w1 : World} {base e size n g : Nat} {v : Value} {xs : List Value} (ho : w.ownsRow base e size v n xs) (hg : w.grownBy w1 (some g)) (hlt : g < base) : w1.ownsRow base e size v n xs := by
  refine ⟨ho.1, ?_⟩
  rcases ho.2 with h | ⟨k, cap, cur, hv, h1, h2, h3⟩
  · exact .inl h
  · exact .inr ⟨k, cap, cur, hv, h1, (hg.block k (lt_of_block h2) (by intro e; have := Option.some.inj e; omega)).trans h2, h3⟩
theorem own_one {w : World} {base e size n : Nat} {v : Value} {xs : List Value} (ho : w.ownsRow base e size v n xs) : v.oneCell' = true := by
  rcases ho.2 with ⟨h, _⟩ | ⟨g, cap, cur, h, _⟩ <;> rw [h] <;> rfl
theorem built_step (a : ByteArray) (b c d : Int) (e f : Bool) : Tryz.prog.built 68 [(0, .string a), (1, .int .i64 b), (2, .int .i64 c), (3, .int .i64 d), (4, .bool e), (5, .bool f)] = some #[.string a, .int .i64 b, .int .i64 c, .int .i64 d, .bool e, .bool f] := by kernel_rfl
theorem Tryz.infoStepQ : (Tryz.prog.info? 68).map (fun i => (i.zero, i.size, i.bytes)) = some (some (.agg #[.string ⟨#[]⟩, .int .i64 0, .int .i64 0, .int .i64 0, .bool false, .bool false]), 6, 48) := by kernel_rfl
theorem stepsq_one (l : List StepD) : ∀ u ∈ l.flatMap StepD.cells, u.oneCell' = true := by
  intro u hu
  obtain ⟨s, _, h⟩ := List.mem_flatMap.1 hu
  exact s.one u h
/-- The steps among the first q fields. -/
def stq (ps : List PF) (q : Nat) : List StepD := ((ps.take q).filter fun p => p.1 == 2).map fun p => stepQ p.2.2.2
theorem stq_hit {ps : List PF} {q : Nat} {p : PF} (h : ps[q]? = some p) (hp : p.1 = 2) : stq ps (q + 1) = stq ps q ++ [stepQ p.2.2.2] := by
  unfold stq
  rw [List.take_add_one, h]
  simp [List.filter_append, hp]
theorem stq_miss {ps : List PF} {q : Nat} {p : PF} (h : ps[q]? = some p) (hp : ¬ p.1 = 2) : stq ps (q + 1) = stq ps q := by
  unfold stq
  rw [List.take_add_one, h]
  simp [List.filter_append, hp]
theorem stq_le (ps : List PF) (q : Nat) : (stq ps q).length ≤ q := by
  unfold stq
  rw [List.length_map]
  have h1 := List.length_filter_le (fun p : PF => p.1 == 2) (ps.take q)
  rw [List.length_take] at h1
  omega
theorem own_form {w : World} {base e size n : Nat} {v : Value} {xs : List Value} (ho : w.ownsRow base e size v n xs) : ∃ A m c, v = .slice A m c := by
  rcases ho.2 with ⟨h, _⟩ | ⟨g, cap, cur, h, _⟩ <;> exact ⟨_, _, _, h⟩
theorem set1 {w : World} {g T : Nat} {a b c : Value} (h : w.heap[g]? = some (.cells #[a, b] T (0, 0))) : (w.setCell ⟨g, 1, none⟩ c).heap[g]? = some (.cells #[a, c] T (0, 0)) := by
  have h1 := heap_setCells g [c] 1 w _ h
  simp [putAt] at h1
  exact h1

set_option maxHeartbeats 4000000 in
set_option maxRecDepth 100000 in
theorem rdef_any {A : Option Addr} {n c : Nat} {l : List Nat} {w : World} (hl : Holds w w.heap.size A n l) (hn : n ≤ 5000) (hc : n ≤ c) :
    Calls Tryz.prog 55 #[.slice A n c] w fun e w' => ∃ sv, e = .returned (.agg #[.string (defQ l).name, sv]) ∧ StepsAt (w.heap.size ≤ ·) w' sv (defQ l).steps ∧ Later w w' := by
  obtain ⟨i0, hi, hz0, hz1, hz2⟩ := info_parts Tryz.infoStepQ
  have HB0 : Hid (Later w (w.alloc (.cells #[.string ⟨#[]⟩, .slice none 0 0] 24 (0, 0)))) := (Below.refl _ _).alloc (Nat.le_refl _) _
  have CR := hide (rread_any A n c l _ (hl.later HB0.out) (by omega) hc)
  have HS := hide hl.2.1
  have hln := hl.1
  clear hl
  go_enter Tryz.func55, Tryz.ntmps55
  go_wp2_with (fail)
  refine CR.out.mono ?_
  rintro e w1 ⟨A1, n1, c1, fs, rfl, hp1, hf1, hc1, hb1⟩
  have HF1 := hide hf1
  have HP1 := hide hp1
  have HB1 : Hid (Later w w1) := Later.trans HB0.out hb1
  have hn1 : n1 ≤ 5000 := by
    have h1 := hf1.1
    have h2 := pread_count HS.out
    rw [← hp1, List.length_map] at h2
    omega
  have HQ1 : Hid (w1.heap[w.heap.size]? = some (.cells #[.string ⟨#[]⟩, .slice none 0 0] 24 (0, 0))) := (Below.block hb1 w.heap.size (by simp)).trans (heap_alloc_new _ _)
  clear hf1 hp1 hb1 CR
  go_wp2_with (fail)
  refine (rbytes_is HP1.out HF1.out (by omega)).mono ?_
  rintro e w2 ⟨A2, n2, c2, rfl, hh2, _, hl2⟩
  have d1 := run_str w2 w2.heap.size A2 n2 c2 _ hh2
  obtain ⟨nm, hnm⟩ : ∃ nm, str (pb (pread l).2 1) = nm := ⟨_, rfl⟩
  rw [hnm] at d1
  have HNM := hide hnm
  have HF2 := hide (HF1.out.later hl2)
  have HB2 : Hid (Later w w2) := Later.trans HB1.out hl2
  obtain ⟨B5, hB5⟩ : ∃ B5, w2.heap.size = B5 := ⟨_, rfl⟩
  have HQ2 : Hid (w2.heap[w.heap.size]? = some (.cells #[.string ⟨#[]⟩, .slice none 0 0] 24 (0, 0))) := (Below.block hl2 w.heap.size (lt_of_block HQ1.out)).trans HQ1.out
  have hB5' : w.heap.size < B5 := by rw [← hB5]; exact lt_of_block HQ2.out
  clear hh2 hl2 hnm
  go_wp2
  try rw [hB5]
  have HX0 : Hid ((w2.alloc (.cells #[.string nm, .slice none 0 0] 24 (0, 0))).heap[B5]? = some (.cells #[.string nm, .slice none 0 0] 24 (0, 0))) := by rw [← hB5]; exact heap_alloc_new _ _
  have HL0 : Hid (Below B5 w2 (w2.alloc (.cells #[.string nm, .slice none 0 0] 24 (0, 0)))) := by rw [← hB5]; exact Later.alloc _ _
  have HFB : Hid (∀ w', Below B5 w2 w' → FHolds w' B5 A1 n1 fs) := fun w' h => by have h1 := HF2.out.below (by rw [hB5]; exact h); rwa [hB5] at h1
  have HBB : Hid (∀ w', Below B5 w2 w' → Later w w') := fun w' h => Later.trans HB2.out (by rw [← hB5] at h; exact h)
  have HFL : Hid (fs.length = n1) := HF2.out.1
  clear HF2 HF1 d1
  go_loopw [21] (fun i wr => ∃ (q : Nat) (sv : Value), q ≤ n1 ∧ i = .int .i64 (q : Int) ∧ wr.heap[B5]? = some (.cells #[.string nm, sv] 24 (0, 0)) ∧ wr.ownsRow (B5 + 1) 68 6 sv (stq (fs.map Fd.pf) q).length ((stq (fs.map Fd.pf) q).flatMap StepD.cells) ∧ Below B5 w2 wr) (fun i _ => n1 - (intOf i).toNat)
  case atStart => exact ⟨0, _, by omega, by go_num, HX0.out, World.ownsRow_nil _ _ _ _, HL0.out⟩
  case round =>
    obtain ⟨q, sv, hq, rfl, hx, ho, hb⟩ := hrel
    have HX := hide hx
    have HO := hide ho
    have HB := hide hb
    have HBS : Hid (B5 < wr.heap.size) := lt_of_block hx
    clear hx ho hb HX0 HL0
    by_cases hlt : q < n1
    · obtain ⟨f, b, off, hfk, hok, hA1, hbB, q0, q1, q2, q3, _⟩ := FHolds.at_ (HFB.out wr HB.out) (k := q) hlt
      obtain ⟨num, text, fv, fa, fn, fc, fb⟩ := f
      simp only at q0 q1 q2 q3
      subst hA1
      have hpk : (fs.map Fd.pf)[q]? = some (num, text, fv, fb) := by rw [List.getElem?_map, hfk]; rfl
      have HOK := hide hok
      have HHK := hide (fun (h : num = 2) => stq_hit hpk h)
      have HMK := hide (fun (h : ¬ num = 2) => stq_miss hpk h)
      have hfbl : fn ≤ 5000 ∧ ∀ x ∈ fb, x < 256 := by
        have h1 := pread_fits HS.out (num, text, fv, fb) (by rw [← HP1.out]; exact List.mem_of_getElem? hpk)
        have h2 : fb.length = fn := hok.2.2.2.1
        simp only at h1
        exact ⟨by omega, h1.2.1⟩
      have HFN := hide hfbl.2
      have hfn := hfbl.1
      clear hfk hok hpk hfbl
      by_cases hm : num = 2
      · subst hm
        have hm2 : ((2 : Int) != 2) = false := by simp
        have HM2 := hide (HHK.out rfl)
        have HE7 : Hid (Later wr (wr.alloc (.cells #[.int .i64 2, .bool text, .int .u64 fv, .slice fa fn fc] 92 (0, 0)))) := Later.alloc _ _
        have CR8 := hide (rread_any fa fn fc fb (wr.alloc (.cells #[.int .i64 2, .bool text, .int .u64 fv, .slice fa fn fc] 92 (0, 0))) ((HOK.out.2.2.2.more (Nat.le_of_lt HBS.out)).later HE7.out) (by omega) HOK.out.2.2.1)
        have HCN : Hid ((stq (fs.map Fd.pf) q).length ≤ 5000) := by have h1 := stq_le (fs.map Fd.pf) q; show _ ≤ _; omega
        have HNN : Hid (n1 ≤ 5000) := hn1
        clear HHK HMK
        go_wp2_with (fail)
        refine CR8.out.mono ?_
        rintro e w8 ⟨A8, n8, c8, fs8, rfl, hp8, hf8, _, hb8⟩
        have HP8 := hide hp8
        have HF8 := hide (hf8.later (Later.drew w8))
        have HE8 : Hid (Later wr w8.drew) := Later.trans HE7.out (Later.trans hb8 (Later.drew w8))
        have HN8 : Hid (n8 ≤ 5000) := by
          have h1 := hf8.1
          have h2 := pread_count HFN.out
          have h3 : fb.length = fn := HOK.out.2.2.2.1
          rw [← hp8, List.length_map] at h2
          show _ ≤ _
          omega
        clear hp8 hf8 hb8 CR8 q0 q1 q2 q3
        go_wp2
        refine wp_region_S (fun j => j == 17 || j == 19) (by kernel_rfl) ?_
        refine wpAnyS_take (i := 0) (d := some 34) (v := ?var0) rfl rfl (by kernel_rfl) (by kernel_rfl) (by kernel_rfl) (by kernel_rfl) (by kernel_rfl) (fun _ _ _ h => h) (by rfl) ?yar0 ?_
        case yar0 => (intro w' hw'; go_simp; try (with_reducible rfl))
        simp only [Act.put]; try simp only [List.setIfInBounds_toArray]; try simp only [List.set_cons_zero, List.set_cons_succ]
        refine wpAnyS_take (i := 1) (d := some 35) (v := sv) rfl rfl (by kernel_rfl) (by kernel_rfl) (by kernel_rfl) (by kernel_rfl) (by kernel_rfl) (fun _ _ _ h => h) (by rfl) ?yar1 ?_
        case yar1 => (intro w' hw'; have hc := cell_of_row w' B5 1 _ _ _ ((Below.block (HE8.out.trans hw') B5 HBS.out).trans HX.out); simp only [List.getElem?_toArray, List.getElem?_cons_zero, List.getElem?_cons_succ] at hc; go_simp; try (with_reducible rfl))
        simp only [Act.put]; try simp only [List.setIfInBounds_toArray]; try simp only [List.set_cons_zero, List.set_cons_succ]
        refine wpAnyS_take (i := 2) (d := some 36) (v := ?var2) rfl rfl (by kernel_rfl) (by kernel_rfl) (by kernel_rfl) (by kernel_rfl) (by kernel_rfl) (fun _ _ _ h => h) (by rfl) ?yar2 ?_
        case yar2 => (intro w' hw'; go_simp; try (with_reducible rfl))
        simp only [Act.put]; try simp only [List.setIfInBounds_toArray]; try simp only [List.set_cons_zero, List.set_cons_succ]
        refine wpAnyS_take (i := 5) (d := some 39) (v := ?var5) rfl rfl (by kernel_rfl) (by kernel_rfl) (by kernel_rfl) (by kernel_rfl) (by kernel_rfl) (fun _ _ _ h => h) (by rfl) ?yar5 ?_
        case yar5 => (intro w' hw'; go_simp; try (with_reducible rfl))
        simp only [Act.put]; try simp only [List.setIfInBounds_toArray]; try simp only [List.set_cons_zero, List.set_cons_succ]
        refine wpAnyS_take (i := 7) (d := some 41) (v := ?var7) rfl rfl (by kernel_rfl) (by kernel_rfl) (by kernel_rfl) (by kernel_rfl) (by kernel_rfl) (fun _ _ _ h => h) (by rfl) ?yar7 ?_
        case yar7 => (intro w' hw'; go_simp; try (with_reducible rfl))
        simp only [Act.put]; try simp only [List.setIfInBounds_toArray]; try simp only [List.set_cons_zero, List.set_cons_succ]
        refine wpAnyS_take (i := 9) (d := some 43) (v := ?var9) rfl rfl (by kernel_rfl) (by kernel_rfl) (by kernel_rfl) (by kernel_rfl) (by kernel_rfl) (fun _ _ _ h => h) (by rfl) ?yar9 ?_
        case yar9 => (intro w' hw'; go_simp; try (with_reducible rfl))
        simp only [Act.put]; try simp only [List.setIfInBounds_toArray]; try simp only [List.set_cons_zero, List.set_cons_succ]
        refine wpAnyS_take (i := 11) (d := some 45) (v := ?var11) rfl rfl (by kernel_rfl) (by kernel_rfl) (by kernel_rfl) (by kernel_rfl) (by kernel_rfl) (fun _ _ _ h => h) (by rfl) ?yar11 ?_
        case yar11 => (intro w' hw'; go_simp; try (with_reducible rfl))
        simp only [Act.put]; try simp only [List.setIfInBounds_toArray]; try simp only [List.set_cons_zero, List.set_cons_succ]
        refine wpAnyS_take (i := 13) (d := some 47) (v := ?var13) rfl rfl (by kernel_rfl) (by kernel_rfl) (by kernel_rfl) (by kernel_rfl) (by kernel_rfl) (fun _ _ _ h => h) (by rfl) ?yar13 ?_
        case yar13 => (intro w' hw'; go_simp; try (with_reducible rfl))
        simp only [Act.put]; try simp only [List.setIfInBounds_toArray]; try simp only [List.set_cons_zero, List.set_cons_succ]
        refine wpAnyS_only (i := 3) rfl (by kernel_rfl) (by rfl) fun K hK => ?_
        go_simp
        refine (rbytes_is HP8.out HF8.out (by have := HN8.out; omega)).mono ?_
        rintro e w9 ⟨A9, n9, c9, rfl, hh9, _, hl⟩
        have HH9 := hide hh9
        have HF9 := hide (HF8.out.later hl)
        have HD9 : Hid (Later w8.drew w9) := hl
        refine hK.out _ _ hl ?_
        clear hl hh9
        clear hK K
        try (simp only [Act.put]; try simp only [List.setIfInBounds_toArray]; try simp only [List.set_cons_zero, List.set_cons_succ])
        refine wpAnyS_take (i := 4) (d := some 38) (v := .string (str (pb (pread fb).2 1))) rfl rfl (by kernel_rfl) (by kernel_rfl) (by kernel_rfl) (by kernel_rfl) (by kernel_rfl) (fun _ _ _ h => h) (by rfl) ?yar4 ?_
        case yar4 => (intro w' hw'; have d1 := run_str w' w'.heap.size A9 n9 c9 (pb (pread fb).2 1) (HH9.out.later hw'); go_simp)
        simp only [Act.put]; try simp only [List.setIfInBounds_toArray]; try simp only [List.set_cons_zero, List.set_cons_succ]
        refine wpAnyS_only (i := 6) rfl (by kernel_rfl) (by rfl) fun K hK => ?_
        go_simp
        refine (rval_is HP8.out HF9.out (by have := HN8.out; omega)).mono ?_
        rintro e w10 ⟨rfl, hl⟩
        have HF10 := hide (HF9.out.later hl)
        have HD10 : Hid (Later w8.drew w10) := HD9.out.trans hl
        refine hK.out _ _ hl ?_
        clear hl
        clear hK K
        try (simp only [Act.put]; try simp only [List.setIfInBounds_toArray]; try simp only [List.set_cons_zero, List.set_cons_succ])
        refine wpAnyS_only (i := 8) rfl (by kernel_rfl) (by rfl) fun K hK => ?_
        go_simp
        refine (rval_is HP8.out HF10.out (by have := HN8.out; omega)).mono ?_
        rintro e w11 ⟨rfl, hl⟩
        have HF11 := hide (HF10.out.later hl)
        have HD11 : Hid (Later w8.drew w11) := HD10.out.trans hl
        refine hK.out _ _ hl ?_
        clear hl
        clear hK K
        try (simp only [Act.put]; try simp only [List.setIfInBounds_toArray]; try simp only [List.set_cons_zero, List.set_cons_succ])
        refine wpAnyS_only (i := 10) rfl (by kernel_rfl) (by rfl) fun K hK => ?_
        go_simp
        refine (rval_is HP8.out HF11.out (by have := HN8.out; omega)).mono ?_
        rintro e w12 ⟨rfl, hl⟩
        have HF12 := hide (HF11.out.later hl)
        have HD12 : Hid (Later w8.drew w12) := HD11.out.trans hl
        refine hK.out _ _ hl ?_
        clear hl
        clear hK K
        try (simp only [Act.put]; try simp only [List.setIfInBounds_toArray]; try simp only [List.set_cons_zero, List.set_cons_succ])
        refine wpAnyS_only (i := 12) rfl (by kernel_rfl) (by rfl) fun K hK => ?_
        go_simp
        refine (ris_is HP8.out HF12.out (by have := HN8.out; omega)).mono ?_
        rintro e w13 ⟨rfl, hl⟩
        have HF13 := hide (HF12.out.later hl)
        have HD13 : Hid (Later w8.drew w13) := HD12.out.trans hl
        refine hK.out _ _ hl ?_
        clear hl
        clear hK K
        try (simp only [Act.put]; try simp only [List.setIfInBounds_toArray]; try simp only [List.set_cons_zero, List.set_cons_succ])
        refine wpAnyS_only (i := 14) rfl (by kernel_rfl) (by rfl) fun K hK => ?_
        go_simp
        refine (ris_is HP8.out HF13.out (by have := HN8.out; omega)).mono ?_
        rintro e w14 ⟨rfl, hl⟩
        have HF14 := hide (HF13.out.later hl)
        have HD14 : Hid (Later w8.drew w14) := HD13.out.trans hl
        refine hK.out _ _ hl ?_
        clear hl
        clear hK K
        try (simp only [Act.put]; try simp only [List.setIfInBounds_toArray]; try simp only [List.set_cons_zero, List.set_cons_succ])
        refine wpAnyS_take (i := 15) (d := some 49) (v := .agg (stepQ fb).cells.toArray) rfl rfl (by kernel_rfl) (by kernel_rfl) (by kernel_rfl) (by kernel_rfl) (by kernel_rfl) (fun _ _ _ h => h) (by rfl) ?yar15 ?_
        case yar15 => (intro w' hw'; exact exec_build_parts 68 _ (by rfl) _ (by rfl) _ (built_step _ _ _ _ _ _))
        simp only [Act.put]; try simp only [List.setIfInBounds_toArray]; try simp only [List.set_cons_zero, List.set_cons_succ]
        refine wpAnyS_only (i := 16) rfl (by kernel_rfl) (by rfl) fun K hK => ?_
        refine wp_buildSlice_one 22 68 _ (by rfl) i0 _ 6 Tryz.underlying22 hi hz0 hz1 (by decide) (by decide) (stepQ fb).cells.toArray (by rfl) (by rfl) ?_
        obtain ⟨w15, hw15⟩ : ∃ w15, w15 = w14.alloc (.cells (stepQ fb).cells.toArray 68 (0, 0)) := ⟨_, rfl⟩
        have HD15 : Hid (Later w8.drew w15) := by rw [hw15]; exact HD14.out.trans ((Below.refl _ _).alloc (Nat.le_refl _) _)
        have F15 : Hid (FlatAt (fun _ => True) w15 6 (.slice (some ⟨w14.heap.size, 0, none⟩) 1 1) 1 (stepQ fb).cells.toArray.toList) := by rw [hw15]; exact flat_one w14 68 6 (stepQ fb).cells.toArray (by rfl) (by exact (stepQ fb).one) _ trivial
        have hl15 : Later w14 w15 := by rw [hw15]; exact (Below.refl _ _).alloc (Nat.le_refl _) _
        rw [← hw15]
        refine hK.out _ _ hl15 ?_
        clear hw15 hl15
        clear hK K
        try (simp only [Act.put]; try simp only [List.setIfInBounds_toArray]; try simp only [List.set_cons_zero, List.set_cons_succ])
        refine wpAnyS_write (i := 17) rfl rfl (by kernel_rfl) (by rfl) fun K hK => ?_
        refine wp_append_flat _ _ 22 (by rfl) (B5 + 1) 68 i0 _ 6 48 Tryz.underlying22 hi hz0 hz1 hz2 (by rfl) (by decide) sv (stq (fs.map Fd.pf) q).length ((stq (fs.map Fd.pf) q).flatMap StepD.cells) (by rfl) (own_on (HO.out) (HE8.out.trans HD15.out)) w14.heap.size 1 1 (stepQ fb).cells.toArray.toList (by rfl) _ F15.out (by omega) (by have := HCN.out; have := HNN.out; unfold maxLen; omega) (by have := HCN.out; have := HNN.out; omega) (by have h1 := HE8.out.size; have h2 := HD15.out.size; have h3 := HBS.out; have : w8.drew.heap.size = w8.heap.size := rfl; omega) ?_
        intro v16 w16 ho16 hg16 _
        obtain ⟨A16, m16, c16, rfl⟩ := own_form ho16
        have HO16 := hide ho16
        have HX16 : Hid (w16.heap[B5]? = some (.cells #[.string nm, sv] 24 (0, 0))) := by
          show _ = _
          rw [hg16.block B5 (by have h1 := HE8.out.size; have h2 := HD15.out.size; have h3 := HBS.out; have : w8.drew.heap.size = w8.heap.size := rfl; omega) (by intro e; have h3 := HBS.out; have := (own_on HO.out (HE8.out.trans HD15.out)).lt B5 e.symm; omega)]
          exact (Below.block (HE8.out.trans HD15.out) B5 HBS.out).trans HX.out
        have HL16 : Hid (Below B5 wr w16) := Below.grown (Below.mono (HE8.out.trans HD15.out) (Nat.le_of_lt HBS.out)) hg16 (by have h1 := HE8.out.size; have h2 := HD15.out.size; have h3 := HBS.out; have : w8.drew.heap.size = w8.heap.size := rfl; omega) (fun k hk => by have := (own_on HO.out (HE8.out.trans HD15.out)).lt k hk; omega)
        refine hK.out _ _ ?_
        clear ho16 hg16
        clear hK K
        try (simp only [Act.put]; try simp only [List.setIfInBounds_toArray]; try simp only [List.set_cons_zero, List.set_cons_succ])
        refine wpAnyS_pure (i := 18) (d := some 52) (v := ?var18) rfl rfl (by kernel_rfl) (by kernel_rfl) (by kernel_rfl) (by kernel_rfl) (fun _ _ _ h => h) (by rfl) ?yar18 ?_
        case yar18 => (intro w'; go_simp; try (with_reducible rfl))
        simp only [Act.put]; try simp only [List.setIfInBounds_toArray]; try simp only [List.set_cons_zero, List.set_cons_succ]
        refine wpAnyS_write (i := 19) rfl rfl (by kernel_rfl) (by rfl) fun K hK => ?_
        have hc2 := cell_of_row w16 B5 1 _ _ _ HX16.out
        have hf2 := frozen_of_row w16 B5 1 _ _ HX16.out
        simp only [List.getElem?_toArray, List.getElem?_cons_zero, List.getElem?_cons_succ] at hc2
        go_simp
        obtain ⟨w17, hw17⟩ : ∃ w17, w17 = w16.setCell ⟨B5, 1, none⟩ (.slice A16 m16 c16) := ⟨_, rfl⟩
        have hg17 : w16.grownBy w17 (some B5) := by rw [hw17]; exact grown_set w16 B5 1 _
        have HX17 : Hid (w17.heap[B5]? = some (.cells #[.string nm, .slice A16 m16 c16] 24 (0, 0))) := by rw [hw17]; exact set1 HX16.out
        have HO17 : Hid (w17.ownsRow (B5 + 1) 68 6 (.slice A16 m16 c16) ((stq (fs.map Fd.pf) q).length + 1) ((stq (fs.map Fd.pf) q).flatMap StepD.cells ++ (stepQ fb).cells.toArray.toList)) := own_off HO16.out hg17 (by omega)
        have HL17 : Hid (Below B5 wr w17) := Below.grown HL16.out hg17 (by have := HL16.out.size; have := HBS.out; omega) (fun k hk => by have := Option.some.inj hk; omega)
        try rw [← hw17]
        refine hK.out _ _ ?_
        clear hg17 hw17 hc2 hf2
        clear hK K
        try simp only [Act.put]
        refine wpAnyS_done (by kernel_rfl) ?_ _
        have HO18 : Hid (w17.ownsRow (B5 + 1) 68 6 (.slice A16 m16 c16) (stq (fs.map Fd.pf) (q + 1)).length ((stq (fs.map Fd.pf) (q + 1)).flatMap StepD.cells)) := by
          show World.ownsRow _ _ _ _ _ _ _
          rw [HM2.out, List.length_append, List.flatMap_append]
          simpa using HO17.out
        go_wp2
        go_roundw
        case rel => exact ⟨q + 1, _, by omega, by go_num, HX17.out, HO18.out, HB.out.trans HL17.out⟩
        case measure => simp [intOf]; omega
      · have hm2 : (num != 2) = true := by simpa using hm
        have HM2 := hide (HMK.out hm)
        clear hm
        go_wp2
        go_roundw
        case rel => exact ⟨q + 1, sv, by omega, by go_num, (Below.block (Later.alloc wr _) B5 HBS.out).trans HX.out, by rw [HM2.out]; exact HO.out.alloc _, HB.out.alloc (by have := HBS.out; omega) _⟩
        case measure => simp [intOf]; omega
    · obtain rfl : q = n1 := by omega
      have hall : stq (fs.map Fd.pf) q = (defQ l).steps := by
        have h1 := HFL.out
        unfold stq defQ
        rw [List.take_of_length_le (by rw [List.length_map]; omega), HP1.out]
      rw [hall] at HO
      obtain ⟨AS, mS, cS, rfl⟩ := own_form HO.out
      have hc0 := cell_of_row wr B5 0 _ _ _ HX.out
      have hc1 := cell_of_row wr B5 1 _ _ _ HX.out
      simp only [List.getElem?_toArray, List.getElem?_cons_zero, List.getElem?_cons_succ] at hc0 hc1
      have HBW := hide (HBB.out wr HB.out)
      have HZZ : Hid (wr.heap[w.heap.size]? = some (.cells #[.string ⟨#[]⟩, .slice none 0 0] 24 (0, 0))) := (HB.out.block w.heap.size hB5').trans HQ2.out
      have HNMD : Hid (nm = (defQ l).name) := HNM.out.symm
      have he0 := cell_of_row wr w.heap.size 0 _ _ _ HZZ.out
      have he1 := cell_of_row wr w.heap.size 1 _ _ _ HZZ.out
      have hf0 := frozen_of_row wr w.heap.size 0 _ _ HZZ.out
      have hf1 := frozen_of_row wr w.heap.size 1 _ _ HZZ.out
      simp only [List.getElem?_toArray, List.getElem?_cons_zero, List.getElem?_cons_succ] at he0 he1
      have HO17 := hide (own_off (own_off HO.out (grown_set wr w.heap.size 0 (.string nm)) (by omega)) (grown_set _ w.heap.size 1 (.slice AS mS cS)) (by omega))
      have HL17 : Hid (Later w ((wr.setCell ⟨w.heap.size, 0, none⟩ (.string nm)).setCell ⟨w.heap.size, 1, none⟩ (.slice AS mS cS))) := (HBW.out.setCell (p := ⟨w.heap.size, 0, none⟩) (Nat.le_refl _) _).setCell (p := ⟨w.heap.size, 1, none⟩) (Nat.le_refl _) _
      have HST : Hid (StepsAt (w.heap.size ≤ ·) ((wr.setCell ⟨w.heap.size, 0, none⟩ (.string nm)).setCell ⟨w.heap.size, 1, none⟩ (.slice AS mS cS)) (.slice AS mS cS) (defQ l).steps) := (FlatAt.of_own HO17.out (stepsq_one _)).mono (fun b _ h => by have h1 : B5 + 1 ≤ b := h; show w.heap.size ≤ b; omega)
      go_wp2
      exact bodyPost_ret (v := .agg #[.string nm, .slice AS mS cS]) (by simp [results, Tryz.results55, go_sem, he0, he1]) rfl ⟨.slice AS mS cS, by rw [← HNMD.out], HST.out, HL17.out⟩
end Go.Proofs.YtehiaeihkdfclaaGreatDoor
/- The walk over droverref09.op: an operation out of bytes, as the document reads it. -/
namespace Go.Proofs.YtehiaeihkdfclaaGreatDoor
open Go.RowKit

section
variable {P : Program}
theorem results_box1 {fn : Func} {p : Tmp} {ty : TypeId} (h : fn.results = #[.cell p ty]) (tmps : Array Value) (w : World) (g : Nat) (T : TypeId) (cs : Array Value) (d : TypeDesc)
    (hp : tmps.getD p undef = .pointer (some ⟨g, 0, none⟩)) (hg : w.heap[g]? = some (.cells cs T (0, 0)))
    (hu : P.underlying ty = some d) (hd : (match d with | .struct _ | .array _ _ => true | _ => false) = true) (hi : (P.info? ty).map (·.size) = some cs.size) :
    (results fn tmps).run P w = .ok (.agg cs) w := by
  have hp' : tmps[p]?.getD undef = .pointer (some ⟨g, 0, none⟩) := by simpa using hp
  simp [results, h, hp', asAddr, run_loadVar_row w g T ty cs (0, 0) d hg hu hd hi]
end
theorem built_opq (o : OpD) (s : Value) : Tryz.prog.built 26 [(0, .int .i64 o.kind), (1, .int .i64 o.client), (2, .int .i64 o.request), (3, .agg #[.string o.name, s]), (4, .int .i64 o.saga), (5, .int .i64 o.step), (6, .int .i64 o.try_), (7, .bool o.back), (8, .bool o.good)] = some (o.cells s).toArray := by kernel_rfl
def zop : Array Value := (OpD.zero.cells (.slice none 0 0)).toArray
theorem put_zop (o : OpD) (s : Value) : putAt zop 0 (o.cells s) = (o.cells s).toArray := by simp [zop, putAt, OpD.cells]

set_option maxHeartbeats 4000000 in
set_option maxRecDepth 100000 in
theorem rop_any {A : Option Addr} {n c : Nat} {l : List Nat} {w : World} (hl : Holds w w.heap.size A n l) (hn : n ≤ 5000) (hc : n ≤ c) :
    Calls Tryz.prog 50 #[.slice A n c] w fun e w' => ∃ sv, e = .returned (.agg ((opQ l).cells sv).toArray) ∧ StepsAt (w.heap.size ≤ ·) w' sv (opQ l).steps ∧ Later w w' := by
  obtain ⟨W0, hW0⟩ : ∃ W0, W0 = w.alloc (.cells zop 26 (0, 0)) := ⟨_, rfl⟩
  have HB0 : Hid (Later w W0) := by rw [hW0]; exact Later.alloc _ _
  have HZ0 : Hid (W0.heap[w.heap.size]? = some (.cells zop 26 (0, 0))) := by rw [hW0]; exact heap_alloc_new _ _
  have HSZ : Hid (w.heap.size < W0.heap.size) := lt_of_block HZ0.out
  have CR := hide (rread_any A n c l _ (hl.later HB0.out) (by omega) hc)
  have HS := hide hl.2.1
  have hln := hl.1
  have HW0 := hide hW0
  clear hl
  go_enter Tryz.func50, Tryz.ntmps50
  go_wp2_with (fail)
  rw [show w.alloc (.cells #[.int .i64 0, .int .i64 0, .int .i64 0, .string ⟨#[]⟩, .slice none 0 0, .int .i64 0, .int .i64 0, .int .i64 0, .bool false, .bool false] 26 (0, 0)) = W0 from HW0.out.symm]
  refine CR.out.mono ?_
  rintro e w1 ⟨A1, n1, c1, fs, rfl, hp1, hf1, hc1, hb1⟩
  have HF1 := hide hf1
  have HP1 := hide hp1
  have HL1 : Hid (Later W0 w1) := hb1
  have hn1 : n1 ≤ 5000 := by
    have h1 := hf1.1
    have h2 := pread_count HS.out
    rw [← hp1, List.length_map] at h2
    omega
  clear hf1 hp1 hb1 CR hW0
  go_wp2_with (fail)
  refine (rval_is HP1.out HF1.out (by omega)).mono ?_
  rintro e w2 ⟨rfl, hl⟩
  have HF2 := hide (HF1.out.later hl)
  have HL2 : Hid (Later W0 w2) := HL1.out.trans hl
  clear hl HF1 HL1
  go_wp2_with (fail)
  refine (rval_is HP1.out HF2.out (by omega)).mono ?_
  rintro e w3 ⟨rfl, hl⟩
  have HF3 := hide (HF2.out.later hl)
  have HL3 : Hid (Later W0 w3) := HL2.out.trans hl
  clear hl HF2 HL2
  go_wp2_with (fail)
  refine (rval_is HP1.out HF3.out (by omega)).mono ?_
  rintro e w4 ⟨rfl, hl⟩
  have HF4 := hide (HF3.out.later hl)
  have HL4 : Hid (Later W0 w4) := HL3.out.trans hl
  clear hl HF3 HL3
  go_wp2_with (fail)
  refine (rbytes_is HP1.out HF4.out (by omega)).mono ?_
  rintro e w5 ⟨Ab, nb, cb, rfl, hhb, hcb, hl⟩
  have HF5 := hide (HF4.out.later hl)
  have HL5 : Hid (Later W0 w5) := HL4.out.trans hl
  clear hl HF4 HL4
  go_wp2_with (fail)
  have hnb : nb ≤ 5000 := by have h1 := hhb.1; have h2 := (pb_le HS.out 4).1; omega
  refine (rdef_any hhb hnb hcb).mono ?_
  rintro e w6 ⟨sv, rfl, hst, hl⟩
  have HST6 : Hid (StepsAt (fun b => w.heap.size < b) w6 sv (opQ l).steps) := hst.mono (fun b _ h => by have h1 := HL5.out.size; have h2 := HSZ.out; have h3 : w5.heap.size ≤ b := h; show w.heap.size < b; omega)
  clear hst hhb hcb hnb
  have HF6 := hide (HF5.out.later hl)
  have HL6 : Hid (Later W0 w6) := HL5.out.trans hl
  clear hl HF5 HL5
  go_wp2_with (fail)
  refine (rval_is HP1.out HF6.out (by omega)).mono ?_
  rintro e w7 ⟨rfl, hl⟩
  have HF7 := hide (HF6.out.later hl)
  have HL7 : Hid (Later W0 w7) := HL6.out.trans hl
  have HST7 := hide (HST6.out.kept (Kept.of_below hl _))
  clear HST6
  clear hl HF6 HL6
  go_wp2_with (fail)
  refine (rval_is HP1.out HF7.out (by omega)).mono ?_
  rintro e w8 ⟨rfl, hl⟩
  have HF8 := hide (HF7.out.later hl)
  have HL8 : Hid (Later W0 w8) := HL7.out.trans hl
  have HST8 := hide (HST7.out.kept (Kept.of_below hl _))
  clear HST7
  clear hl HF7 HL7
  go_wp2_with (fail)
  refine (rval_is HP1.out HF8.out (by omega)).mono ?_
  rintro e w9 ⟨rfl, hl⟩
  have HF9 := hide (HF8.out.later hl)
  have HL9 : Hid (Later W0 w9) := HL8.out.trans hl
  have HST9 := hide (HST8.out.kept (Kept.of_below hl _))
  clear HST8
  clear hl HF8 HL8
  go_wp2_with (fail)
  refine (ris_is HP1.out HF9.out (by omega)).mono ?_
  rintro e w10 ⟨rfl, hl⟩
  have HF10 := hide (HF9.out.later hl)
  have HL10 : Hid (Later W0 w10) := HL9.out.trans hl
  have HST10 := hide (HST9.out.kept (Kept.of_below hl _))
  clear HST9
  clear hl HF9 HL9
  go_wp2_with (fail)
  refine (ris_is HP1.out HF10.out (by omega)).mono ?_
  rintro e w11 ⟨rfl, hl⟩
  have HF11 := hide (HF10.out.later hl)
  have HL11 : Hid (Later W0 w11) := HL10.out.trans hl
  have HST11 := hide (HST10.out.kept (Kept.of_below hl _))
  clear HST10
  clear hl HF10 HL10
  have HZK : Hid (w11.heap[w.heap.size]? = some (.cells zop 26 (0, 0))) := (Below.block HL11.out w.heap.size (lt_of_block HZ0.out)).trans HZ0.out
  have hsv1 : sv.oneCell' = true := FlatAt.oneCell HST11.out
  have HS1 := hide hsv1
  clear hsv1
  go_wp2_with (first
    | (refine wpList_build_parts (by rfl) 26 _ (by rfl) _ (by rfl) _ (built_opq (opQ l) sv) ?_)
    | (refine wpList_store_box (by rfl) 26 _ _ (by rfl) w.heap.size 0 ((opQ l).cells sv).toArray (by rfl) (by rfl) 26 zop HZK.out (by kernel_rfl) (by exact Nat.le_of_ble_eq_true rfl) (by exact (opQ l).one HS1.out) ?_; intro w20 hb20 hg20; rw [put_zop] at hb20))
  refine bodyPost_ret (results_box1 Tryz.results50 _ _ w.heap.size 26 _ _ (by rfl) hb20 Tryz.underlying26 (by rfl) (by kernel_rfl)) (by rfl) ?_
  exact ⟨sv, rfl, (HST11.out.kept (Kept.of_grown hg20 (fun g e h => by have := Option.some.inj e; have h1 : w.heap.size < g := h; omega))).mono (fun b _ h => Nat.le_of_lt h), Below.grown (Later.trans HB0.out HL11.out) hg20 (Later.trans HB0.out HL11.out).size (fun k hk => by have := Option.some.inj hk; omega)⟩
end Go.Proofs.YtehiaeihkdfclaaGreatDoor
/- The document's rows of fields: num, yes, text, some append one to a row of the call's own. -/
namespace Go.Proofs.YtehiaeihkdfclaaGreatDoor
open Go.RowKit

theorem Tryz.infoRef9 : (Tryz.prog.info? 92).map (fun i => (i.zero, i.size, i.bytes)) = some (some (.agg #[.int .i64 0, .bool false, .int .u64 0, .slice none 0 0]), 4, 48) := by kernel_rfl

/-- A row of fields, the call's own from base on. -/
def DRow (w : World) (base : Nat) (v : Value) (fds : List Fd) : Prop := w.ownsRow base 92 4 v fds.length (fcells fds) ∧ ∀ f ∈ fds, FdAt w f
theorem DRow.nil (w : World) (base : Nat) : DRow w base (.slice none 0 0) [] := ⟨by simpa [fcells] using World.ownsRow_nil _ _ _ _, by simp⟩
theorem DRow.later {w w' : World} {base : Nat} {v : Value} {fds : List Fd} (h : DRow w base v fds) (hl : Later w w') : DRow w' base v fds := ⟨own_below_any h.1 hl, fun f hf => (h.2 f hf).below hl⟩
/-- What an appending call tells: the row, with these fields behind it; nothing else has turned but the row's own block. -/
def Adds (w : World) (base : Nat) (v : Value) (fds : List Fd) (ps : List PF) (e : Ending) (w' : World) : Prop :=
  ∃ v' gds, e = .returned v' ∧ DRow w' base v' (fds ++ gds) ∧ gds.map Fd.pf = ps ∧ w.grownBy w' v.ownBlock
theorem adds_none {w : World} {base : Nat} {v : Value} {fds : List Fd} {ps : List PF} (h : DRow w base v fds) (hp : ps = []) : Adds w base v fds ps (.returned v) w :=
  ⟨v, [], rfl, by simpa using h, by rw [hp]; rfl, World.grownBy.refl _ _⟩
theorem grown_alloc {w w' : World} {o : Obj} {k : Option Nat} (h : (w.alloc o).grownBy w' k) : w.grownBy w' k :=
  ⟨h.1, h.2, h.3, by have := h.size; simp at this; omega, fun i hi hne => (h.block i (by simp; omega) hne).trans (Below.block (Later.alloc w o) i hi)⟩
theorem adds_one {w w' : World} {base : Nat} {v v' : Value} {fds : List Fd} {ps : List PF} {f : Fd} {o : Obj} (h : DRow w base v fds) (hf : FdAt w f) (hp : ps = [f.pf])
    (ho : w'.ownsRow base 92 4 v' (fds.length + 1) (fcells fds ++ f.cells.toList)) (hg : (w.alloc o).grownBy w' v.ownBlock) : Adds w base v fds ps (.returned v') w' := by
  have hl : Later w (w.alloc o) := Later.alloc _ _
  have h1 := h.later hl
  refine ⟨v', [f], rfl, ⟨?_, fun x hx => ?_⟩, by rw [hp]; rfl, grown_alloc hg⟩
  · rw [fcells_append, List.length_append]
    simpa [fcells] using ho
  · rcases List.mem_append.1 hx with hx | hx
    · exact (h1.2 x hx).kept h1.1 hg (by decide)
    · obtain rfl : x = f := by simpa using hx
      exact (hf.below hl).kept h1.1 hg (by decide)

set_option maxHeartbeats 1000000 in
set_option maxRecDepth 100000 in
theorem rnum_any {base : Nat} {v : Value} {fds : List Fd} {n x : Int} {w : World} (hr : DRow w base v fds) (hb : base ≤ w.heap.size) (hc : fds.length ≤ 100000000) (hn : I64 n) (hx : I64 x) :
    Calls Tryz.prog 37 #[v, .int .i64 n, .int .i64 x] w (Adds w base v fds (pnum n x)) := by
  obtain ⟨i0, hi, hz0, hz1, hz2⟩ := info_parts Tryz.infoRef9
  have HR := hide hr
  have HN := hide hn
  have HX := hide hx
  clear hr hn hx
  by_cases h0 : x = 0
  · subst h0
    go_enter Tryz.func37, Tryz.ntmps37
    go_wp2
    go_ret
    exact adds_none HR.out rfl
  · have H0 := hide h0
    have O1 := hide (HR.out.1.alloc (.cells #[.int .i64 n, .bool false, .int .u64 (zig x : Nat), .slice none 0 0] 92))
    have ht : (x == 0) = false := by simpa using h0
    clear h0
    go_enter Tryz.func37, Tryz.ntmps37
    go_wp2_with (fail)
    refine (refzig_any x _ HX.out.1 HX.out.2).mono ?_
    rintro e w1 ⟨rfl, rfl⟩
    go_wp2_with (at_builtin; refine wpList_append_own_at _ rfl (.tmp 10) (.tmp 15) 71 rfl base 92 i0 _ 4 48 Tryz.underlying71 hi hz0 hz1 hz2 rfl (by omega) _ fds.length (fcells fds) rfl O1.out ⟨w.heap.size, 0, none⟩ 1 1 [.int .i64 n, .bool false, .int .u64 (zig x : Nat), .slice none 0 0] rfl rfl (cells_new w [.int .i64 n, .bool false, .int .u64 (zig x : Nat), .slice none 0 0] 92) (by intro u hu; simp at hu; rcases hu with rfl | rfl | rfl | rfl <;> rfl) (by simp only [maxLen]; omega) (by omega) (by simp; omega) ?_; intro x2 w2 o2 g2 _ _)
    go_ret
    exact adds_one (f := ⟨n, false, zig x, none, 0, 0, []⟩) HR.out (FdAt.plain HN.out (zig_lt x HX.out.1 HX.out.2)) (by unfold pnum; rw [if_neg H0.out]; rfl) o2 g2

set_option maxHeartbeats 1000000 in
set_option maxRecDepth 100000 in
theorem ryes_any {base : Nat} {v : Value} {fds : List Fd} {n : Int} {x : Bool} {w : World} (hr : DRow w base v fds) (hb : base ≤ w.heap.size) (hc : fds.length ≤ 100000000) (hn : I64 n) :
    Calls Tryz.prog 40 #[v, .int .i64 n, .bool x] w (Adds w base v fds (pflag n x)) := by
  obtain ⟨i0, hi, hz0, hz1, hz2⟩ := info_parts Tryz.infoRef9
  have HR := hide hr
  have HN := hide hn
  clear hr hn
  cases x with
  | false =>
    go_enter Tryz.func40, Tryz.ntmps40
    go_wp2
    go_ret
    exact adds_none HR.out rfl
  | true =>
    have O1 := hide (HR.out.1.alloc (.cells #[.int .i64 n, .bool false, .int .u64 1, .slice none 0 0] 92))
    go_enter Tryz.func40, Tryz.ntmps40
    go_wp2_with (at_builtin; refine wpList_append_own_at _ rfl (.tmp 10) (.tmp 13) 71 rfl base 92 i0 _ 4 48 Tryz.underlying71 hi hz0 hz1 hz2 rfl (by omega) _ fds.length (fcells fds) rfl O1.out ⟨w.heap.size, 0, none⟩ 1 1 [.int .i64 n, .bool false, .int .u64 1, .slice none 0 0] rfl rfl (cells_new w [.int .i64 n, .bool false, .int .u64 1, .slice none 0 0] 92) (by intro u hu; simp at hu; rcases hu with rfl | rfl | rfl | rfl <;> rfl) (by simp only [maxLen]; omega) (by omega) (by simp; omega) ?_; intro x2 w2 o2 g2 _ _)
    go_ret
    exact adds_one (f := ⟨n, false, 1, none, 0, 0, []⟩) HR.out (FdAt.plain HN.out (by omega)) rfl o2 g2

set_option maxHeartbeats 1000000 in
set_option maxRecDepth 100000 in
theorem rtext_any {base : Nat} {v : Value} {fds : List Fd} {n : Int} {A : Option Addr} {m c : Nat} {l : List Nat} {w : World} (hr : DRow w base v fds) (hb : base ≤ w.heap.size) (hc : fds.length ≤ 100000000) (hf : FdAt w ⟨n, true, 0, A, m, c, l⟩) :
    Calls Tryz.prog 42 #[v, .int .i64 n, .slice A m c] w (Adds w base v fds [prow n l]) := by
  obtain ⟨i0, hi, hz0, hz1, hz2⟩ := info_parts Tryz.infoRef9
  have HR := hide hr
  have HF := hide hf
  have O1 := hide (HR.out.1.alloc (.cells #[.int .i64 n, .bool true, .int .u64 0, .slice A m c] 92))
  clear hr hf
  go_enter Tryz.func42, Tryz.ntmps42
  go_wp2_with (at_builtin; refine wpList_append_own_at _ rfl (.tmp 7) (.tmp 11) 71 rfl base 92 i0 _ 4 48 Tryz.underlying71 hi hz0 hz1 hz2 rfl (by omega) _ fds.length (fcells fds) rfl O1.out ⟨w.heap.size, 0, none⟩ 1 1 [.int .i64 n, .bool true, .int .u64 0, .slice A m c] rfl rfl (cells_new w [.int .i64 n, .bool true, .int .u64 0, .slice A m c] 92) (by intro u hu; simp at hu; rcases hu with rfl | rfl | rfl | rfl <;> rfl) (by simp only [maxLen]; omega) (by omega) (by simp; omega) ?_; intro x2 w2 o2 g2 _ _)
  go_ret
  exact adds_one (f := ⟨n, true, 0, A, m, c, l⟩) HR.out HF.out rfl o2 g2

set_option maxHeartbeats 1000000 in
set_option maxRecDepth 100000 in
theorem rsome_any {base : Nat} {v : Value} {fds : List Fd} {n : Int} {A : Option Addr} {m c : Nat} {l : List Nat} {w : World} (hr : DRow w base v fds) (hb : base ≤ w.heap.size) (hc : fds.length ≤ 100000000) (hf : FdAt w ⟨n, true, 0, A, m, c, l⟩) :
    Calls Tryz.prog 38 #[v, .int .i64 n, .slice A m c] w (Adds w base v fds (ptext n l)) := by
  have hlen : l.length = m := hf.1.2.2.2.1
  have HR := hide hr
  have HF := hide hf
  have HL := hide hlen
  clear hr hf hlen
  by_cases h0 : m = 0
  · subst h0
    go_enter Tryz.func38, Tryz.ntmps38
    go_wp2
    go_ret
    exact adds_none HR.out (by unfold ptext; rw [if_pos (List.eq_nil_of_length_eq_zero HL.out)])
  · have H0 := hide h0
    have ht : ((m : Int) == 0) = false := by simp; omega
    have C := hide (rtext_any HR.out hb hc HF.out)
    clear h0
    go_enter Tryz.func38, Tryz.ntmps38
    go_wp2_with (fail)
    refine C.out.mono ?_
    rintro e w1 ⟨v1, gds, rfl, h1, h2, h3⟩
    go_wp2
    go_ret
    refine ⟨v1, gds, rfl, h1, ?_, h3⟩
    rw [h2]
    unfold ptext prow
    rw [if_neg (fun e => H0.out (by rw [← HL.out, e]; rfl))]
end Go.Proofs.YtehiaeihkdfclaaGreatDoor
/- Rows of fields by what they say: num, yes, text, some, Write. -/
namespace Go.Proofs.YtehiaeihkdfclaaGreatDoor
open Go.RowKit

/-- A row of the call's own from base on that says these fields. -/
def DR (w : World) (base : Nat) (v : Value) (ps : List PF) : Prop := ∃ fds, DRow w base v fds ∧ fds.map Fd.pf = ps
theorem DR.nil (w : World) (base : Nat) : DR w base (.slice none 0 0) [] := ⟨[], DRow.nil w base, rfl⟩
theorem DR.later {w w' : World} {base : Nat} {v : Value} {ps : List PF} (h : DR w base v ps) (hl : Later w w') : DR w' base v ps := by
  obtain ⟨fds, h1, h2⟩ := h
  exact ⟨fds, h1.later hl, h2⟩
theorem DR.slice {w : World} {base : Nat} {v : Value} {ps : List PF} (h : DR w base v ps) : ∃ A n c, v = .slice A n c := by
  obtain ⟨fds, h1, _⟩ := h
  obtain ⟨A, c, hv, _⟩ := FHolds.of_own h1.1 fun f hf => (h1.2 f hf).ok
  exact ⟨A, _, c, hv⟩
/-- What such a call tells: the row's fields, with these behind them; the blocks ahead of base are as they were, and what lies in blocks of bytes is. -/
def AddsD (w : World) (base : Nat) (ps : List PF) (e : Ending) (w' : World) : Prop :=
  ∃ v', e = .returned v' ∧ DR w' base v' ps ∧ Below base w w' ∧ ∀ f, FdAt w f → FdAt w' f
theorem Adds.dr {w w' : World} {base : Nat} {v : Value} {fds : List Fd} {ps qs : List PF} {e : Ending} (h : Adds w base v fds ps e w') (hr : DRow w base v fds) (hq : fds.map Fd.pf = qs) (hb : base ≤ w.heap.size) : AddsD w base (qs ++ ps) e w' := by
  obtain ⟨v', gds, rfl, h1, h2, h3⟩ := h
  exact ⟨v', rfl, ⟨_, h1, by rw [List.map_append, hq, h2]⟩, (Below.refl _ _).grown h3 hb fun k hk => (hr.1.lt k hk).1, fun f hf => hf.kept hr.1 h3 (by decide)⟩

theorem dnum_any {base : Nat} {v : Value} {ps : List PF} {n x : Int} {w : World} (hr : DR w base v ps) (hb : base ≤ w.heap.size) (hc : ps.length ≤ 100000000) (hn : I64 n) (hx : I64 x) :
    Calls Tryz.prog 37 #[v, .int .i64 n, .int .i64 x] w (AddsD w base (ps ++ pnum n x)) := by
  obtain ⟨fds, h1, h2⟩ := hr
  have hl : fds.length ≤ 100000000 := by rw [← h2, List.length_map] at hc; exact hc
  exact (rnum_any h1 hb hl hn hx).mono fun e w' h => h.dr h1 h2 hb
theorem dyes_any {base : Nat} {v : Value} {ps : List PF} {n : Int} {x : Bool} {w : World} (hr : DR w base v ps) (hb : base ≤ w.heap.size) (hc : ps.length ≤ 100000000) (hn : I64 n) :
    Calls Tryz.prog 40 #[v, .int .i64 n, .bool x] w (AddsD w base (ps ++ pflag n x)) := by
  obtain ⟨fds, h1, h2⟩ := hr
  have hl : fds.length ≤ 100000000 := by rw [← h2, List.length_map] at hc; exact hc
  exact (ryes_any h1 hb hl hn).mono fun e w' h => h.dr h1 h2 hb
theorem dtext_any {base : Nat} {v : Value} {ps : List PF} {n : Int} {A : Option Addr} {m c : Nat} {l : List Nat} {w : World} (hr : DR w base v ps) (hb : base ≤ w.heap.size) (hc : ps.length ≤ 100000000) (hf : FdAt w ⟨n, true, 0, A, m, c, l⟩) :
    Calls Tryz.prog 42 #[v, .int .i64 n, .slice A m c] w (AddsD w base (ps ++ [prow n l])) := by
  obtain ⟨fds, h1, h2⟩ := hr
  have hl : fds.length ≤ 100000000 := by rw [← h2, List.length_map] at hc; exact hc
  exact (rtext_any h1 hb hl hf).mono fun e w' h => h.dr h1 h2 hb
theorem dsome_any {base : Nat} {v : Value} {ps : List PF} {n : Int} {A : Option Addr} {m c : Nat} {l : List Nat} {w : World} (hr : DR w base v ps) (hb : base ≤ w.heap.size) (hc : ps.length ≤ 100000000) (hf : FdAt w ⟨n, true, 0, A, m, c, l⟩) :
    Calls Tryz.prog 38 #[v, .int .i64 n, .slice A m c] w (AddsD w base (ps ++ ptext n l)) := by
  obtain ⟨fds, h1, h2⟩ := hr
  have hl : fds.length ≤ 100000000 := by rw [← h2, List.length_map] at hc; exact hc
  exact (rsome_any h1 hb hl hf).mono fun e w' h => h.dr h1 h2 hb
/-- The record of such a row. -/
theorem dwrite_any {base : Nat} {v : Value} {ps : List PF} {w : World} (hr : DR w base v ps) (hroom : proom ps ≤ 10000000) :
    Calls Tryz.prog 39 #[v] w (NewBytes w (prec ps)) := by
  obtain ⟨fds, h1, h2⟩ := hr
  obtain ⟨A, c, rfl, _, h4⟩ := FHolds.of_own h1.1 fun f hf => (h1.2 f hf).ok
  have hrm : room fds ≤ 10000000 := by rw [room_pf fds h4.lens, h2]; exact hroom
  have hct : fds.length ≤ 10000000 := by
    have h3 := proom_count (fds.map Fd.pf)
    have h5 : fds.length = (fds.map Fd.pf).length := by simp
    rw [h2] at h3 h5
    omega
  have C := refwrite_any A fds.length c fds w h4 hrm hct
  rwa [recOf_pf fds h4.lens, h2] at C
/-- New bytes as a text's. -/
theorem own_fd {w : World} {base n c : Nat} {A : Option Addr} {l : List Nat} {num : Int} (hn : I64 num) (h1 : w.ownsRow base 5 1 (.slice A n c) n (bvs l)) (hs : ∀ x ∈ l, x < 256) : FdAt w ⟨num, true, 0, A, n, c, l⟩ :=
  FdOwn.at_ (base := base) ⟨hn, by simp, hs, h1⟩
end Go.Proofs.YtehiaeihkdfclaaGreatDoor
/- The walk over droverref09.DefBytes. -/
namespace Go.Proofs.YtehiaeihkdfclaaGreatDoor
open Go.RowKit

theorem len_num {ps : List PF} {k : Nat} {n x : Int} (h : ps.length ≤ k) : (ps ++ pnum n x).length ≤ k + 1 := by
  rw [List.length_append]; unfold pnum; split <;> simp <;> omega
theorem len_flag {ps : List PF} {k : Nat} {n : Int} {x : Bool} (h : ps.length ≤ k) : (ps ++ pflag n x).length ≤ k + 1 := by
  rw [List.length_append]; unfold pflag; split <;> simp <;> omega
theorem len_text {ps : List PF} {k : Nat} {n : Int} {x : List Nat} (h : ps.length ≤ k) : (ps ++ ptext n x).length ≤ k + 1 := by
  rw [List.length_append]; unfold ptext; split <;> simp <;> omega
theorem drew_below (b : Nat) (w : World) : Below b w w.drew := ⟨rfl, rfl, rfl, Nat.le_refl _, fun _ _ => rfl⟩

set_option maxHeartbeats 2000000 in
set_option maxRecDepth 100000 in
theorem rdefb_any {G : Nat → Prop} {sA : Option Addr} {m sc k : Nat} {d : DefD} {w : World} (hl : StepsAt G w (.slice sA m sc) d.steps) (hm : m = d.steps.length) (hsm : d.sm k) (hk : k ≤ 5000) (hroom : proom (defF d) ≤ 1000000) :
    Calls Tryz.prog 16 #[.agg #[.string d.name, .slice sA m sc]] w (NewBytes w (defB d)) := by
  have HLL := hide hl
  have HM := hide hm
  have HSM := hide hsm
  have HKK := hide hk
  have HR := hide hroom
  have HX0 : Hid ((w.alloc (.cells #[.string d.name, .slice sA m sc] 24 (0, 0))).heap[w.heap.size]? = some (.cells #[.string d.name, .slice sA m sc] 24 (0, 0))) := heap_alloc_new _ _
  have HL0 : Hid (Later w (w.alloc (.cells #[.string d.name, .slice sA m sc] 24 (0, 0)))) := Later.alloc _ _
  have hml : m ≤ 5000 := by have := hsm.2.1; omega
  have e1 := Lib.run_convert_string_bytes (P := Tryz.prog) (w.alloc (.cells #[.string d.name, .slice sA m sc] 24 (0, 0))) 9 38 5 d.name Tryz.underlying9 Tryz.underlying38 Tryz.underlying5
  have hfd := bytes_fd (w := w.alloc (.cells #[.string d.name, .slice sA m sc] 24 (0, 0))) (num := 1) (s := d.name) ⟨by omega, by omega⟩
  have hbl := bytes_later (w.alloc (.cells #[.string d.name, .slice sA m sc] 24 (0, 0))) 5 d.name
  simp only [World.size_alloc] at e1 hfd
  have C0 := hide (dsome_any (base := w.heap.size + 1) (DR.nil (Lib.bytesWorld (w.alloc (.cells #[.string d.name, .slice sA m sc] 24 (0, 0))) 5 d.name) _) (by rw [Lib.bytesWorld_size, World.size_alloc]; omega) (by simp) hfd)
  have HB0 : Hid (Below (w.heap.size + 1) (w.alloc (.cells #[.string d.name, .slice sA m sc] 24 (0, 0))) (Lib.bytesWorld (w.alloc (.cells #[.string d.name, .slice sA m sc] 24 (0, 0))) 5 d.name)) := Below.mono hbl (by rw [World.size_alloc]; omega)
  clear hl hm hsm hk hroom hfd hbl
  go_enter Tryz.func16, Tryz.ntmps16
  go_wp2_with (fail)
  refine C0.out.mono ?_
  rintro e w0 ⟨v0, rfl, hd0, hb0, _⟩
  have HD0 := hide hd0
  have HT0 := hide (HB0.out.trans hb0)
  have hx0 := (HT0.out.block w.heap.size (by omega)).trans HX0.out
  have c1 := box_at hx0 1 _ rfl
  have HS0 : Hid (∀ w', Below (w.heap.size + 1) w0 w' → Later w w') := fun w' h => Below.trans HL0.out (Below.mono (HT0.out.trans h) (by omega))
  have HZ0 : Hid (w.heap.size + 1 ≤ w0.heap.size) := by have h := HT0.out.size; rw [World.size_alloc] at h; exact h
  clear hd0 hb0 hx0 e1 C0
  go_wp2
  clear c1
  go_loopw [3, 14] (fun lv i wr => ∃ q : Nat, q ≤ m ∧ i = .int .i64 (q : Int) ∧ DR wr (w.heap.size + 1) lv (([] : List PF) ++ ptext 1 (nums d.name) ++ (d.steps.take q).map fun s => prow 2 (stepB s)) ∧ Below (w.heap.size + 1) w0 wr) (fun _ i _ => m - (intOf i).toNat)
  case atStart => exact ⟨0, by omega, rfl, by simpa using HD0.out, Below.refl _ _⟩
  case round =>
    obtain ⟨q, hq, rfl, hdr, hbw⟩ := hrel
    have HD := hide hdr
    have HB := hide hbw
    have HLW := hide (HS0.out _ hbw)
    clear hdr hbw
    by_cases hlt : q < m
    · obtain ⟨s, b, off, c', hsk, hv, _, _, hbw, hr⟩ := StepsAt.at_ (HLL.out.kept (Kept.of_below HLW.out G)) (i := q) (by rw [← HM.out]; exact hlt)
      obtain ⟨rfl, rfl⟩ : sA = some ⟨b, off, none⟩ ∧ sc = c' := by injection hv with e1 _ e3; exact ⟨e1, e3⟩
      obtain ⟨r0, r1, r2, r3, r4, r5⟩ := range_step hr
      have HSK := hide hsk
      have hss := HSM.out.2.2 s (List.mem_of_getElem? hsk)
      have HI2 := hide hss.2.1
      have HI3 := hide hss.2.2.1
      have HI4 := hide hss.2.2.2
      have HRS : Hid (proom (stepF s) ≤ 10000000) := by have h1 := stepF_room s; have h2 := hss.1; have h3 := HKK.out; show _ ≤ _; omega
      have HW8 : Hid (Later wr (wr.alloc (.cells #[.string s.name, .int .i64 s.stub, .int .i64 s.retry, .int .i64 s.wait, .bool s.undo, .bool s.pivot] 68 (0, 0)))) := Later.alloc _ _
      have HX8 : Hid ((wr.alloc (.cells #[.string s.name, .int .i64 s.stub, .int .i64 s.retry, .int .i64 s.wait, .bool s.undo, .bool s.pivot] 68 (0, 0))).heap[wr.heap.size]? = some (.cells #[.string s.name, .int .i64 s.stub, .int .i64 s.retry, .int .i64 s.wait, .bool s.undo, .bool s.pivot] 68 (0, 0))) := heap_alloc_new _ _
      have e1 := Lib.run_convert_string_bytes (P := Tryz.prog) (wr.alloc (.cells #[.string s.name, .int .i64 s.stub, .int .i64 s.retry, .int .i64 s.wait, .bool s.undo, .bool s.pivot] 68 (0, 0))) 9 38 5 s.name Tryz.underlying9 Tryz.underlying38 Tryz.underlying5
      have hfd := bytes_fd (w := wr.alloc (.cells #[.string s.name, .int .i64 s.stub, .int .i64 s.retry, .int .i64 s.wait, .bool s.undo, .bool s.pivot] 68 (0, 0))) (num := 1) (s := s.name) ⟨by omega, by omega⟩
      have hbl := bytes_later (wr.alloc (.cells #[.string s.name, .int .i64 s.stub, .int .i64 s.retry, .int .i64 s.wait, .bool s.undo, .bool s.pivot] 68 (0, 0))) 5 s.name
      simp only [World.size_alloc] at e1 hfd
      have C1 := hide (dsome_any (base := wr.heap.size + 1) (DR.nil (Lib.bytesWorld (wr.alloc (.cells #[.string s.name, .int .i64 s.stub, .int .i64 s.retry, .int .i64 s.wait, .bool s.undo, .bool s.pivot] 68 (0, 0))) 5 s.name) _) (by rw [Lib.bytesWorld_size, World.size_alloc]; omega) (by simp) hfd)
      have HB1 : Hid (Below (wr.heap.size + 1) (wr.alloc (.cells #[.string s.name, .int .i64 s.stub, .int .i64 s.retry, .int .i64 s.wait, .bool s.undo, .bool s.pivot] 68 (0, 0))) (Lib.bytesWorld (wr.alloc (.cells #[.string s.name, .int .i64 s.stub, .int .i64 s.retry, .int .i64 s.wait, .bool s.undo, .bool s.pivot] 68 (0, 0))) 5 s.name)) := Below.mono hbl (by rw [World.size_alloc]; omega)
      clear hsk hv hr hss hfd hbl
      go_wp2_with (fail)
      refine C1.out.mono ?_
      rintro e w1 ⟨v1, rfl, hd1, hb1, _⟩
      have HD1 := hide (hd1.later (Later.drew w1))
      have HU1 := hide (HB1.out.trans hb1)
      have HT1 : Hid (Below (wr.heap.size + 1) (wr.alloc (.cells #[.string s.name, .int .i64 s.stub, .int .i64 s.retry, .int .i64 s.wait, .bool s.undo, .bool s.pivot] 68 (0, 0))) w1.drew) := HU1.out.trans (drew_below _ _)
      have HN1 : Hid ((([] : List PF) ++ ptext 1 (nums s.name)).length ≤ 1) := len_text (Nat.zero_le _)
      have HS : Hid (∀ w', Below (wr.heap.size + 1) (wr.alloc (.cells #[.string s.name, .int .i64 s.stub, .int .i64 s.retry, .int .i64 s.wait, .bool s.undo, .bool s.pivot] 68 (0, 0))) w' → w'.heap[wr.heap.size]? = some (.cells #[.string s.name, .int .i64 s.stub, .int .i64 s.retry, .int .i64 s.wait, .bool s.undo, .bool s.pivot] 68 (0, 0))) := fun w' h => (h.block wr.heap.size (by omega)).trans HX8.out
      clear hd1 hb1 e1 C1 r0 r1 r2 r3 r4 r5
      go_wp2
      refine wp_region_R (R := fun a c => Below (wr.heap.size + 1) a c) (by kernel_rfl) ?_
      refine wpAnyR_take (pre_below (wr.heap.size + 1)) (i := 0) (d := some 22) (v := ?vaa0) rfl rfl (by kernel_rfl) (by kernel_rfl) (by kernel_rfl) (fun _ _ _ h => h) (by rfl) ?yaa0 ?_
      case yaa0 => (intro w' hw'; go_simp; try (with_reducible rfl))
      simp only [Act.put]; try simp only [List.setIfInBounds_toArray]; try simp only [List.set_cons_zero, List.set_cons_succ]
      refine wpAnyR_take (pre_below (wr.heap.size + 1)) (i := 1) (d := some 23) (v := ?vaa1) rfl rfl (by kernel_rfl) (by kernel_rfl) (by kernel_rfl) (fun _ _ _ h => h) (by rfl) ?yaa1 ?_
      case yaa1 => (intro w' hw'; go_simp; try (with_reducible rfl))
      simp only [Act.put]; try simp only [List.setIfInBounds_toArray]; try simp only [List.set_cons_zero, List.set_cons_succ]
      refine wpAnyR_take (pre_below (wr.heap.size + 1)) (i := 2) (d := some 24) (v := .int .i64 s.stub) rfl rfl (by kernel_rfl) (by kernel_rfl) (by kernel_rfl) (fun _ _ _ h => h) (by rfl) ?yaa2 ?_
      case yaa2 => (intro w' hw'; have hx := box_at (HS.out w' (HT1.out.trans hw')) 1 _ rfl; go_simp; try (with_reducible rfl))
      simp only [Act.put]; try simp only [List.setIfInBounds_toArray]; try simp only [List.set_cons_zero, List.set_cons_succ]
      refine wpAnyR_take (pre_below (wr.heap.size + 1)) (i := 4) (d := some 26) (v := ?vaa4) rfl rfl (by kernel_rfl) (by kernel_rfl) (by kernel_rfl) (fun _ _ _ h => h) (by rfl) ?yaa4 ?_
      case yaa4 => (intro w' hw'; go_simp; try (with_reducible rfl))
      simp only [Act.put]; try simp only [List.setIfInBounds_toArray]; try simp only [List.set_cons_zero, List.set_cons_succ]
      refine wpAnyR_take (pre_below (wr.heap.size + 1)) (i := 5) (d := some 27) (v := .int .i64 s.retry) rfl rfl (by kernel_rfl) (by kernel_rfl) (by kernel_rfl) (fun _ _ _ h => h) (by rfl) ?yaa5 ?_
      case yaa5 => (intro w' hw'; have hx := box_at (HS.out w' (HT1.out.trans hw')) 2 _ rfl; go_simp; try (with_reducible rfl))
      simp only [Act.put]; try simp only [List.setIfInBounds_toArray]; try simp only [List.set_cons_zero, List.set_cons_succ]
      refine wpAnyR_take (pre_below (wr.heap.size + 1)) (i := 7) (d := some 29) (v := ?vaa7) rfl rfl (by kernel_rfl) (by kernel_rfl) (by kernel_rfl) (fun _ _ _ h => h) (by rfl) ?yaa7 ?_
      case yaa7 => (intro w' hw'; go_simp; try (with_reducible rfl))
      simp only [Act.put]; try simp only [List.setIfInBounds_toArray]; try simp only [List.set_cons_zero, List.set_cons_succ]
      refine wpAnyR_take (pre_below (wr.heap.size + 1)) (i := 8) (d := some 30) (v := .int .i64 s.wait) rfl rfl (by kernel_rfl) (by kernel_rfl) (by kernel_rfl) (fun _ _ _ h => h) (by rfl) ?yaa8 ?_
      case yaa8 => (intro w' hw'; have hx := box_at (HS.out w' (HT1.out.trans hw')) 3 _ rfl; go_simp; try (with_reducible rfl))
      simp only [Act.put]; try simp only [List.setIfInBounds_toArray]; try simp only [List.set_cons_zero, List.set_cons_succ]
      refine wpAnyR_only (i := 3) rfl (by kernel_rfl) (by rfl) fun K hK => ?_
      go_simp
      refine (dnum_any HD1.out (by have h := HT1.out.size; rw [World.size_alloc] at h; exact h) (Nat.le_trans HN1.out (by omega)) ⟨by omega, by omega⟩ HI2.out).mono ?_
      rintro e w2 ⟨v2, rfl, hd, hb, _⟩
      have HD2 := hide hd
      have HT2 := hide (HT1.out.trans hb)
      have HN2 := hide (len_num (n := 2) (x := s.stub) HN1.out)
      refine hK.out _ _ hb ?_
      clear hd hb
      clear hK K
      try (simp only [Act.put]; try simp only [List.setIfInBounds_toArray]; try simp only [List.set_cons_zero, List.set_cons_succ])
      refine wpAnyR_only (i := 6) rfl (by kernel_rfl) (by rfl) fun K hK => ?_
      go_simp
      refine (dnum_any HD2.out (by have h := HT2.out.size; rw [World.size_alloc] at h; exact h) (Nat.le_trans HN2.out (by omega)) ⟨by omega, by omega⟩ HI3.out).mono ?_
      rintro e w3 ⟨v3, rfl, hd, hb, _⟩
      have HD3 := hide hd
      have HT3 := hide (HT2.out.trans hb)
      have HN3 := hide (len_num (n := 3) (x := s.retry) HN2.out)
      refine hK.out _ _ hb ?_
      clear hd hb
      clear hK K
      try (simp only [Act.put]; try simp only [List.setIfInBounds_toArray]; try simp only [List.set_cons_zero, List.set_cons_succ])
      refine wpAnyR_only (i := 9) rfl (by kernel_rfl) (by rfl) fun K hK => ?_
      go_simp
      refine (dnum_any HD3.out (by have h := HT3.out.size; rw [World.size_alloc] at h; exact h) (Nat.le_trans HN3.out (by omega)) ⟨by omega, by omega⟩ HI4.out).mono ?_
      rintro e w4 ⟨v4, rfl, hd, hb, _⟩
      have HD4 := hide hd
      have HT4 := hide (HT3.out.trans hb)
      have HN4 := hide (len_num (n := 4) (x := s.wait) HN3.out)
      refine hK.out _ _ hb ?_
      clear hd hb
      clear hK K
      try (simp only [Act.put]; try simp only [List.setIfInBounds_toArray]; try simp only [List.set_cons_zero, List.set_cons_succ])
      refine wpAnyR_take (pre_below (wr.heap.size + 1)) (i := 10) (d := some 6) (v := ?vaa10) rfl rfl (by kernel_rfl) (by kernel_rfl) (by kernel_rfl) (fun _ _ _ h => h) (by rfl) ?yaa10 ?_
      case yaa10 => (intro w' hw'; go_simp; try (with_reducible rfl))
      simp only [Act.put]; try simp only [List.setIfInBounds_toArray]; try simp only [List.set_cons_zero, List.set_cons_succ]
      refine wpAnyR_done (by kernel_rfl) ?_ _
      have HT4b : Hid (Below (wr.heap.size + 1) (wr.alloc (.cells #[.string s.name, .int .i64 s.stub, .int .i64 s.retry, .int .i64 s.wait, .bool s.undo, .bool s.pivot] 68 (0, 0))) w4.drew) := HT4.out.trans (drew_below _ _)
      have HD4b := hide (HD4.out.later (Later.drew w4))
      clear HT4 HD4
      have HT4 := HT4b
      have HD4 := HD4b
      clear HT4b HD4b
      go_wp2
      refine wp_region_R (R := fun a c => Below (wr.heap.size + 1) a c) (by kernel_rfl) ?_
      refine wpAnyR_take (pre_below (wr.heap.size + 1)) (i := 0) (d := some 32) (v := ?vab0) rfl rfl (by kernel_rfl) (by kernel_rfl) (by kernel_rfl) (fun _ _ _ h => h) (by rfl) ?yab0 ?_
      case yab0 => (intro w' hw'; go_simp; try (with_reducible rfl))
      simp only [Act.put]; try simp only [List.setIfInBounds_toArray]; try simp only [List.set_cons_zero, List.set_cons_succ]
      refine wpAnyR_take (pre_below (wr.heap.size + 1)) (i := 1) (d := some 33) (v := ?vab1) rfl rfl (by kernel_rfl) (by kernel_rfl) (by kernel_rfl) (fun _ _ _ h => h) (by rfl) ?yab1 ?_
      case yab1 => (intro w' hw'; go_simp; try (with_reducible rfl))
      simp only [Act.put]; try simp only [List.setIfInBounds_toArray]; try simp only [List.set_cons_zero, List.set_cons_succ]
      refine wpAnyR_take (pre_below (wr.heap.size + 1)) (i := 2) (d := some 34) (v := .bool s.undo) rfl rfl (by kernel_rfl) (by kernel_rfl) (by kernel_rfl) (fun _ _ _ h => h) (by rfl) ?yab2 ?_
      case yab2 => (intro w' hw'; have hx := box_at (HS.out w' (HT4.out.trans hw')) 4 _ rfl; go_simp; try (with_reducible rfl))
      simp only [Act.put]; try simp only [List.setIfInBounds_toArray]; try simp only [List.set_cons_zero, List.set_cons_succ]
      refine wpAnyR_take (pre_below (wr.heap.size + 1)) (i := 4) (d := some 36) (v := ?vab4) rfl rfl (by kernel_rfl) (by kernel_rfl) (by kernel_rfl) (fun _ _ _ h => h) (by rfl) ?yab4 ?_
      case yab4 => (intro w' hw'; go_simp; try (with_reducible rfl))
      simp only [Act.put]; try simp only [List.setIfInBounds_toArray]; try simp only [List.set_cons_zero, List.set_cons_succ]
      refine wpAnyR_take (pre_below (wr.heap.size + 1)) (i := 5) (d := some 37) (v := .bool s.pivot) rfl rfl (by kernel_rfl) (by kernel_rfl) (by kernel_rfl) (fun _ _ _ h => h) (by rfl) ?yab5 ?_
      case yab5 => (intro w' hw'; have hx := box_at (HS.out w' (HT4.out.trans hw')) 5 _ rfl; go_simp; try (with_reducible rfl))
      simp only [Act.put]; try simp only [List.setIfInBounds_toArray]; try simp only [List.set_cons_zero, List.set_cons_succ]
      refine wpAnyR_only (i := 3) rfl (by kernel_rfl) (by rfl) fun K hK => ?_
      go_simp
      refine (dyes_any HD4.out (by have h := HT4.out.size; rw [World.size_alloc] at h; exact h) (Nat.le_trans HN4.out (by omega)) ⟨by omega, by omega⟩).mono ?_
      rintro e w5 ⟨v5, rfl, hd, hb, _⟩
      have HD5 := hide hd
      have HT5 := hide (HT4.out.trans hb)
      have HN5 := hide (len_flag (n := 5) (x := s.undo) HN4.out)
      refine hK.out _ _ hb ?_
      clear hd hb
      clear hK K
      try (simp only [Act.put]; try simp only [List.setIfInBounds_toArray]; try simp only [List.set_cons_zero, List.set_cons_succ])
      refine wpAnyR_only (i := 6) rfl (by kernel_rfl) (by rfl) fun K hK => ?_
      go_simp
      refine (dyes_any HD5.out (by have h := HT5.out.size; rw [World.size_alloc] at h; exact h) (Nat.le_trans HN5.out (by omega)) ⟨by omega, by omega⟩).mono ?_
      rintro e w6 ⟨v6, rfl, hd, hb, _⟩
      have HD6 := hide hd
      have HT6 := hide (HT5.out.trans hb)
      have HN6 := hide (len_flag (n := 6) (x := s.pivot) HN5.out)
      refine hK.out _ _ hb ?_
      clear hd hb
      clear hK K
      try (simp only [Act.put]; try simp only [List.setIfInBounds_toArray]; try simp only [List.set_cons_zero, List.set_cons_succ])
      refine wpAnyR_take (pre_below (wr.heap.size + 1)) (i := 7) (d := some 6) (v := ?vab7) rfl rfl (by kernel_rfl) (by kernel_rfl) (by kernel_rfl) (fun _ _ _ h => h) (by rfl) ?yab7 ?_
      case yab7 => (intro w' hw'; go_simp; try (with_reducible rfl))
      simp only [Act.put]; try simp only [List.setIfInBounds_toArray]; try simp only [List.set_cons_zero, List.set_cons_succ]
      refine wpAnyR_done (by kernel_rfl) ?_ _
      have hall : ([] : List PF) ++ ptext 1 (nums s.name) ++ pnum 2 s.stub ++ pnum 3 s.retry ++ pnum 4 s.wait ++ pflag 5 s.undo ++ pflag 6 s.pivot = stepF s := by simp [stepF]
      have HD7 := HD6
      rw [hall] at HD7
      have C7 := hide (dwrite_any HD7.out HRS.out)
      have HL6 : Hid (Later wr w6) := Below.trans HW8.out (Below.mono HT6.out (by omega))
      clear hall HD6
      go_wp2_with (fail)
      refine C7.out.mono ?_
      rintro e w7 ⟨A7, n7, c7, rfl, ho7, hh7, _, hb7⟩
      have HL7 : Hid (Later wr w7) := HL6.out.trans hb7
      have hfd7 := own_fd (num := 2) ⟨by omega, by omega⟩ ho7 hh7.2.1
      have C8 := hide (dtext_any (HD.out.later HL7.out) (by have h1 := HB.out.size; have h2 := Below.size HL7.out; have h3 := HZ0.out; omega) (by simp only [List.length_append, List.length_map, List.length_take]; have := len_text (ps := []) (k := 0) (n := 1) (x := nums d.name) (Nat.le_refl _); simp only [List.length_append, List.length_nil] at this ⊢; omega) hfd7)
      clear ho7 hh7 hb7 hfd7 C7
      go_wp2_with (fail)
      refine C8.out.mono ?_
      rintro e w8 ⟨v8, rfl, hd8, hb8, _⟩
      have HD8 := hide hd8
      have HB8 : Hid (Below (w.heap.size + 1) w0 w8) := (HB.out.trans (Below.mono HL7.out (by have h1 := HB.out.size; have h3 := HZ0.out; omega))).trans hb8
      clear hd8 hb8 C8
      go_wp2
      go_roundw
      case rel =>
        refine ⟨q + 1, by omega, by go_num, ?_, HB8.out⟩
        have h := HD8.out
        rw [show prec (stepF s) = stepB s from rfl] at h
        rw [List.take_add_one, HSK.out]
        simpa only [Option.toList_some, List.map_append, List.map_cons, List.map_nil, List.append_assoc] using h
      case measure => simp [intOf]; omega
    · obtain rfl : q = m := by omega
      have hall : ([] : List PF) ++ ptext 1 (nums d.name) ++ (d.steps.take q).map (fun s => prow 2 (stepB s)) = defF d := by
        rw [List.take_of_length_le (by have := HM.out; omega)]
        simp [defF]
      rw [hall] at HD
      have C := hide (dwrite_any HD.out (Nat.le_trans HR.out (by omega)))
      clear hall
      go_wp2_with (fail)
      refine C.out.mono ?_
      rintro e w1 ⟨A2, n2, c2, rfl, h1, h2, h3, h4⟩
      have H1 := hide (own_base h1 (Below.size HLW.out))
      have H2 := hide h2
      have H4 := hide (HLW.out.trans h4)
      clear h1 h2 h4 C
      go_wp2
      go_ret
      exact ⟨A2, n2, c2, rfl, H1.out, H2.out, h3, H4.out⟩
end Go.Proofs.YtehiaeihkdfclaaGreatDoor
/- The walk over droverref09.OpBytes. -/
namespace Go.Proofs.YtehiaeihkdfclaaGreatDoor
open Go.RowKit

set_option maxHeartbeats 2000000 in
set_option maxRecDepth 100000 in
theorem ropb_any {G : Nat → Prop} {sA : Option Addr} {m sc k : Nat} {o : OpD} {w : World} (hl : StepsAt G w (.slice sA m sc) o.steps) (hm : m = o.steps.length) (hsm : o.sm k) (hk : k ≤ 5000) (hroom : proom (defF o.defn) ≤ 1000000) (hroom2 : proom (opF o) ≤ 10000000) :
    Calls Tryz.prog 14 #[.agg (o.cells (.slice sA m sc)).toArray] w (NewBytes w (opB o)) := by
  have HLL := hide hl
  have HM := hide hm
  have HSM := hide hsm
  have HKK := hide hk
  have HR := hide hroom
  have HR2 := hide hroom2
  have HX0 : Hid ((w.alloc (.cells (o.cells (.slice sA m sc)).toArray 26 (0, 0))).heap[w.heap.size]? = some (.cells (o.cells (.slice sA m sc)).toArray 26 (0, 0))) := heap_alloc_new _ _
  have HL0 : Hid (Later w (w.alloc (.cells (o.cells (.slice sA m sc)).toArray 26 (0, 0)))) := Later.alloc _ _
  have HS : Hid (∀ w', Below (w.heap.size + 1) (w.alloc (.cells (o.cells (.slice sA m sc)).toArray 26 (0, 0))) w' → w'.heap[w.heap.size]? = some (.cells (o.cells (.slice sA m sc)).toArray 26 (0, 0))) := fun w' h => (h.block w.heap.size (by omega)).trans HX0.out
  have HT0 : Hid (Below (w.heap.size + 1) (w.alloc (.cells (o.cells (.slice sA m sc)).toArray 26 (0, 0))) (w.alloc (.cells (o.cells (.slice sA m sc)).toArray 26 (0, 0))).drew) := drew_below _ _
  have HD0 : Hid (DR (w.alloc (.cells (o.cells (.slice sA m sc)).toArray 26 (0, 0))).drew (w.heap.size + 1) (.slice none 0 0) []) := DR.nil _ _
  have HN0 : Hid (([] : List PF).length ≤ 0) := Nat.le_refl _
  clear hl hm hsm hk hroom hroom2
  go_enter Tryz.func14, Tryz.ntmps14
  go_wp2
  refine wp_region_R (R := fun a c => Below (w.heap.size + 1) a c) (by kernel_rfl) ?_
  refine wpAnyR_take (pre_below (w.heap.size + 1)) (i := 0) (d := some 4) (v := ?vaa0) rfl rfl (by kernel_rfl) (by kernel_rfl) (by kernel_rfl) (fun _ _ _ h => h) (by rfl) ?yaa0 ?_
  case yaa0 => (intro w' hw'; go_simp; try (with_reducible rfl))
  simp only [Act.put]; try simp only [List.setIfInBounds_toArray]; try simp only [List.set_cons_zero, List.set_cons_succ]
  refine wpAnyR_take (pre_below (w.heap.size + 1)) (i := 1) (d := some 5) (v := .int .i64 o.kind) rfl rfl (by kernel_rfl) (by kernel_rfl) (by kernel_rfl) (fun _ _ _ h => h) (by rfl) ?yaa1 ?_
  case yaa1 => (intro w' hw'; have hx : w'.cell? ⟨w.heap.size, 0, none⟩ = some (.int .i64 o.kind) := box_at (HS.out w' (HT0.out.trans hw')) 0 _ rfl; go_simp; try (with_reducible rfl))
  simp only [Act.put]; try simp only [List.setIfInBounds_toArray]; try simp only [List.set_cons_zero, List.set_cons_succ]
  refine wpAnyR_take (pre_below (w.heap.size + 1)) (i := 3) (d := some 7) (v := ?vaa3) rfl rfl (by kernel_rfl) (by kernel_rfl) (by kernel_rfl) (fun _ _ _ h => h) (by rfl) ?yaa3 ?_
  case yaa3 => (intro w' hw'; go_simp; try (with_reducible rfl))
  simp only [Act.put]; try simp only [List.setIfInBounds_toArray]; try simp only [List.set_cons_zero, List.set_cons_succ]
  refine wpAnyR_take (pre_below (w.heap.size + 1)) (i := 4) (d := some 8) (v := .int .i64 o.client) rfl rfl (by kernel_rfl) (by kernel_rfl) (by kernel_rfl) (fun _ _ _ h => h) (by rfl) ?yaa4 ?_
  case yaa4 => (intro w' hw'; have hx : w'.cell? ⟨w.heap.size, 1, none⟩ = some (.int .i64 o.client) := box_at (HS.out w' (HT0.out.trans hw')) 1 _ rfl; go_simp; try (with_reducible rfl))
  simp only [Act.put]; try simp only [List.setIfInBounds_toArray]; try simp only [List.set_cons_zero, List.set_cons_succ]
  refine wpAnyR_take (pre_below (w.heap.size + 1)) (i := 6) (d := some 10) (v := ?vaa6) rfl rfl (by kernel_rfl) (by kernel_rfl) (by kernel_rfl) (fun _ _ _ h => h) (by rfl) ?yaa6 ?_
  case yaa6 => (intro w' hw'; go_simp; try (with_reducible rfl))
  simp only [Act.put]; try simp only [List.setIfInBounds_toArray]; try simp only [List.set_cons_zero, List.set_cons_succ]
  refine wpAnyR_take (pre_below (w.heap.size + 1)) (i := 7) (d := some 11) (v := .int .i64 o.request) rfl rfl (by kernel_rfl) (by kernel_rfl) (by kernel_rfl) (fun _ _ _ h => h) (by rfl) ?yaa7 ?_
  case yaa7 => (intro w' hw'; have hx : w'.cell? ⟨w.heap.size, 2, none⟩ = some (.int .i64 o.request) := box_at (HS.out w' (HT0.out.trans hw')) 2 _ rfl; go_simp; try (with_reducible rfl))
  simp only [Act.put]; try simp only [List.setIfInBounds_toArray]; try simp only [List.set_cons_zero, List.set_cons_succ]
  refine wpAnyR_only (i := 2) rfl (by kernel_rfl) (by rfl) fun K hK => ?_
  go_simp
  refine (dnum_any HD0.out (by have h := HT0.out.size; rw [World.size_alloc] at h; exact h) (Nat.le_trans HN0.out (by omega)) ⟨by omega, by omega⟩ HSM.out.1).mono ?_
  rintro e w1 ⟨v1, rfl, hd, hb, _⟩
  have HD1 := hide hd
  have HT1 := hide (HT0.out.trans hb)
  have HN1 := hide (len_num (n := 1) (x := o.kind) HN0.out)
  refine hK.out _ _ hb ?_
  clear hd hb
  clear hK K
  try (simp only [Act.put]; try simp only [List.setIfInBounds_toArray]; try simp only [List.set_cons_zero, List.set_cons_succ])
  refine wpAnyR_only (i := 5) rfl (by kernel_rfl) (by rfl) fun K hK => ?_
  go_simp
  refine (dnum_any HD1.out (by have h := HT1.out.size; rw [World.size_alloc] at h; exact h) (Nat.le_trans HN1.out (by omega)) ⟨by omega, by omega⟩ HSM.out.2.1).mono ?_
  rintro e w2 ⟨v2, rfl, hd, hb, _⟩
  have HD2 := hide hd
  have HT2 := hide (HT1.out.trans hb)
  have HN2 := hide (len_num (n := 2) (x := o.client) HN1.out)
  refine hK.out _ _ hb ?_
  clear hd hb
  clear hK K
  try (simp only [Act.put]; try simp only [List.setIfInBounds_toArray]; try simp only [List.set_cons_zero, List.set_cons_succ])
  refine wpAnyR_only (i := 8) rfl (by kernel_rfl) (by rfl) fun K hK => ?_
  go_simp
  refine (dnum_any HD2.out (by have h := HT2.out.size; rw [World.size_alloc] at h; exact h) (Nat.le_trans HN2.out (by omega)) ⟨by omega, by omega⟩ HSM.out.2.2.1).mono ?_
  rintro e w3 ⟨v3, rfl, hd, hb, _⟩
  have HD3 := hide hd
  have HT3 := hide (HT2.out.trans hb)
  have HN3 := hide (len_num (n := 3) (x := o.request) HN2.out)
  refine hK.out _ _ hb ?_
  clear hd hb
  clear hK K
  try (simp only [Act.put]; try simp only [List.setIfInBounds_toArray]; try simp only [List.set_cons_zero, List.set_cons_succ])
  refine wpAnyR_take (pre_below (w.heap.size + 1)) (i := 9) (d := some 3) (v := ?vaa9) rfl rfl (by kernel_rfl) (by kernel_rfl) (by kernel_rfl) (fun _ _ _ h => h) (by rfl) ?yaa9 ?_
  case yaa9 => (intro w' hw'; go_simp; try (with_reducible rfl))
  simp only [Act.put]; try simp only [List.setIfInBounds_toArray]; try simp only [List.set_cons_zero, List.set_cons_succ]
  refine wpAnyR_done (by kernel_rfl) ?_ _
  have hx3 := HS.out _ HT3.out
  have c3 : w3.cell? ⟨w.heap.size, 3, none⟩ = some (.string o.name) := box_at hx3 3 _ rfl
  have c4 : w3.cell? ⟨w.heap.size, 4, none⟩ = some (.slice sA m sc) := box_at hx3 4 _ rfl
  have hl3 : Later w w3 := Below.trans HL0.out (Below.mono HT3.out (by omega))
  have C4 := hide (rdefb_any (d := o.defn) (HLL.out.kept (Kept.of_below hl3 G)) HM.out HSM.out.2.2.2.1 HKK.out HR.out)
  clear hx3 hl3
  go_wp2_with (fail)
  refine C4.out.mono ?_
  rintro e w3b ⟨A4, n4, c4, rfl, ho4, hh4, _, hb4⟩
  have hz3 : w.heap.size + 1 ≤ w3.heap.size := by have h := HT3.out.size; rw [World.size_alloc] at h; exact h
  have hfd4 := own_fd (num := 4) ⟨by omega, by omega⟩ ho4 hh4.2.1
  have HT3b : Hid (Below (w.heap.size + 1) (w.alloc (.cells (o.cells (.slice sA m sc)).toArray 26 (0, 0))) w3b) := HT3.out.trans (Below.mono hb4 hz3)
  have C5 := hide (dsome_any (HD3.out.later hb4) (by have h := HT3b.out.size; rw [World.size_alloc] at h; exact h) (Nat.le_trans HN3.out (by omega)) hfd4)
  clear ho4 hh4 hb4 hfd4 C4
  go_wp2_with (fail)
  refine C5.out.mono ?_
  rintro e w4 ⟨v4, rfl, hd, hb, _⟩
  have HD4 := hide hd
  have HT4 := hide (HT3b.out.trans hb)
  have HN4 := hide (len_text (n := 4) (x := defB o.defn) HN3.out)
  clear hd hb C5 HT3b
  have HT4b : Hid (Below (w.heap.size + 1) (w.alloc (.cells (o.cells (.slice sA m sc)).toArray 26 (0, 0))) w4.drew) := HT4.out.trans (drew_below _ _)
  have HD4b := hide (HD4.out.later (Later.drew w4))
  clear HT4 HD4
  have HT4 := HT4b
  have HD4 := HD4b
  clear HT4b HD4b
  go_wp2
  refine wp_region_R (R := fun a c => Below (w.heap.size + 1) a c) (by kernel_rfl) ?_
  refine wpAnyR_take (pre_below (w.heap.size + 1)) (i := 0) (d := some 18) (v := ?vab0) rfl rfl (by kernel_rfl) (by kernel_rfl) (by kernel_rfl) (fun _ _ _ h => h) (by rfl) ?yab0 ?_
  case yab0 => (intro w' hw'; go_simp; try (with_reducible rfl))
  simp only [Act.put]; try simp only [List.setIfInBounds_toArray]; try simp only [List.set_cons_zero, List.set_cons_succ]
  refine wpAnyR_take (pre_below (w.heap.size + 1)) (i := 1) (d := some 19) (v := ?vab1) rfl rfl (by kernel_rfl) (by kernel_rfl) (by kernel_rfl) (fun _ _ _ h => h) (by rfl) ?yab1 ?_
  case yab1 => (intro w' hw'; go_simp; try (with_reducible rfl))
  simp only [Act.put]; try simp only [List.setIfInBounds_toArray]; try simp only [List.set_cons_zero, List.set_cons_succ]
  refine wpAnyR_take (pre_below (w.heap.size + 1)) (i := 2) (d := some 20) (v := .int .i64 o.saga) rfl rfl (by kernel_rfl) (by kernel_rfl) (by kernel_rfl) (fun _ _ _ h => h) (by rfl) ?yab2 ?_
  case yab2 => (intro w' hw'; have hx : w'.cell? ⟨w.heap.size, 5, none⟩ = some (.int .i64 o.saga) := box_at (HS.out w' (HT4.out.trans hw')) 5 _ rfl; go_simp; try (with_reducible rfl))
  simp only [Act.put]; try simp only [List.setIfInBounds_toArray]; try simp only [List.set_cons_zero, List.set_cons_succ]
  refine wpAnyR_take (pre_below (w.heap.size + 1)) (i := 4) (d := some 22) (v := ?vab4) rfl rfl (by kernel_rfl) (by kernel_rfl) (by kernel_rfl) (fun _ _ _ h => h) (by rfl) ?yab4 ?_
  case yab4 => (intro w' hw'; go_simp; try (with_reducible rfl))
  simp only [Act.put]; try simp only [List.setIfInBounds_toArray]; try simp only [List.set_cons_zero, List.set_cons_succ]
  refine wpAnyR_take (pre_below (w.heap.size + 1)) (i := 5) (d := some 23) (v := .int .i64 o.step) rfl rfl (by kernel_rfl) (by kernel_rfl) (by kernel_rfl) (fun _ _ _ h => h) (by rfl) ?yab5 ?_
  case yab5 => (intro w' hw'; have hx : w'.cell? ⟨w.heap.size, 6, none⟩ = some (.int .i64 o.step) := box_at (HS.out w' (HT4.out.trans hw')) 6 _ rfl; go_simp; try (with_reducible rfl))
  simp only [Act.put]; try simp only [List.setIfInBounds_toArray]; try simp only [List.set_cons_zero, List.set_cons_succ]
  refine wpAnyR_take (pre_below (w.heap.size + 1)) (i := 7) (d := some 25) (v := ?vab7) rfl rfl (by kernel_rfl) (by kernel_rfl) (by kernel_rfl) (fun _ _ _ h => h) (by rfl) ?yab7 ?_
  case yab7 => (intro w' hw'; go_simp; try (with_reducible rfl))
  simp only [Act.put]; try simp only [List.setIfInBounds_toArray]; try simp only [List.set_cons_zero, List.set_cons_succ]
  refine wpAnyR_take (pre_below (w.heap.size + 1)) (i := 8) (d := some 26) (v := .int .i64 o.try_) rfl rfl (by kernel_rfl) (by kernel_rfl) (by kernel_rfl) (fun _ _ _ h => h) (by rfl) ?yab8 ?_
  case yab8 => (intro w' hw'; have hx : w'.cell? ⟨w.heap.size, 7, none⟩ = some (.int .i64 o.try_) := box_at (HS.out w' (HT4.out.trans hw')) 7 _ rfl; go_simp; try (with_reducible rfl))
  simp only [Act.put]; try simp only [List.setIfInBounds_toArray]; try simp only [List.set_cons_zero, List.set_cons_succ]
  refine wpAnyR_only (i := 3) rfl (by kernel_rfl) (by rfl) fun K hK => ?_
  go_simp
  refine (dnum_any HD4.out (by have h := HT4.out.size; rw [World.size_alloc] at h; exact h) (Nat.le_trans HN4.out (by omega)) ⟨by omega, by omega⟩ HSM.out.2.2.2.2.1).mono ?_
  rintro e w5 ⟨v5, rfl, hd, hb, _⟩
  have HD5 := hide hd
  have HT5 := hide (HT4.out.trans hb)
  have HN5 := hide (len_num (n := 5) (x := o.saga) HN4.out)
  refine hK.out _ _ hb ?_
  clear hd hb
  clear hK K
  try (simp only [Act.put]; try simp only [List.setIfInBounds_toArray]; try simp only [List.set_cons_zero, List.set_cons_succ])
  refine wpAnyR_only (i := 6) rfl (by kernel_rfl) (by rfl) fun K hK => ?_
  go_simp
  refine (dnum_any HD5.out (by have h := HT5.out.size; rw [World.size_alloc] at h; exact h) (Nat.le_trans HN5.out (by omega)) ⟨by omega, by omega⟩ HSM.out.2.2.2.2.2.1).mono ?_
  rintro e w6 ⟨v6, rfl, hd, hb, _⟩
  have HD6 := hide hd
  have HT6 := hide (HT5.out.trans hb)
  have HN6 := hide (len_num (n := 6) (x := o.step) HN5.out)
  refine hK.out _ _ hb ?_
  clear hd hb
  clear hK K
  try (simp only [Act.put]; try simp only [List.setIfInBounds_toArray]; try simp only [List.set_cons_zero, List.set_cons_succ])
  refine wpAnyR_only (i := 9) rfl (by kernel_rfl) (by rfl) fun K hK => ?_
  go_simp
  refine (dnum_any HD6.out (by have h := HT6.out.size; rw [World.size_alloc] at h; exact h) (Nat.le_trans HN6.out (by omega)) ⟨by omega, by omega⟩ HSM.out.2.2.2.2.2.2).mono ?_
  rintro e w7 ⟨v7, rfl, hd, hb, _⟩
  have HD7 := hide hd
  have HT7 := hide (HT6.out.trans hb)
  have HN7 := hide (len_num (n := 7) (x := o.try_) HN6.out)
  refine hK.out _ _ hb ?_
  clear hd hb
  clear hK K
  try (simp only [Act.put]; try simp only [List.setIfInBounds_toArray]; try simp only [List.set_cons_zero, List.set_cons_succ])
  refine wpAnyR_take (pre_below (w.heap.size + 1)) (i := 10) (d := some 3) (v := ?vab10) rfl rfl (by kernel_rfl) (by kernel_rfl) (by kernel_rfl) (fun _ _ _ h => h) (by rfl) ?yab10 ?_
  case yab10 => (intro w' hw'; go_simp; try (with_reducible rfl))
  simp only [Act.put]; try simp only [List.setIfInBounds_toArray]; try simp only [List.set_cons_zero, List.set_cons_succ]
  refine wpAnyR_done (by kernel_rfl) ?_ _
  have HT7b : Hid (Below (w.heap.size + 1) (w.alloc (.cells (o.cells (.slice sA m sc)).toArray 26 (0, 0))) w7.drew) := HT7.out.trans (drew_below _ _)
  have HD7b := hide (HD7.out.later (Later.drew w7))
  clear HT7 HD7
  have HT7 := HT7b
  have HD7 := HD7b
  clear HT7b HD7b
  go_wp2
  refine wp_region_R (R := fun a c => Below (w.heap.size + 1) a c) (by kernel_rfl) ?_
  refine wpAnyR_take (pre_below (w.heap.size + 1)) (i := 0) (d := some 28) (v := ?vac0) rfl rfl (by kernel_rfl) (by kernel_rfl) (by kernel_rfl) (fun _ _ _ h => h) (by rfl) ?yac0 ?_
  case yac0 => (intro w' hw'; go_simp; try (with_reducible rfl))
  simp only [Act.put]; try simp only [List.setIfInBounds_toArray]; try simp only [List.set_cons_zero, List.set_cons_succ]
  refine wpAnyR_take (pre_below (w.heap.size + 1)) (i := 1) (d := some 29) (v := ?vac1) rfl rfl (by kernel_rfl) (by kernel_rfl) (by kernel_rfl) (fun _ _ _ h => h) (by rfl) ?yac1 ?_
  case yac1 => (intro w' hw'; go_simp; try (with_reducible rfl))
  simp only [Act.put]; try simp only [List.setIfInBounds_toArray]; try simp only [List.set_cons_zero, List.set_cons_succ]
  refine wpAnyR_take (pre_below (w.heap.size + 1)) (i := 2) (d := some 30) (v := .bool o.back) rfl rfl (by kernel_rfl) (by kernel_rfl) (by kernel_rfl) (fun _ _ _ h => h) (by rfl) ?yac2 ?_
  case yac2 => (intro w' hw'; have hx : w'.cell? ⟨w.heap.size, 8, none⟩ = some (.bool o.back) := box_at (HS.out w' (HT7.out.trans hw')) 8 _ rfl; go_simp; try (with_reducible rfl))
  simp only [Act.put]; try simp only [List.setIfInBounds_toArray]; try simp only [List.set_cons_zero, List.set_cons_succ]
  refine wpAnyR_take (pre_below (w.heap.size + 1)) (i := 4) (d := some 32) (v := ?vac4) rfl rfl (by kernel_rfl) (by kernel_rfl) (by kernel_rfl) (fun _ _ _ h => h) (by rfl) ?yac4 ?_
  case yac4 => (intro w' hw'; go_simp; try (with_reducible rfl))
  simp only [Act.put]; try simp only [List.setIfInBounds_toArray]; try simp only [List.set_cons_zero, List.set_cons_succ]
  refine wpAnyR_take (pre_below (w.heap.size + 1)) (i := 5) (d := some 33) (v := .bool o.good) rfl rfl (by kernel_rfl) (by kernel_rfl) (by kernel_rfl) (fun _ _ _ h => h) (by rfl) ?yac5 ?_
  case yac5 => (intro w' hw'; have hx : w'.cell? ⟨w.heap.size, 9, none⟩ = some (.bool o.good) := box_at (HS.out w' (HT7.out.trans hw')) 9 _ rfl; go_simp; try (with_reducible rfl))
  simp only [Act.put]; try simp only [List.setIfInBounds_toArray]; try simp only [List.set_cons_zero, List.set_cons_succ]
  refine wpAnyR_only (i := 3) rfl (by kernel_rfl) (by rfl) fun K hK => ?_
  go_simp
  refine (dyes_any HD7.out (by have h := HT7.out.size; rw [World.size_alloc] at h; exact h) (Nat.le_trans HN7.out (by omega)) ⟨by omega, by omega⟩).mono ?_
  rintro e w8 ⟨v8, rfl, hd, hb, _⟩
  have HD8 := hide hd
  have HT8 := hide (HT7.out.trans hb)
  have HN8 := hide (len_flag (n := 8) (x := o.back) HN7.out)
  refine hK.out _ _ hb ?_
  clear hd hb
  clear hK K
  try (simp only [Act.put]; try simp only [List.setIfInBounds_toArray]; try simp only [List.set_cons_zero, List.set_cons_succ])
  refine wpAnyR_only (i := 6) rfl (by kernel_rfl) (by rfl) fun K hK => ?_
  go_simp
  refine (dyes_any HD8.out (by have h := HT8.out.size; rw [World.size_alloc] at h; exact h) (Nat.le_trans HN8.out (by omega)) ⟨by omega, by omega⟩).mono ?_
  rintro e w9 ⟨v9, rfl, hd, hb, _⟩
  have HD9 := hide hd
  have HT9 := hide (HT8.out.trans hb)
  have HN9 := hide (len_flag (n := 9) (x := o.good) HN8.out)
  refine hK.out _ _ hb ?_
  clear hd hb
  clear hK K
  try (simp only [Act.put]; try simp only [List.setIfInBounds_toArray]; try simp only [List.set_cons_zero, List.set_cons_succ])
  refine wpAnyR_only (i := 7) rfl (by kernel_rfl) (by rfl) fun K hK => ?_
  go_simp
  have hall : ([] : List PF) ++ pnum 1 o.kind ++ pnum 2 o.client ++ pnum 3 o.request ++ ptext 4 (defB o.defn) ++ pnum 5 o.saga ++ pnum 6 o.step ++ pnum 7 o.try_ ++ pflag 8 o.back ++ pflag 9 o.good = opF o := by simp [opF]
  have HDZ := HD9
  rw [hall] at HDZ
  refine (dwrite_any HDZ.out HR2.out).mono ?_
  rintro e w10 ⟨A2, n2, c2, rfl, h1, h2, h3, h4⟩
  have hz9 : w.heap.size + 1 ≤ w9.heap.size := by have h := HT9.out.size; rw [World.size_alloc] at h; exact h
  have H1 := hide (own_base h1 (show w.heap.size ≤ w9.heap.size by omega))
  have H2 := hide h2
  have H3 := hide h3
  have H4 : Hid (Below w.heap.size w w10) := Below.trans HL0.out (Below.trans (Below.mono HT9.out (by omega)) (Below.mono h4 (by omega)))
  refine hK.out _ _ (Below.mono h4 hz9) ?_
  clear h1 h2 h3 h4 hall
  clear hK K
  try (simp only [Act.put]; try simp only [List.setIfInBounds_toArray]; try simp only [List.set_cons_zero, List.set_cons_succ])
  refine wpAnyR_take (pre_below (w.heap.size + 1)) (i := 8) (d := some 2) (v := ?vac8) rfl rfl (by kernel_rfl) (by kernel_rfl) (by kernel_rfl) (fun _ _ _ h => h) (by rfl) ?yac8 ?_
  case yac8 => (intro w' hw'; go_simp; try (with_reducible rfl))
  simp only [Act.put]; try simp only [List.setIfInBounds_toArray]; try simp only [List.set_cons_zero, List.set_cons_succ]
  refine wpAnyR_done (by kernel_rfl) ?_ _
  go_wp2
  go_ret
  exact ⟨A2, n2, c2, rfl, H1.out, H2.out, H3.out, H4.out⟩
end Go.Proofs.YtehiaeihkdfclaaGreatDoor
/- The walk over droverref09.may: may all these numbers be? -/
namespace Go.Proofs.YtehiaeihkdfclaaGreatDoor
open Go.RowKit

theorem all_next {l : List Int} {q : Nat} {x : Int} (h : (l.take q).all mayB = true) (hx : l[q]? = some x) (h0 : 0 ≤ x) (h1 : x ≤ 1099511627776) : (l.take (q + 1)).all mayB = true := by
  rw [List.take_add_one, hx, List.all_append, h]
  simp [mayB, h0, h1]
theorem all_no {l : List Int} {q : Nat} {x : Int} (hx : l[q]? = some x) (h0 : mayB x = false) : false = l.all mayB := by
  symm
  rw [Bool.eq_false_iff]
  intro h
  rw [List.all_eq_true] at h
  rw [h x (List.mem_of_getElem? hx)] at h0
  cases h0

set_option maxHeartbeats 1000000 in
set_option maxRecDepth 100000 in
theorem rmay_any {w : World} {A : Option Addr} {n c : Nat} {F : Nat → Prop} {l : List Int} (h : IncsAt F w (.slice A n c) l) (hn : n = l.length) :
    Calls Tryz.prog 27 #[.slice A n c] w fun e w' => e = .returned (.bool (l.all mayB)) ∧ w' = w := by
  have hnb : n ≤ 9223372036854775807 := by
    obtain ⟨_, _, hv, h1, h2, _⟩ := FlatAt.shape h
    injection hv with _ e2 e3
    unfold maxLen at h2
    omega
  have H := hide h
  have HN := hide hn
  clear h hn
  go_enter Tryz.func27, Tryz.ntmps27
  go_wp2
  go_loop [7] (fun i => ∃ q : Nat, q ≤ n ∧ i = .int .i64 (q : Int) ∧ (l.take q).all mayB = true) (fun i => n - (intOf i).toNat)
  case atStart => exact ⟨0, by omega, rfl, rfl⟩
  case round =>
    obtain ⟨q, hq, rfl, hall⟩ := hrel
    have HA := hide hall
    clear hall
    by_cases hlt : q < n
    · obtain ⟨x, b, off, c', hx, hv, _, _, _, hc⟩ := IncsAt.at_ H.out (i := q) (by rw [← HN.out]; exact hlt)
      obtain ⟨rfl, rfl⟩ : A = some ⟨b, off, none⟩ ∧ c = c' := by injection hv with e1 _ e3; exact ⟨e1, e3⟩
      have HX := hide hx
      clear hx hv
      by_cases h0 : x < 0
      · have HQ := hide (all_no HX.out (by simp [mayB]; omega))
        go_wp2
        go_ret
        exact ⟨ret_bool HQ.out, rfl⟩
      · by_cases h1 : 1099511627776 < x
        · have HQ := hide (all_no HX.out (by simp [mayB]; omega))
          go_wp2
          go_ret
          exact ⟨ret_bool HQ.out, rfl⟩
        · have HQ := hide (all_next HA.out HX.out (by omega) (by omega))
          go_wp2
          go_round
          case rel => exact ⟨q + 1, by omega, by go_num, HQ.out⟩
          case measure => simp [intOf]; omega
    · have hall : true = l.all mayB := by
        have h1 := HA.out
        rw [List.take_of_length_le (by have := HN.out; omega)] at h1
        exact h1.symm
      have HALL := hide hall
      clear hall
      go_wp2
      go_ret
      exact ⟨ret_bool HALL.out, rfl⟩
end Go.Proofs.YtehiaeihkdfclaaGreatDoor
/- The walk over droverref09.GoodOp. -/
namespace Go.Proofs.YtehiaeihkdfclaaGreatDoor
open Go.RowKit

theorem steps_no {l : List StepD} {q : Nat} {s : StepD} (hs : l[q]? = some s) (h : stepG s = false) : l.all stepG = false := by
  rw [Bool.eq_false_iff]
  intro h2
  rw [List.all_eq_true] at h2
  rw [h2 s (List.mem_of_getElem? hs)] at h
  cases h
theorem steps_next {l : List StepD} {q : Nat} {s : StepD} (h : (l.take q).all stepG = true) (hs : l[q]? = some s) (hg : stepG s = true) : (l.take (q + 1)).all stepG = true := by
  rw [List.take_add_one, hs, List.all_append, h]
  simp [hg]

set_option maxHeartbeats 800000 in
set_option maxRecDepth 100000 in
theorem rgoodop_any {G : Nat → Prop} {sA : Option Addr} {m sc : Nat} {x : OpD} {w : World} (hl : StepsAt G w (.slice sA m sc) x.steps) (hm : m = x.steps.length) :
    Calls Tryz.prog 12 #[.agg #[.int .i64 x.kind, .int .i64 x.client, .int .i64 x.request, .string x.name, .slice sA m sc, .int .i64 x.saga, .int .i64 x.step, .int .i64 x.try_, .bool x.back, .bool x.good]] w fun e w' => e = .returned (.bool (opG x)) ∧ Later w w' := by
  obtain ⟨t, ht⟩ : ∃ t, [x.client, x.request, x.saga, x.step, x.try_].all mayB = t := ⟨_, rfl⟩
  have hnb : m ≤ 9223372036854775807 := by
    obtain ⟨_, _, hv, h1, h2, _⟩ := FlatAt.shape hl
    injection hv with _ e2 e3
    unfold maxLen at h2
    omega
  have HLL := hide hl
  have HM := hide hm
  have HX0 : Hid ((w.alloc (.cells #[.int .i64 x.kind, .int .i64 x.client, .int .i64 x.request, .string x.name, .slice sA m sc, .int .i64 x.saga, .int .i64 x.step, .int .i64 x.try_, .bool x.back, .bool x.good] 26 (0, 0))).heap[w.heap.size]? = some (.cells #[.int .i64 x.kind, .int .i64 x.client, .int .i64 x.request, .string x.name, .slice sA m sc, .int .i64 x.saga, .int .i64 x.step, .int .i64 x.try_, .bool x.back, .bool x.good] 26 (0, 0))) := heap_alloc_new _ _
  have HL0 : Hid (Later w (w.alloc (.cells #[.int .i64 x.kind, .int .i64 x.client, .int .i64 x.request, .string x.name, .slice sA m sc, .int .i64 x.saga, .int .i64 x.step, .int .i64 x.try_, .bool x.back, .bool x.good] 26 (0, 0)))) := Later.alloc _ _
  have C := rmay_any (incs_new [x.client, x.request, x.saga, x.step, x.try_] (w.alloc (.cells #[.int .i64 x.kind, .int .i64 x.client, .int .i64 x.request, .string x.name, .slice sA m sc, .int .i64 x.saga, .int .i64 x.step, .int .i64 x.try_, .bool x.back, .bool x.good] 26 (0, 0))) (by simp)) rfl
  rw [ht] at C
  simp only [World.size_alloc, List.map_cons, List.map_nil, List.length_cons, List.length_nil, Nat.zero_add, Nat.reduceAdd] at C
  have HC := hide C
  have HT := hide ht
  clear hl hm C ht
  by_cases k0 : 0 ≤ x.kind
  · by_cases k1 : x.kind ≤ 5
    · have K0 := hide k0
      have K1 := hide k1
      go_enter Tryz.func12, Tryz.ntmps12
      go_wp2_with (fail)
      refine HC.out.mono ?_
      rintro e w1 ⟨rfl, hw1⟩
      have HL1 : Hid (Later w w1) := by rw [hw1]; exact HL0.out.trans (Later.alloc _ _)
      have hx1 : w1.heap[w.heap.size]? = some (.cells #[.int .i64 x.kind, .int .i64 x.client, .int .i64 x.request, .string x.name, .slice sA m sc, .int .i64 x.saga, .int .i64 x.step, .int .i64 x.try_, .bool x.back, .bool x.good] 26 (0, 0)) := by rw [hw1]; exact (Below.block (Later.alloc _ _) w.heap.size (lt_of_block HX0.out)).trans HX0.out
      have c3 := box_at hx1 3 _ rfl
      have c4 := box_at hx1 4 _ rfl
      clear hw1 hx1 HC
      cases t with
      | false =>
        clear c3 c4
        go_wp2
        go_ret
        exact ⟨ret_bool (by have h := HT.out; simp only [List.all_cons, List.all_nil] at h; unfold opG; simp only [Bool.and_true] at h; simp only [Bool.and_assoc] at h ⊢; rw [h]; simp), HL1.out⟩
      | true =>
        by_cases n1 : x.name.size ≤ 16
        · by_cases n2 : m ≤ 8
          · have N1 := hide n1
            have N2 := hide n2
            go_wp2
            clear c3 c4
            go_loopw [46] (fun i wr => ∃ q : Nat, q ≤ m ∧ i = .int .i64 (q : Int) ∧ (x.steps.take q).all stepG = true ∧ Later w wr) (fun i _ => m - (intOf i).toNat)
            case atStart => exact ⟨0, by omega, rfl, rfl, HL1.out⟩
            case round =>
              obtain ⟨q, hq, rfl, hall, hlat⟩ := hrel
              have HA := hide hall
              have HLW := hide hlat
              clear hall hlat
              by_cases hlt : q < m
              · obtain ⟨s, b, off, c', hsk, hv, _, _, hbw, hr⟩ := StepsAt.at_ (HLL.out.kept (Kept.of_below HLW.out G)) (i := q) (by rw [← HM.out]; exact hlt)
                obtain ⟨rfl, rfl⟩ : sA = some ⟨b, off, none⟩ ∧ sc = c' := by injection hv with e1 _ e3; exact ⟨e1, e3⟩
                obtain ⟨r0, r1, r2, r3, r4, r5⟩ := range_step hr
                have HSK := hide hsk
                obtain ⟨t2, ht2⟩ : ∃ t, [s.stub, s.retry, s.wait].all mayB = t := ⟨_, rfl⟩
                have C := rmay_any (incs_new [s.stub, s.retry, s.wait] (wr.alloc (.cells #[.string s.name, .int .i64 s.stub, .int .i64 s.retry, .int .i64 s.wait, .bool s.undo, .bool s.pivot] 68 (0, 0))) (by simp)) rfl
                rw [ht2] at C
                simp only [World.size_alloc, List.map_cons, List.map_nil, List.length_cons, List.length_nil, Nat.zero_add, Nat.reduceAdd] at C
                have HC := hide C
                have HT2 := hide ht2
                have HW8 : Hid (Later w (wr.alloc (.cells #[.string s.name, .int .i64 s.stub, .int .i64 s.retry, .int .i64 s.wait, .bool s.undo, .bool s.pivot] 68 (0, 0)))) := HLW.out.trans (Later.alloc _ _)
                clear hsk hv hr C ht2
                by_cases n3 : s.name.size ≤ 16
                · have N3 := hide n3
                  go_wp2_with (fail)
                  refine HC.out.mono ?_
                  rintro e w2 ⟨rfl, hw2⟩
                  have HL2 : Hid (Later w w2) := by rw [hw2]; exact HW8.out.trans (Later.alloc _ _)
                  have hsg : stepG s = t2 := by
                    have h := HT2.out
                    simp only [List.all_cons, List.all_nil, Bool.and_true] at h
                    unfold stepG
                    rw [decide_eq_true N3.out, ← h]
                    simp [Bool.and_assoc]
                  have HSG := hide hsg
                  clear hw2 hsg HC r0 r1 r2 r3 r4 r5
                  cases t2 with
                  | false =>
                    have HNO := hide (steps_no HSK.out HSG.out)
                    go_wp2
                    go_ret
                    exact ⟨ret_bool (by unfold opG defG; rw [show x.defn.steps = x.steps from rfl, HNO.out]; simp), HL2.out⟩
                  | true =>
                    have HNX := hide (steps_next HA.out HSK.out HSG.out)
                    go_wp2
                    go_roundw
                    case rel => exact ⟨q + 1, by omega, by go_num, HNX.out, HL2.out⟩
                    case measure => simp [intOf]; omega
                · have HNO := hide (steps_no HSK.out (by unfold stepG; rw [decide_eq_false n3]; rfl))
                  clear HC
                  go_wp2
                  go_ret
                  exact ⟨ret_bool (by unfold opG defG; rw [show x.defn.steps = x.steps from rfl, HNO.out]; simp), HW8.out⟩
              · have hall : x.steps.all stepG = true := by
                  have h1 := HA.out
                  rwa [List.take_of_length_le (by have := HM.out; omega)] at h1
                have HALL := hide hall
                clear hall
                go_wp2
                go_ret
                refine ⟨ret_bool ?_, HLW.out⟩
                have h := HT.out
                simp only [List.all_cons, List.all_nil, Bool.and_true, Bool.and_eq_true] at h
                unfold opG defG
                have h8 : x.defn.steps.length ≤ 8 := by have h1 := HM.out; have h2 := N2.out; show x.steps.length ≤ 8; omega
                have h16 : x.defn.name.size ≤ 16 := N1.out
                rw [show x.defn.steps.all stepG = true from HALL.out, decide_eq_true K0.out, decide_eq_true K1.out, decide_eq_true h8, decide_eq_true h16]
                simp [h]
          · have N2 := hide n2
            go_wp2
            go_ret
            exact ⟨ret_bool (by have h8 : ¬ x.defn.steps.length ≤ 8 := by { have h1 := HM.out; have h2 := N2.out; show ¬ x.steps.length ≤ 8; omega }; unfold opG defG; rw [decide_eq_false h8]; simp), HL1.out⟩
        · have N1 := hide n1
          go_wp2
          go_ret
          exact ⟨ret_bool (by have h8 : ¬ x.defn.name.size ≤ 16 := N1.out; unfold opG defG; rw [decide_eq_false h8]; simp), HL1.out⟩
    · have K1 := hide k1
      go_enter Tryz.func12, Tryz.ntmps12
      go_wp2
      go_ret
      exact ⟨ret_bool (by unfold opG; rw [decide_eq_false (Int.not_le.2 K1.out)]; simp), HL0.out⟩
  · have K0 := hide k0
    go_enter Tryz.func12, Tryz.ntmps12
    go_wp2
    go_ret
    exact ⟨ret_bool (by unfold opG; rw [decide_eq_false (Int.not_le.2 K0.out)]; simp), HL0.out⟩
end Go.Proofs.YtehiaeihkdfclaaGreatDoor
