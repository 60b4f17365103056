/- Texts merged: RefNum, RefRow, Find, RefFind, RefRow2, RefDef, RefOp, Ints, RefInn, RefMay, RefGood, Ref2. -/
import Derived.Test.YtehiaeihkdfclaaGreatDoorBaseN1
import Derived.Test.YtehiaeihkdfclaaGreatDoorBaseN2
import Derived.Test.YtehiaeihkdfclaaGreatDoorBaseN3
import Derived.Test.YtehiaeihkdfclaaGreatDoorBaseN4
import Derived.Test.YtehiaeihkdfclaaGreatDoorBaseN5
import Derived.Laws.AppendOwn
import Derived.Handy
import Derived.Test.YtehiaeihkdfclaaGreatDoorRows
import Derived.Laws.CopyOwn
/- The walks over the document's own numbers: droverref01.Uint, GetUint, Zig, Zag. -/
namespace Go.Proofs.YtehiaeihkdfclaaGreatDoor
open Go.RowKit

set_option maxHeartbeats 1000000 in
theorem refuint_any (A : Option Addr) (n c V : Nat) (l : List Nat) (B : Nat) (w : World) (hV : V < 18446744073709551616) (hn : n ≤ 1099511627000) (hl : Holds w B A n l) (hB : B ≤ w.heap.size) :
    Calls Tryz.prog 73 #[.slice A n c, .int .u64 V] w (NewBytes w (l ++ enc V)) := by
  obtain ⟨i0, hi, hz0, hz1, hz2⟩ := info_parts Tryz.infoU8
  have HV := hide hV
  have Hl := hide hl
  clear hV hl
  go_enter Tryz.func73, Tryz.ntmps73
  go_wp2_with (at_builtin; refine wpList_append_bytes _ rfl (.tmp 7) (.tmp 8) 38 rfl w.heap.size 5 i0 (.int .u8 0) Tryz.underlying38 hi hz0 hz1 hz2 rfl _ 0 [] rfl (World.ownsRow_lit w #[] 0 (Nat.le_refl _) (by simp [maxLen]) rfl) B A n c l rfl (Hl.out.below ((Below.refl _ _).alloc hB _)) (by omega) (by simp) ?_; intro v2 w2 o2 g2)
  have l2 : Below w.heap.size w w2 := ((Below.refl _ _).alloc (Nat.le_refl _) _).trans (g2.below (World.ownsRow_lit w #[] 0 (Nat.le_refl _) (by simp [maxLen]) rfl) (by simp))
  have o2' : w2.ownsRow w.heap.size 5 1 v2 n (bvs (l ++ [])) := by simpa using o2
  clear o2 g2
  go_loopw [5, 1] (fun b vv wr => ∃ (f v m : Nat) (k : List Nat), PutAt V f v m n k ∧ vv = .int .u64 v ∧ wr.ownsRow w.heap.size 5 1 b m (bvs (l ++ k)) ∧ Below w.heap.size w wr) (fun _ vv _ => (intOf vv).toNat)
  case atStart => exact ⟨9, V, n, [], putAt_start HV.out n, rfl, o2', l2⟩
  case round =>
    obtain ⟨f, v, m, k, hput, rfl, hown, hbel⟩ := hrel
    have hmm := hput.room (by omega)
    obtain ⟨g, hg⟩ : ∃ g, g = v % 128 := ⟨_, rfl⟩
    obtain ⟨c, hc⟩ : ∃ c, c = g + 128 := ⟨_, rfl⟩
    have hrem : (v : Int) % 128 = (g : Int) := by omega
    obtain ⟨q, hq⟩ : ∃ q, q = v / 128 := ⟨_, rfl⟩
    have hquo : IntKind.u64.wrap ((v : Int) / 128) = (q : Int) := by
      have := hput.1
      rw [IntKind.wrap_u64]
      omega
    have Hq := hide hq
    have hadd : (g : Int) + 128 = (c : Int) := by omega
    have hgs : g < 128 := by omega
    have hcs : c < 256 := by omega
    have hsz := hbel.size
    have Hg := hide hg
    have Hc := hide hc
    clear hg hc hq o2' l2
    by_cases h : q = 0
    · have ht : ((q : Int) == 0) = true := by simp; omega
      have Hz : Hid (v / 128 = 0) := by show _ = _; rw [← Hq.out]; exact h
      clear h
      go_wp2_with (at_builtin; refine wpList_append_own_at _ rfl (.tmp 17) (.tmp 19) 38 rfl w.heap.size 5 i0 _ 1 1 Tryz.underlying38 hi hz0 hz1 hz2 rfl (by omega) _ m (bvs (l ++ k)) rfl (hown.alloc _) ⟨wr.heap.size, 0, none⟩ 1 1 (bvs [g]) rfl rfl (cell_one_new _ _ _) (bvs_cell _) (by simp only [maxLen]; omega) (by omega) (by simp; omega) ?_; intro v1 w1 hown1 hg1 _ hat1)
      go_ret
      refine newBytes_of (n := m + 1) ?_ (fun y hy => ?_) ((hbel.alloc (by omega) _).trans (Went.below (.of_at hg1 hat1) (hown.alloc _) (by simp; omega)))
      · rw [hput.last Hz.out, ← Hg.out, ← List.append_assoc, bvs_append]
        exact hown1
      · rcases List.mem_append.1 hy with h | h
        · exact Hl.out.2.1 y h
        · exact enc_small V y h
    · have ht : ((q : Int) == 0) = false := by simp; omega
      have Hz : Hid (¬ v / 128 = 0) := by show ¬ _; rw [← Hq.out]; exact h
      clear h
      go_wp2_with (at_builtin; refine wpList_append_own_at _ rfl (.tmp 21) (.tmp 24) 38 rfl w.heap.size 5 i0 _ 1 1 Tryz.underlying38 hi hz0 hz1 hz2 rfl (by omega) _ m (bvs (l ++ k)) rfl (hown.alloc _) ⟨wr.heap.size, 0, none⟩ 1 1 (bvs [c]) rfl rfl (cell_one_new _ _ _) (bvs_cell _) (by simp only [maxLen]; omega) (by omega) (by simp; omega) ?_; intro v1 w1 hown1 hg1 _ hat1)
      obtain ⟨f', hnext⟩ := hput.next Hz.out
      rw [← Hg.out, ← Hc.out] at hnext
      go_roundw
      case rel =>
        refine ⟨f', v / 128, m + 1, k ++ [c], hnext, by rw [Hq.out], ?_, (hbel.alloc (by omega) _).trans (Went.below (.of_at hg1 hat1) (hown.alloc _) (by simp; omega))⟩
        rw [← List.append_assoc, bvs_append]
        exact hown1
      case measure =>
        have := Hz.out
        have := Hq.out
        simp [intOf]
        omega

/-- Where the document's loop stands. -/
def RefAt (l : List Nat) (n k a : Nat) : Prop := k ≤ n ∧ k ≤ 10 ∧ l.length = n ∧ (k ≤ 9 → GetAt l n k a) ∧ (k = 10 → num l 0 0 = (0, 0, 4))

theorem GetAt.add {l : List Nat} {n k a : Nat} (h : GetAt l n k a) (hb : ¬ (k = 9 ∧ 1 < l.getD k 0 % 128)) {y : Nat} (hy : y = l.getD k 0 % 128) :
    IntKind.u64.wrap ((a : Int) + IntKind.u64.wrap ((y : Int) * 2 ^ (7 * k))) = ((a + l.getD k 0 % 128 * 2 ^ (7 * k) : Nat) : Int) := by
  subst hy
  have h9 := h.2.1
  have ha := h.2.2.1
  have e63 : (2 : Nat) ^ 63 = 9223372036854775808 := by decide
  have e56 : (2 : Nat) ^ 56 = 72057594037927936 := by decide
  have hp : 2 ^ (7 * k) ≤ 2 ^ 63 := Nat.pow_le_pow_right (by decide) (by omega)
  have hm : l.getD k 0 % 128 * 2 ^ (7 * k) ≤ 9223372036854775808 := by
    by_cases hk : k = 9
    · subst hk
      have : l.getD 9 0 % 128 ≤ 1 := by omega
      have := Nat.mul_le_mul_right (2 ^ (7 * 9)) this
      omega
    · have hp2 : 2 ^ (7 * k) ≤ 2 ^ 56 := Nat.pow_le_pow_right (by decide) (by omega)
      have h1 : l.getD k 0 % 128 ≤ 127 := by omega
      have := Nat.mul_le_mul h1 hp2
      omega
  rw [show ((l.getD k 0 % 128 : Nat) : Int) * 2 ^ (7 * k) = ((l.getD k 0 % 128 * 2 ^ (7 * k) : Nat) : Int) from by rw [Int.natCast_mul, Int.natCast_pow]; rfl]
  rw [IntKind.wrap_u64, IntKind.wrap_u64]
  omega

theorem GetAt.add9 {l : List Nat} {n k a : Nat} (h : GetAt l n k a) (hk : k = 9) {y : Nat} (hy : y = l.getD k 0 % 128) (hy1 : y ≤ 1) :
    IntKind.u64.wrap ((a : Int) + (y : Int) * 9223372036854775808) = ((a + l.getD k 0 % 128 * 2 ^ (7 * k) : Nat) : Int) := by
  have ha := h.2.2.1
  subst hk
  have e63 : (2 : Nat) ^ (7 * 9) = 9223372036854775808 := by decide
  rw [e63] at ha ⊢
  rw [← hy, IntKind.wrap_u64]
  omega

set_option maxHeartbeats 1000000 in
set_option maxRecDepth 100000 in
theorem refgetuint_any (A : Option Addr) (n c B : Nat) (l : List Nat) (w : World) (hl : Holds w B A n l) (hn : n ≤ 1099511627000) :
    Calls Tryz.prog 87 #[.slice A n c] w fun e w' => e = .returned (.tuple #[.int .u64 (num l 0 0).1, .int .i64 (num l 0 0).2.1]) ∧ w = w' := by
  have G0 : RefAt l n 0 0 := ⟨by omega, by omega, hl.1, fun _ => getAt_start hl.1 hl.2.1, fun h => by omega⟩
  go_enter Tryz.func87, Tryz.ntmps87
  go_wp2
  go_loop [4, 5] (fun v i => ∃ k a : Nat, RefAt l n k a ∧ v = .int .u64 a ∧ i = .int .i64 k) (fun _ i => n - (intOf i).toNat)
  case atStart => exact ⟨0, 0, G0, rfl, rfl⟩
  case round =>
    obtain ⟨k, a, R, rfl, rfl⟩ := hrel
    have hk10 := R.2.1
    have hkn := R.1
    by_cases hlt : k < n
    · by_cases h10 : k < 10
      · have G := R.2.2.2.1 (by omega)
        obtain ⟨b, off, rfl, _, hcell⟩ := hl.2.2 (by omega)
        obtain ⟨x, hx⟩ : ∃ x, x = l.getD k 0 := ⟨_, rfl⟩
        obtain ⟨y, hy⟩ : ∃ y, y = x % 128 := ⟨_, rfl⟩
        have hck : w.cell? ⟨b, off + k, none⟩ = some (.int .u8 (x : Int)) := by rw [hx]; exact hcell k hlt
        have hxs : x < 256 := by rw [hx]; exact G.byte hlt
        have hys : y < 128 := by omega
        have hrem : (x : Int) % 128 = (y : Int) := by omega
        have Hx := hide hx
        have Hy := hide hy
        have HR := hide R
        clear hx hy hcell R
        by_cases h9 : k = 9
        · have hck9 : w.cell? ⟨b, off + 9, none⟩ = some (.int .u8 (x : Int)) := by rw [h9] at hck; exact hck
          have H9 := hide h9
          have hk9 : 9 ≤ k := by omega
          clear h9
          go_wp2
          · have hv := G.bad hlt (by rw [← Hx.out]; have := H9.out; have := Hy.out; omega)
            go_ret2
            exact ⟨ret2 (by rw [hv]; rfl) (by rw [hv]; rfl), rfl⟩
          · have h0 := WalkArith.int_eq (show ((x : Int) == 0) = true by assumption)
            have hv := G.bad hlt (by rw [← Hx.out]; omega)
            go_ret2
            exact ⟨ret2 (by rw [hv]; rfl) (by rw [hv]; rfl), rfl⟩
          · have h0 := WalkArith.int_ne (show ((x : Int) == 0) = false by assumption)
            have hb : ¬ ((k = 9 ∧ 1 < l.getD k 0) ∨ (0 < k ∧ l.getD k 0 = 0)) := by rw [← Hx.out]; have := Hy.out; omega
            have hv := G.last hlt hb (by rw [← Hx.out]; omega)
            go_ret2
            exact ⟨ret2 (by rw [hv]; exact G.add9 H9.out (by rw [← Hx.out, Hy.out]) (by omega)) (by rw [hv]; show (_ : Int) = ((k + 1 : Nat) : Int); have := H9.out; omega), rfl⟩
          · have hv := G.bad hlt (by rw [← Hx.out]; have := H9.out; omega)
            have hL := G.add9 H9.out (show y = l.getD k 0 % 128 by rw [← Hx.out, Hy.out]) (by omega)
            have hR : RefAt l n (k + 1) (a + l.getD k 0 % 128 * 2 ^ (7 * k)) := ⟨by omega, by omega, HR.out.2.2.1, fun h => by omega, fun _ => hv⟩
            go_round
            case rel => exact ⟨k + 1, _, hR, by rw [hL], by have := H9.out; go_num⟩
            case measure => have := H9.out; simp [intOf]; omega
        · go_wp2
          · have h0 := WalkArith.int_eq (show ((x : Int) == 0) = true by assumption)
            have hv := G.bad hlt (by rw [← Hx.out]; omega)
            go_ret2
            exact ⟨ret2 (by rw [hv]; rfl) (by rw [hv]; rfl), rfl⟩
          · have h0 := WalkArith.int_ne (show ((x : Int) == 0) = false by assumption)
            have hb : ¬ ((k = 9 ∧ 1 < l.getD k 0) ∨ (0 < k ∧ l.getD k 0 = 0)) := by rw [← Hx.out]; omega
            have hv := G.last hlt hb (by rw [← Hx.out]; omega)
            go_ret2
            exact ⟨ret2 (by rw [hv]; exact G.add (by omega) (by rw [← Hx.out, Hy.out])) (by rw [hv]; rfl), rfl⟩
          · have hb : ¬ ((k = 9 ∧ 1 < l.getD k 0) ∨ (0 < k ∧ l.getD k 0 = 0)) := by rw [← Hx.out]; omega
            have hv := G.last hlt hb (by rw [← Hx.out]; omega)
            go_ret2
            exact ⟨ret2 (by rw [hv]; exact G.add (by omega) (by rw [← Hx.out, Hy.out])) (by rw [hv]; rfl), rfl⟩
          · have hb : ¬ ((k = 9 ∧ 1 < l.getD k 0) ∨ (0 < k ∧ l.getD k 0 = 0)) := by rw [← Hx.out]; omega
            have hG := G.next hlt hb (by rw [← Hx.out]; omega)
            have hL := G.add (by omega) (show y = l.getD k 0 % 128 by rw [← Hx.out, Hy.out])
            have hR : RefAt l n (k + 1) (a + l.getD k 0 % 128 * 2 ^ (7 * k)) := ⟨by omega, by omega, HR.out.2.2.1, fun _ => hG, fun h => by omega⟩
            go_round
            case rel => exact ⟨k + 1, _, hR, by rw [hL], by go_num⟩
            case measure => simp [intOf]; omega
      · have hv := R.2.2.2.2 (by omega)
        have HR := hide R
        have Hv := hide hv
        clear R hv
        go_wp2
        go_ret2
        exact ⟨ret2 (by rw [Hv.out]; rfl) (by rw [Hv.out]; rfl), rfl⟩
    · have hv : num l 0 0 = (0, 0, 3) ∨ num l 0 0 = (0, 0, 4) := by
        by_cases h10 : k = 10
        · exact .inr (R.2.2.2.2 h10)
        · exact .inl ((R.2.2.2.1 (by omega)).short hlt)
      have Hv := hide hv
      clear hv R
      go_wp2
      go_ret2
      exact ⟨ret2 (by rcases Hv.out with h | h <;> rw [h] <;> rfl) (by rcases Hv.out with h | h <;> rw [h] <;> rfl), rfl⟩

theorem refzig_neg (n : Int) (h1 : -9223372036854775808 ≤ n) (h : n < 0) : IntKind.u64.wrap (IntKind.u64.wrap (IntKind.u64.wrap (wrap64 (-wrap64 (n + 1))) * 2) + 1) = ((zig n : Nat) : Int) := by
  have e1 : wrap64 (n + 1) = n + 1 := by unfold wrap64; omega
  have e2 : wrap64 (-(n + 1)) = -(n + 1) := by unfold wrap64; omega
  rw [e1, e2, IntKind.wrap_u64, IntKind.wrap_u64, IntKind.wrap_u64]
  unfold zig
  rw [if_pos h]
  omega
theorem refzag_odd (v : Nat) (h : v < 18446744073709551616) (hz : v % 2 = 1) : wrap64 (wrap64 (-wrap64 (IntKind.u64.wrap ((v : Int) / 2))) - 1) = zag v := by
  have e0 : IntKind.u64.wrap ((v : Int) / 2) = (v : Int) / 2 := by rw [IntKind.wrap_u64]; omega
  rw [e0, half v h]
  have e2 : wrap64 (-((v / 2 : Nat) : Int)) = -((v / 2 : Nat) : Int) := by unfold wrap64; omega
  rw [e2]
  unfold zag
  rw [if_pos hz]
  unfold wrap64
  omega
theorem refzag_even (v : Nat) (h : v < 18446744073709551616) (hz : ¬ v % 2 = 1) : wrap64 (IntKind.u64.wrap ((v : Int) / 2)) = zag v := by
  have e0 : IntKind.u64.wrap ((v : Int) / 2) = (v : Int) / 2 := by rw [IntKind.wrap_u64]; omega
  rw [e0, half v h]
  unfold zag
  rw [if_neg hz]

set_option maxHeartbeats 400000 in
theorem refzig_any (n : Int) (w : World) (h1 : -9223372036854775808 ≤ n) (h2 : n < 9223372036854775808) :
    Calls Tryz.prog 58 #[.int .i64 n] w fun e w' => e = .returned (.int .u64 (zig n)) ∧ w = w' := by
  have H1 := hide h1
  have H2 := hide h2
  by_cases hneg : n < 0
  · have H := hide hneg
    clear h1 h2
    go_enter Tryz.func58, Tryz.ntmps58
    go_wp2
    go_ret
    exact ⟨ret_int (refzig_neg n H1.out H.out), rfl⟩
  · have H := hide hneg
    clear h1 h2
    go_enter Tryz.func58, Tryz.ntmps58
    go_wp2
    go_ret
    exact ⟨ret_int (zig_pos n (by have := H.out; omega) H2.out), rfl⟩

set_option maxHeartbeats 400000 in
theorem refzag_any (v : Nat) (w : World) (h : v < 18446744073709551616) :
    Calls Tryz.prog 52 #[.int .u64 v] w fun e w' => e = .returned (.int .i64 (zag v)) ∧ w = w' := by
  have H := hide h
  clear h
  by_cases hz : v % 2 = 1
  · have ht : ((v : Int) % 2 == 1) = true := by simp; omega
    have Hz := hide hz
    clear hz
    go_enter Tryz.func52, Tryz.ntmps52
    go_wp2
    go_ret
    exact ⟨ret_int (refzag_odd v H.out Hz.out), rfl⟩
  · have ht : ((v : Int) % 2 == 1) = false := by simp; omega
    have Hz := hide hz
    clear hz
    go_enter Tryz.func52, Tryz.ntmps52
    go_wp2
    go_ret
    exact ⟨ret_int (refzag_even v H.out Hz.out), rfl⟩
end Go.Proofs.YtehiaeihkdfclaaGreatDoor
/- The document's rows of fields: num, yes, text, some append one to a row of the call's own. -/
namespace Go.Proofs.YtehiaeihkdfclaaGreatDoor
open Go.RowKit

theorem Tryz.infoRef9 : (Tryz.prog.info? 92).map (fun i => (i.zero, i.size, i.bytes)) = some (some (.agg #[.int .i64 0, .bool false, .int .u64 0, .slice none 0 0]), 4, 48) := by kernel_rfl

/-- A row of fields, the call's own from base on. -/
def DRow (w : World) (base : Nat) (v : Value) (fds : List Fd) : Prop := w.ownsRow base 92 4 v fds.length (fcells fds) ∧ ∀ f ∈ fds, FdAt w f
theorem DRow.nil (w : World) (base : Nat) : DRow w base (.slice none 0 0) [] := ⟨by simpa [fcells] using World.ownsRow_nil _ _ _ _, by simp⟩
theorem DRow.later {w w' : World} {base : Nat} {v : Value} {fds : List Fd} (h : DRow w base v fds) (hl : Later w w') : DRow w' base v fds := ⟨own_below_any h.1 hl, fun f hf => (h.2 f hf).below hl⟩
/-- What an appending call tells: the row, with these fields behind it; nothing else has turned but the row's own block. -/
def Adds (w : World) (base : Nat) (v : Value) (fds : List Fd) (ps : List PF) (e : Ending) (w' : World) : Prop :=
  ∃ v' gds, e = .returned v' ∧ DRow w' base v' (fds ++ gds) ∧ gds.map Fd.pf = ps ∧ w.grownBy w' v.ownBlock
theorem adds_none {w : World} {base : Nat} {v : Value} {fds : List Fd} {ps : List PF} (h : DRow w base v fds) (hp : ps = []) : Adds w base v fds ps (.returned v) w :=
  ⟨v, [], rfl, by simpa using h, by rw [hp]; rfl, World.grownBy.refl _ _⟩
theorem grown_alloc {w w' : World} {o : Obj} {k : Option Nat} (h : (w.alloc o).grownBy w' k) : w.grownBy w' k :=
  ⟨h.1, h.2, h.3, by have := h.size; simp at this; omega, fun i hi hne => (h.block i (by simp; omega) hne).trans (Below.block (Later.alloc w o) i hi)⟩
theorem adds_one {w w' : World} {base : Nat} {v v' : Value} {fds : List Fd} {ps : List PF} {f : Fd} {o : Obj} (h : DRow w base v fds) (hf : FdAt w f) (hp : ps = [f.pf])
    (ho : w'.ownsRow base 92 4 v' (fds.length + 1) (fcells fds ++ f.cells.toList)) (hg : (w.alloc o).grownBy w' v.ownBlock) : Adds w base v fds ps (.returned v') w' := by
  have hl : Later w (w.alloc o) := Later.alloc _ _
  have h1 := h.later hl
  refine ⟨v', [f], rfl, ⟨?_, fun x hx => ?_⟩, by rw [hp]; rfl, grown_alloc hg⟩
  · rw [fcells_append, List.length_append]
    simpa [fcells] using ho
  · rcases List.mem_append.1 hx with hx | hx
    · exact (h1.2 x hx).kept h1.1 hg (by decide)
    · obtain rfl : x = f := by simpa using hx
      exact (hf.below hl).kept h1.1 hg (by decide)

set_option maxHeartbeats 1000000 in
set_option maxRecDepth 100000 in
theorem rnum_any {base : Nat} {v : Value} {fds : List Fd} {n x : Int} {w : World} (hr : DRow w base v fds) (hb : base ≤ w.heap.size) (hc : fds.length ≤ 100000000) (hn : I64 n) (hx : I64 x) :
    Calls Tryz.prog 37 #[v, .int .i64 n, .int .i64 x] w (Adds w base v fds (pnum n x)) := by
  obtain ⟨i0, hi, hz0, hz1, hz2⟩ := info_parts Tryz.infoRef9
  have HR := hide hr
  have HN := hide hn
  have HX := hide hx
  clear hr hn hx
  by_cases h0 : x = 0
  · subst h0
    go_enter Tryz.func37, Tryz.ntmps37
    go_wp2
    go_ret
    exact adds_none HR.out rfl
  · have H0 := hide h0
    have O1 := hide (HR.out.1.alloc (.cells #[.int .i64 n, .bool false, .int .u64 (zig x : Nat), .slice none 0 0] 92))
    have ht : (x == 0) = false := by simpa using h0
    clear h0
    go_enter Tryz.func37, Tryz.ntmps37
    go_wp2_with (fail)
    refine (refzig_any x _ HX.out.1 HX.out.2).mono ?_
    rintro e w1 ⟨rfl, rfl⟩
    go_wp2_with (at_builtin; refine wpList_append_own_at _ rfl (.tmp 10) (.tmp 15) 71 rfl base 92 i0 _ 4 48 Tryz.underlying71 hi hz0 hz1 hz2 rfl (by omega) _ fds.length (fcells fds) rfl O1.out ⟨w.heap.size, 0, none⟩ 1 1 [.int .i64 n, .bool false, .int .u64 (zig x : Nat), .slice none 0 0] rfl rfl (cells_new w [.int .i64 n, .bool false, .int .u64 (zig x : Nat), .slice none 0 0] 92) (by intro u hu; simp at hu; rcases hu with rfl | rfl | rfl | rfl <;> rfl) (by simp only [maxLen]; omega) (by omega) (by simp; omega) ?_; intro x2 w2 o2 g2 _ _)
    go_ret
    exact adds_one (f := ⟨n, false, zig x, none, 0, 0, []⟩) HR.out (FdAt.plain HN.out (zig_lt x HX.out.1 HX.out.2)) (by unfold pnum; rw [if_neg H0.out]; rfl) o2 g2

set_option maxHeartbeats 1000000 in
set_option maxRecDepth 100000 in
theorem ryes_any {base : Nat} {v : Value} {fds : List Fd} {n : Int} {x : Bool} {w : World} (hr : DRow w base v fds) (hb : base ≤ w.heap.size) (hc : fds.length ≤ 100000000) (hn : I64 n) :
    Calls Tryz.prog 40 #[v, .int .i64 n, .bool x] w (Adds w base v fds (pflag n x)) := by
  obtain ⟨i0, hi, hz0, hz1, hz2⟩ := info_parts Tryz.infoRef9
  have HR := hide hr
  have HN := hide hn
  clear hr hn
  cases x with
  | false =>
    go_enter Tryz.func40, Tryz.ntmps40
    go_wp2
    go_ret
    exact adds_none HR.out rfl
  | true =>
    have O1 := hide (HR.out.1.alloc (.cells #[.int .i64 n, .bool false, .int .u64 1, .slice none 0 0] 92))
    go_enter Tryz.func40, Tryz.ntmps40
    go_wp2_with (at_builtin; refine wpList_append_own_at _ rfl (.tmp 10) (.tmp 13) 71 rfl base 92 i0 _ 4 48 Tryz.underlying71 hi hz0 hz1 hz2 rfl (by omega) _ fds.length (fcells fds) rfl O1.out ⟨w.heap.size, 0, none⟩ 1 1 [.int .i64 n, .bool false, .int .u64 1, .slice none 0 0] rfl rfl (cells_new w [.int .i64 n, .bool false, .int .u64 1, .slice none 0 0] 92) (by intro u hu; simp at hu; rcases hu with rfl | rfl | rfl | rfl <;> rfl) (by simp only [maxLen]; omega) (by omega) (by simp; omega) ?_; intro x2 w2 o2 g2 _ _)
    go_ret
    exact adds_one (f := ⟨n, false, 1, none, 0, 0, []⟩) HR.out (FdAt.plain HN.out (by omega)) rfl o2 g2

set_option maxHeartbeats 1000000 in
set_option maxRecDepth 100000 in
theorem rtext_any {base : Nat} {v : Value} {fds : List Fd} {n : Int} {A : Option Addr} {m c : Nat} {l : List Nat} {w : World} (hr : DRow w base v fds) (hb : base ≤ w.heap.size) (hc : fds.length ≤ 100000000) (hf : FdAt w ⟨n, true, 0, A, m, c, l⟩) :
    Calls Tryz.prog 42 #[v, .int .i64 n, .slice A m c] w (Adds w base v fds [prow n l]) := by
  obtain ⟨i0, hi, hz0, hz1, hz2⟩ := info_parts Tryz.infoRef9
  have HR := hide hr
  have HF := hide hf
  have O1 := hide (HR.out.1.alloc (.cells #[.int .i64 n, .bool true, .int .u64 0, .slice A m c] 92))
  clear hr hf
  go_enter Tryz.func42, Tryz.ntmps42
  go_wp2_with (at_builtin; refine wpList_append_own_at _ rfl (.tmp 7) (.tmp 11) 71 rfl base 92 i0 _ 4 48 Tryz.underlying71 hi hz0 hz1 hz2 rfl (by omega) _ fds.length (fcells fds) rfl O1.out ⟨w.heap.size, 0, none⟩ 1 1 [.int .i64 n, .bool true, .int .u64 0, .slice A m c] rfl rfl (cells_new w [.int .i64 n, .bool true, .int .u64 0, .slice A m c] 92) (by intro u hu; simp at hu; rcases hu with rfl | rfl | rfl | rfl <;> rfl) (by simp only [maxLen]; omega) (by omega) (by simp; omega) ?_; intro x2 w2 o2 g2 _ _)
  go_ret
  exact adds_one (f := ⟨n, true, 0, A, m, c, l⟩) HR.out HF.out rfl o2 g2

set_option maxHeartbeats 1000000 in
set_option maxRecDepth 100000 in
theorem rsome_any {base : Nat} {v : Value} {fds : List Fd} {n : Int} {A : Option Addr} {m c : Nat} {l : List Nat} {w : World} (hr : DRow w base v fds) (hb : base ≤ w.heap.size) (hc : fds.length ≤ 100000000) (hf : FdAt w ⟨n, true, 0, A, m, c, l⟩) :
    Calls Tryz.prog 38 #[v, .int .i64 n, .slice A m c] w (Adds w base v fds (ptext n l)) := by
  have hlen : l.length = m := hf.1.2.2.2.1
  have HR := hide hr
  have HF := hide hf
  have HL := hide hlen
  clear hr hf hlen
  by_cases h0 : m = 0
  · subst h0
    go_enter Tryz.func38, Tryz.ntmps38
    go_wp2
    go_ret
    exact adds_none HR.out (by unfold ptext; rw [if_pos (List.eq_nil_of_length_eq_zero HL.out)])
  · have H0 := hide h0
    have ht : ((m : Int) == 0) = false := by simp; omega
    have C := hide (rtext_any HR.out hb hc HF.out)
    clear h0
    go_enter Tryz.func38, Tryz.ntmps38
    go_wp2_with (fail)
    refine C.out.mono ?_
    rintro e w1 ⟨v1, gds, rfl, h1, h2, h3⟩
    go_wp2
    go_ret
    refine ⟨v1, gds, rfl, h1, ?_, h3⟩
    rw [h2]
    unfold ptext prow
    rw [if_neg (fun e => H0.out (by rw [← HL.out, e]; rfl))]
end Go.Proofs.YtehiaeihkdfclaaGreatDoor
/- The walks over field.Find and droverref01.Find: the last field of a number. -/
namespace Go.Proofs.YtehiaeihkdfclaaGreatDoor
open Go.RowKit

/-- The last one of that number. -/
def pfind (ps : List PF) (m : Int) : PF × Bool := match ps.reverse.find? (fun p => p.1 == m) with
  | some p => (p, true)
  | none => (pz, false)
theorem pfind_nil (m : Int) : pfind [] m = (pz, false) := rfl
theorem pfind_snoc (ps : List PF) (p : PF) (m : Int) : pfind (ps ++ [p]) m = if p.1 = m then (p, true) else pfind ps m := by
  unfold pfind
  rw [List.reverse_append]
  by_cases h : p.1 = m
  · simp [h]
  · have : (p.1 == m) = false := by simpa using h
    simp [this, h]
theorem pfind_append (ps qs : List PF) (m : Int) : pfind (ps ++ qs) m = if (pfind qs m).2 then pfind qs m else pfind ps m := by
  unfold pfind
  rw [List.reverse_append, List.find?_append]
  cases h : qs.reverse.find? (fun p => p.1 == m) <;> simp

/-- Where the loop stands: what lies behind the first k has not the number. -/
def FindAt (fs : List Fd) (m : Int) (k : Nat) : Prop := pfind (fs.map Fd.pf) m = pfind ((fs.take k).map Fd.pf) m
theorem findAt_start {fs : List Fd} {n : Nat} (h : fs.length = n) (m : Int) : FindAt fs m n := by
  unfold FindAt
  rw [List.take_of_length_le (by omega)]
theorem FindAt.hit {fs : List Fd} {m : Int} {k : Nat} {f : Fd} (h : FindAt fs m (k + 1)) (ht : fs.take (k + 1) = fs.take k ++ [f]) (hm : f.num = m) : pfind (fs.map Fd.pf) m = (f.pf, true) := by
  unfold FindAt at h
  rw [h, ht, List.map_append, List.map_cons, List.map_nil, pfind_snoc, if_pos (by exact hm)]
theorem FindAt.miss {fs : List Fd} {m : Int} {k : Nat} {f : Fd} (h : FindAt fs m (k + 1)) (ht : fs.take (k + 1) = fs.take k ++ [f]) (hm : f.num ≠ m) : FindAt fs m k := by
  unfold FindAt at h ⊢
  rw [h, ht, List.map_append, List.map_cons, List.map_nil, pfind_snoc, if_neg (by exact hm)]
theorem FindAt.none {fs : List Fd} {m : Int} (h : FindAt fs m 0) : pfind (fs.map Fd.pf) m = (pz, false) := h

/-- What Find tells. -/
def FindIs (w : World) (q : PF × Bool) (e : Ending) (w' : World) : Prop :=
  ∃ f : Fd, e = .returned (.tuple #[.agg #[.int .i64 f.num, .bool f.text, .int .u64 f.v, .slice f.a f.n f.c], .bool q.2]) ∧ f.pf = q.1 ∧ f.ok w' w'.heap.size ∧ Later w w'

theorem fz_ok (w : World) (B : Nat) : fz.ok w B := ⟨⟨by decide, by decide⟩, by decide, Nat.le_refl _, Holds.nil_ _ _⟩
theorem Fd.ok.later {w w' : World} {f : Fd} (h : f.ok w w.heap.size) (hl : Later w w') : f.ok w' w'.heap.size := ⟨h.1, h.2.1, h.2.2.1, h.2.2.2.later hl⟩
end Go.Proofs.YtehiaeihkdfclaaGreatDoor
/- The walks over droverref01.Find, Good and Write: the document's own. -/
namespace Go.Proofs.YtehiaeihkdfclaaGreatDoor
open Go.RowKit

set_option maxHeartbeats 1000000 in
set_option maxRecDepth 100000 in
theorem reffind_any (A : Option Addr) (n c : Nat) (fs : List Fd) (m : Int) (w : World) (hf : FHolds w w.heap.size A n fs) (hn : n ≤ 1099511627000) :
    Calls Tryz.prog 90 #[.slice A n c, .int .i64 m] w (FindIs w (pfind (fs.map Fd.pf) m)) := by
  have HF := hide hf
  have H0 := hide (findAt_start hf.1 m)
  clear hf
  go_enter Tryz.func90, Tryz.ntmps90
  go_wp2
  go_loop [6] (fun i => ∃ k : Nat, k ≤ n ∧ i = .int .i64 ((k : Int) - 1) ∧ FindAt fs m k) (fun i => ((intOf i) + 1).toNat)
  case atStart => exact ⟨n, by omega, by rfl, H0.out⟩
  case round =>
    obtain ⟨k, hk, rfl, hat⟩ := hrel
    have Hat := hide hat
    clear hat H0
    by_cases hlt : 0 < k
    · obtain ⟨j, rfl⟩ : ∃ j, k = j + 1 := ⟨k - 1, by omega⟩
      have ej : ((j + 1 : Nat) : Int) - 1 = (j : Int) := by omega
      rw [ej]
      obtain ⟨f, b, off, hfk, hok, rfl, hbB, q0, q1, q2, q3, htk⟩ := HF.out.at_ (k := j) (by omega)
      obtain ⟨num, text, v, a, fn, fc, fb⟩ := f
      simp only at q0 q1 q2 q3
      have Htk := hide htk
      have Hok := hide hok
      have hbne : b ≠ w.heap.size := by omega
      clear htk hfk hok ej
      by_cases hm : num = m
      · have hm2 : (num == m) = true := by simpa using hm
        have Hm := hide (Hat.out.hit Htk.out hm)
        clear hm
        go_wp2
        refine bodyPost_ret (v := .tuple #[.agg #[.int .i64 num, .bool text, .int .u64 v, .slice a fn fc], .bool true]) (by simp [results, Tryz.results90, go_sem]) rfl ⟨⟨num, text, v, a, fn, fc, fb⟩, by rw [Hm.out], by rw [Hm.out], Hok.out.later ?_, ?_⟩
        all_goals (show Below _ _ _; go_grown)
      · have hm2 : (num == m) = false := by simpa using hm
        have Hm := hide (Hat.out.miss Htk.out hm)
        clear hm
        go_wp2
        go_round
        case rel => exact ⟨j, by omega, by first | rfl | go_num, Hm.out⟩
        case measure => simp [intOf]
    · obtain rfl : k = 0 := by omega
      have Hn := hide Hat.out.none
      go_wp2
      refine bodyPost_ret (v := .tuple #[.agg #[.int .i64 0, .bool false, .int .u64 0, .slice none 0 0], .bool false]) (by simp [results, Tryz.results90, go_sem]) rfl ⟨fz, by rw [Hn.out]; rfl, by rw [Hn.out]; rfl, fz_ok _ _, ?_⟩
      show Below _ _ _
      go_grown

set_option maxHeartbeats 400000 in
theorem refgood_any (f : Fd) (w : World) :
    Calls Tryz.prog 80 #[.agg #[.int .i64 f.num, .bool f.text, .int .u64 f.v, .slice f.a f.n f.c]] w fun e w' => e = .returned (.bool f.good) ∧ Below w.heap.size w w' := by
  obtain ⟨num, text, v, a, n, c, b⟩ := f
  go_enter Tryz.func80, Tryz.ntmps80
  go_wp2
  · go_ret
    exact ⟨ret_bool (Fd.good_not (by simp only; omega)), (Below.refl _ _).alloc (Nat.le_refl _) _⟩
  · go_ret
    exact ⟨ret_bool (Fd.good_text (f := ⟨num, text, v, a, n, c, b⟩) (by simp only; omega) (by simp only; omega) (by assumption)), (Below.refl _ _).alloc (Nat.le_refl _) _⟩
  · go_ret
    exact ⟨ret_bool (Fd.good_num (f := ⟨num, text, v, a, n, c, b⟩) (by simp only; omega) (by simp only; omega) (by assumption)), (Below.refl _ _).alloc (Nat.le_refl _) _⟩
  · go_ret
    exact ⟨ret_bool (Fd.good_not (by simp only; omega)), (Below.refl _ _).alloc (Nat.le_refl _) _⟩
theorem refgood_is (f : Fd) (b : Bool) (h : f.good = b) (w : World) :
    Calls Tryz.prog 80 #[.agg #[.int .i64 f.num, .bool f.text, .int .u64 f.v, .slice f.a f.n f.c]] w fun e w' => e = .returned (.bool b) ∧ Later w w' :=
  (refgood_any f w).mono fun _ _ ⟨he, hb⟩ => ⟨by rw [he, h], hb⟩

/-- The number of bytes is 'V' of whatever list 'L' is told: Uint, its lists under names. -/
theorem refuint_is (A : Option Addr) (n c : Nat) (V : Int) (l L : List Nat) (w : World) (h0 : 0 ≤ V) (hV : V < 18446744073709551616) (hn : n ≤ 1099511627000) (hl : Holds w w.heap.size A n l) (h : l ++ enc V.toNat = L) :
    Calls Tryz.prog 73 #[.slice A n c, .int .u64 V] w (NewBytes w L) := by
  obtain ⟨k, rfl⟩ := Int.eq_ofNat_of_zero_le h0
  subst h
  exact refuint_any A n c k l w.heap.size w (by omega) hn hl (Nat.le_refl _)

theorem bytes_room {fs : List Fd} {k : Nat} {R : Nat} (h : ∀ f ∈ fs, f.b.length = f.n) (hR : room fs ≤ R) : (recOf (fs.take k)).length ≤ R := by
  have h1 := recOf_len (fs.take k) fun g hg => h g (List.mem_of_mem_take hg)
  have h2 := room_take fs k
  omega

set_option maxHeartbeats 2000000 in
set_option maxRecDepth 100000 in
theorem refwrite_any (A : Option Addr) (n c : Nat) (fs : List Fd) (w : World) (hf : FHolds w w.heap.size A n fs) (hroom : room fs ≤ 10000000) (hn : n ≤ 10000000) :
    Calls Tryz.prog 39 #[.slice A n c] w (NewBytes w (recOf fs)) := by
  obtain ⟨i0, hi, hz0, hz1, hz2⟩ := info_parts Tryz.infoU8
  have HF := hide hf
  clear hf
  go_enter Tryz.func39, Tryz.ntmps39
  go_wp2
  go_loopw [3, 8] (fun s i wr => ∃ k : Nat, k ≤ n ∧ i = .int .i64 k ∧ (∃ m1, wr.ownsRow w.heap.size 5 1 s m1 (bvs (recOf (fs.take k)))) ∧ Below w.heap.size w wr) (fun _ i _ => n - (intOf i).toNat)
  case atStart => exact ⟨0, by omega, rfl, ⟨0, by simpa [recOf, bvs] using World.ownsRow_nil _ _ _ _⟩, Below.refl _ _⟩
  case round =>
    obtain ⟨k, hk, rfl, ⟨m1, hown⟩, hbel⟩ := hrel
    have hsz := hbel.size
    have hsm := HF.out.small
    have Hs : Hid (∀ x ∈ recOf (fs.take k), x < 256) := by
      intro x hx
      refine hsm x ?_
      have e : fs = fs.take k ++ fs.drop k := (List.take_append_drop k fs).symm
      rw [e, recOf, List.map_append, List.flatten_append]
      exact List.mem_append_left _ hx
    have hm1 : m1 ≤ 10000000 := by
      have h1 := bytes_room (k := k) HF.out.lens hroom
      have h2 := hown.1
      rw [bvs_len] at h2
      omega
    obtain ⟨A1, c1, rfl, _, _, hh⟩ := Holds.of_own hown Hs.out
    have Hh := hide hh
    have Hown := hide hown
    clear hown hsm hh
    by_cases hlt : k < n
    · obtain ⟨f, b, off, hfk, hok, rfl, hbB, q0, q1, q2, q3, htk⟩ := (HF.out.below hbel).at_ hlt
      obtain ⟨num, text, v, a, fn, fc, fb⟩ := f
      simp only at q0 q1 q2 q3
      have hfn : fn ≤ 10000000 ∧ m1 + 20 + fn ≤ 20000000 := by
        have h2 := room_take fs (k + 1)
        rw [htk, room_snoc] at h2
        simp only at h2
        omega
      have hf1 := hfn.1
      have Hrs : Hid (recOf (fs.take (k + 1)) = recOf (fs.take k) ++ Fd.bytes ⟨num, text, v, a, fn, fc, fb⟩) := by
        show _ = _
        rw [htk, recOf_snoc]
      have Hok := hide hok
      clear htk hfk hok hfn
      by_cases hgood : Fd.good ⟨num, text, v, a, fn, fc, fb⟩ = true
      · obtain ⟨hn1, hn2⟩ := Fd.good_range hgood
        simp only at hn1 hn2
        have Hg := hide hgood
        have HB := hide (show Holds wr w.heap.size a fn fb from Hok.out.2.2.2)
        have Hv : Hid (v < 18446744073709551616) := Hok.out.2.1
        have b1 := enc_len (num * 2 + 1).toNat
        have b2 := enc_len ((fn : Int)).toNat
        have b3 := enc_len (num * 2).toNat
        have B0 := hide (Box.new wr 92 (.int .i64 num) (.bool text) (.int .u64 v) (.slice a fn fc))
        clear hgood
        cases text with
        | true =>
          go_wp2_with (fail)
          refine (refgood_is ⟨num, true, v, a, fn, fc, fb⟩ true Hg.out _).mono ?_
          rintro e w1 ⟨rfl, hb1⟩
          have L1 := hide ((Later.alloc wr _).trans hb1)
          have B1 := hide (B0.out.below hb1 (by simp))
          obtain ⟨d0, d1, d2, d3⟩ := B1.out.cell
          have s1 := hb1.size
          simp at s1
          clear hb1
          go_wp2_with (fail)
          refine (refuint_is A1 m1 c1 (num * 2 + 1) _ _ _ (by omega) (by omega) (by omega) (Hh.out.later L1.out) rfl).mono ?_
          rintro e w2 ⟨A2, m2, c2, rfl, o2, h2, _, k2⟩
          have L2 := hide (L1.out.trans k2)
          have B2 := hide (B1.out.below k2 (by omega))
          obtain ⟨e0, e1, e2, e3⟩ := B2.out.cell
          have H2 := hide h2
          have hm2 := h2.1
          have hlr := Hh.out.1
          simp only [List.length_append] at hm2
          have s2 := k2.size
          clear d0 d1 d2 d3 o2 h2 k2
          go_wp2_with (fail)
          refine (refuint_is A2 m2 c2 (fn : Int) _ _ _ (by omega) (by omega) (by omega) H2.out rfl).mono ?_
          rintro e w3 ⟨A3, m3, c3, rfl, o3, h3, _, k3⟩
          have L3 := hide (L2.out.trans k3)
          have B3 := hide (B2.out.below k3 (by omega))
          obtain ⟨f0, f1, f2, f3⟩ := B3.out.cell
          have O3 := hide o3
          have hm3 := h3.1
          simp only [List.length_append] at hm3
          have s3 := k3.size
          clear e0 e1 e2 e3 o3 h3 k3
          go_wp2_with (at_builtin; refine wpList_append_bytes _ rfl (.tmp 42) (.tmp 44) 38 rfl w2.heap.size 5 i0 (.int .u8 0) Tryz.underlying38 hi hz0 hz1 hz2 rfl _ m3 _ rfl O3.out w.heap.size a fn fc fb rfl (HB.out.below (L3.out.below hsz)) (by omega) (by omega) ?_; intro v4 w4 o4 g4)
          have O4 := hide o4
          have G4 := hide g4
          clear o4 g4
          go_roundw
          case rel =>
            refine ⟨k + 1, by omega, by go_num, ⟨m3 + fn, ?_⟩, (hbel.trans (L3.out.below hsz)).trans ((G4.out.below O3.out (by omega)).mono (by omega))⟩
            rw [Hrs.out, bytes_text Hg.out rfl, show 2 * num.toNat + 1 = (num * 2 + 1).toNat from by omega]
            have := own_base O4.out (base' := w.heap.size) (by omega)
            rw [← bvs_append] at this
            simpa [List.append_assoc] using this
          case measure => simp [intOf]; omega
        | false =>
          go_wp2_with (fail)
          refine (refgood_is ⟨num, false, v, a, fn, fc, fb⟩ true Hg.out _).mono ?_
          rintro e w1 ⟨rfl, hb1⟩
          have L1 := hide ((Later.alloc wr _).trans hb1)
          have B1 := hide (B0.out.below hb1 (by simp))
          obtain ⟨d0, d1, d2, d3⟩ := B1.out.cell
          have s1 := hb1.size
          simp at s1
          clear hb1
          go_wp2_with (fail)
          refine (refuint_is A1 m1 c1 (num * 2) _ _ _ (by omega) (by omega) (by omega) (Hh.out.later L1.out) rfl).mono ?_
          rintro e w2 ⟨A2, m2, c2, rfl, o2, h2, _, k2⟩
          have L2 := hide (L1.out.trans k2)
          have B2 := hide (B1.out.below k2 (by omega))
          obtain ⟨e0, e1, e2, e3⟩ := B2.out.cell
          have H2 := hide h2
          have hm2 := h2.1
          have hlr := Hh.out.1
          simp only [List.length_append] at hm2
          have s2 := k2.size
          clear d0 d1 d2 d3 o2 h2 k2
          go_wp2_with (fail)
          refine (refuint_is A2 m2 c2 (v : Int) _ _ _ (by omega) (by have := Hv.out; omega) (by omega) H2.out rfl).mono ?_
          rintro e w3 ⟨A3, m3, c3, rfl, o3, h3, _, k3⟩
          have L3 := hide (L2.out.trans k3)
          have O3 := hide o3
          clear e0 e1 e2 e3 o3 h3 k3
          go_wp2
          go_roundw
          case rel =>
            refine ⟨k + 1, by omega, by go_num, ⟨m3, ?_⟩, hbel.trans (L3.out.below hsz)⟩
            rw [Hrs.out, bytes_num Hg.out rfl, show 2 * num.toNat = (num * 2).toNat from by omega]
            simpa using own_base O3.out (base' := w.heap.size) (by omega)
          case measure => simp [intOf]; omega
      · have Hg := hide (show Fd.good ⟨num, text, v, a, fn, fc, fb⟩ = false by simpa using hgood)
        clear hgood
        go_wp2_with (fail)
        refine (refgood_is ⟨num, text, v, a, fn, fc, fb⟩ false Hg.out _).mono ?_
        rintro e w1 ⟨rfl, hb1⟩
        have o1 := hide (own_below (Hown.out.alloc (.cells #[.int .i64 num, .bool text, .int .u64 v, .slice a fn fc] 92)) hb1)
        have L1 := hide ((Later.alloc wr _).trans hb1)
        clear hb1
        go_wp2
        go_roundw
        case rel =>
          refine ⟨k + 1, by omega, by go_num, ⟨m1, ?_⟩, hbel.trans (L1.out.below hsz)⟩
          rw [Hrs.out, bytes_not Hg.out]
          simpa using o1.out
        case measure => simp [intOf]; omega
    · have Hk : Hid (fs.take k = fs) := by
        show _ = _
        exact List.take_of_length_le (by have := HF.out.1; omega)
      go_wp2
      go_ret
      have := Hown.out
      rw [Hk.out] at this
      exact newBytes_of this HF.out.small hbel
end Go.Proofs.YtehiaeihkdfclaaGreatDoor
/- Rows of fields by what they say: num, yes, text, some, Write. -/
namespace Go.Proofs.YtehiaeihkdfclaaGreatDoor
open Go.RowKit

/-- A row of the call's own from base on that says these fields. -/
def DR (w : World) (base : Nat) (v : Value) (ps : List PF) : Prop := ∃ fds, DRow w base v fds ∧ fds.map Fd.pf = ps
theorem DR.nil (w : World) (base : Nat) : DR w base (.slice none 0 0) [] := ⟨[], DRow.nil w base, rfl⟩
theorem DR.later {w w' : World} {base : Nat} {v : Value} {ps : List PF} (h : DR w base v ps) (hl : Later w w') : DR w' base v ps := by
  obtain ⟨fds, h1, h2⟩ := h
  exact ⟨fds, h1.later hl, h2⟩
theorem DR.slice {w : World} {base : Nat} {v : Value} {ps : List PF} (h : DR w base v ps) : ∃ A n c, v = .slice A n c := by
  obtain ⟨fds, h1, _⟩ := h
  obtain ⟨A, c, hv, _⟩ := FHolds.of_own h1.1 fun f hf => (h1.2 f hf).ok
  exact ⟨A, _, c, hv⟩
/-- What such a call tells: the row's fields, with these behind them; the blocks ahead of base are as they were, and what lies in blocks of bytes is. -/
def AddsD (w : World) (base : Nat) (ps : List PF) (e : Ending) (w' : World) : Prop :=
  ∃ v', e = .returned v' ∧ DR w' base v' ps ∧ Below base w w' ∧ ∀ f, FdAt w f → FdAt w' f
theorem Adds.dr {w w' : World} {base : Nat} {v : Value} {fds : List Fd} {ps qs : List PF} {e : Ending} (h : Adds w base v fds ps e w') (hr : DRow w base v fds) (hq : fds.map Fd.pf = qs) (hb : base ≤ w.heap.size) : AddsD w base (qs ++ ps) e w' := by
  obtain ⟨v', gds, rfl, h1, h2, h3⟩ := h
  exact ⟨v', rfl, ⟨_, h1, by rw [List.map_append, hq, h2]⟩, (Below.refl _ _).grown h3 hb fun k hk => (hr.1.lt k hk).1, fun f hf => hf.kept hr.1 h3 (by decide)⟩

theorem dnum_any {base : Nat} {v : Value} {ps : List PF} {n x : Int} {w : World} (hr : DR w base v ps) (hb : base ≤ w.heap.size) (hc : ps.length ≤ 100000000) (hn : I64 n) (hx : I64 x) :
    Calls Tryz.prog 37 #[v, .int .i64 n, .int .i64 x] w (AddsD w base (ps ++ pnum n x)) := by
  obtain ⟨fds, h1, h2⟩ := hr
  have hl : fds.length ≤ 100000000 := by rw [← h2, List.length_map] at hc; exact hc
  exact (rnum_any h1 hb hl hn hx).mono fun e w' h => h.dr h1 h2 hb
theorem dyes_any {base : Nat} {v : Value} {ps : List PF} {n : Int} {x : Bool} {w : World} (hr : DR w base v ps) (hb : base ≤ w.heap.size) (hc : ps.length ≤ 100000000) (hn : I64 n) :
    Calls Tryz.prog 40 #[v, .int .i64 n, .bool x] w (AddsD w base (ps ++ pflag n x)) := by
  obtain ⟨fds, h1, h2⟩ := hr
  have hl : fds.length ≤ 100000000 := by rw [← h2, List.length_map] at hc; exact hc
  exact (ryes_any h1 hb hl hn).mono fun e w' h => h.dr h1 h2 hb
theorem dtext_any {base : Nat} {v : Value} {ps : List PF} {n : Int} {A : Option Addr} {m c : Nat} {l : List Nat} {w : World} (hr : DR w base v ps) (hb : base ≤ w.heap.size) (hc : ps.length ≤ 100000000) (hf : FdAt w ⟨n, true, 0, A, m, c, l⟩) :
    Calls Tryz.prog 42 #[v, .int .i64 n, .slice A m c] w (AddsD w base (ps ++ [prow n l])) := by
  obtain ⟨fds, h1, h2⟩ := hr
  have hl : fds.length ≤ 100000000 := by rw [← h2, List.length_map] at hc; exact hc
  exact (rtext_any h1 hb hl hf).mono fun e w' h => h.dr h1 h2 hb
theorem dsome_any {base : Nat} {v : Value} {ps : List PF} {n : Int} {A : Option Addr} {m c : Nat} {l : List Nat} {w : World} (hr : DR w base v ps) (hb : base ≤ w.heap.size) (hc : ps.length ≤ 100000000) (hf : FdAt w ⟨n, true, 0, A, m, c, l⟩) :
    Calls Tryz.prog 38 #[v, .int .i64 n, .slice A m c] w (AddsD w base (ps ++ ptext n l)) := by
  obtain ⟨fds, h1, h2⟩ := hr
  have hl : fds.length ≤ 100000000 := by rw [← h2, List.length_map] at hc; exact hc
  exact (rsome_any h1 hb hl hf).mono fun e w' h => h.dr h1 h2 hb
/-- The record of such a row. -/
theorem dwrite_any {base : Nat} {v : Value} {ps : List PF} {w : World} (hr : DR w base v ps) (hroom : proom ps ≤ 10000000) :
    Calls Tryz.prog 39 #[v] w (NewBytes w (prec ps)) := by
  obtain ⟨fds, h1, h2⟩ := hr
  obtain ⟨A, c, rfl, _, h4⟩ := FHolds.of_own h1.1 fun f hf => (h1.2 f hf).ok
  have hrm : room fds ≤ 10000000 := by rw [room_pf fds h4.lens, h2]; exact hroom
  have hct : fds.length ≤ 10000000 := by
    have h3 := proom_count (fds.map Fd.pf)
    have h5 : fds.length = (fds.map Fd.pf).length := by simp
    rw [h2] at h3 h5
    omega
  have C := refwrite_any A fds.length c fds w h4 hrm hct
  rwa [recOf_pf fds h4.lens, h2] at C
/-- New bytes as a text's. -/
theorem own_fd {w : World} {base n c : Nat} {A : Option Addr} {l : List Nat} {num : Int} (hn : I64 num) (h1 : w.ownsRow base 5 1 (.slice A n c) n (bvs l)) (hs : ∀ x ∈ l, x < 256) : FdAt w ⟨num, true, 0, A, n, c, l⟩ :=
  FdOwn.at_ (base := base) ⟨hn, by simp, hs, h1⟩
end Go.Proofs.YtehiaeihkdfclaaGreatDoor
/- The walk over droverref09.DefBytes. -/
namespace Go.Proofs.YtehiaeihkdfclaaGreatDoor
open Go.RowKit

theorem len_num {ps : List PF} {k : Nat} {n x : Int} (h : ps.length ≤ k) : (ps ++ pnum n x).length ≤ k + 1 := by
  rw [List.length_append]; unfold pnum; split <;> simp <;> omega
theorem len_flag {ps : List PF} {k : Nat} {n : Int} {x : Bool} (h : ps.length ≤ k) : (ps ++ pflag n x).length ≤ k + 1 := by
  rw [List.length_append]; unfold pflag; split <;> simp <;> omega
theorem len_text {ps : List PF} {k : Nat} {n : Int} {x : List Nat} (h : ps.length ≤ k) : (ps ++ ptext n x).length ≤ k + 1 := by
  rw [List.length_append]; unfold ptext; split <;> simp <;> omega
theorem drew_below (b : Nat) (w : World) : Below b w w.drew := ⟨rfl, rfl, rfl, Nat.le_refl _, fun _ _ => rfl⟩

set_option maxHeartbeats 2000000 in
set_option maxRecDepth 100000 in
theorem rdefb_any {G : Nat → Prop} {sA : Option Addr} {m sc k : Nat} {d : DefD} {w : World} (hl : StepsAt G w (.slice sA m sc) d.steps) (hm : m = d.steps.length) (hsm : d.sm k) (hk : k ≤ 5000) (hroom : proom (defF d) ≤ 1000000) :
    Calls Tryz.prog 16 #[.agg #[.string d.name, .slice sA m sc]] w (NewBytes w (defB d)) := by
  have HLL := hide hl
  have HM := hide hm
  have HSM := hide hsm
  have HKK := hide hk
  have HR := hide hroom
  have HX0 : Hid ((w.alloc (.cells #[.string d.name, .slice sA m sc] 24 (0, 0))).heap[w.heap.size]? = some (.cells #[.string d.name, .slice sA m sc] 24 (0, 0))) := heap_alloc_new _ _
  have HL0 : Hid (Later w (w.alloc (.cells #[.string d.name, .slice sA m sc] 24 (0, 0)))) := Later.alloc _ _
  have hml : m ≤ 5000 := by have := hsm.2.1; omega
  have e1 := Lib.run_convert_string_bytes (P := Tryz.prog) (w.alloc (.cells #[.string d.name, .slice sA m sc] 24 (0, 0))) 9 38 5 d.name Tryz.underlying9 Tryz.underlying38 Tryz.underlying5
  have hfd := bytes_fd (w := w.alloc (.cells #[.string d.name, .slice sA m sc] 24 (0, 0))) (num := 1) (s := d.name) ⟨by omega, by omega⟩
  have hbl := bytes_later (w.alloc (.cells #[.string d.name, .slice sA m sc] 24 (0, 0))) 5 d.name
  simp only [World.size_alloc] at e1 hfd
  have C0 := hide (dsome_any (base := w.heap.size + 1) (DR.nil (Lib.bytesWorld (w.alloc (.cells #[.string d.name, .slice sA m sc] 24 (0, 0))) 5 d.name) _) (by rw [Lib.bytesWorld_size, World.size_alloc]; omega) (by simp) hfd)
  have HB0 : Hid (Below (w.heap.size + 1) (w.alloc (.cells #[.string d.name, .slice sA m sc] 24 (0, 0))) (Lib.bytesWorld (w.alloc (.cells #[.string d.name, .slice sA m sc] 24 (0, 0))) 5 d.name)) := Below.mono hbl (by rw [World.size_alloc]; omega)
  clear hl hm hsm hk hroom hfd hbl
  go_enter Tryz.func16, Tryz.ntmps16
  go_wp2_with (fail)
  refine C0.out.mono ?_
  rintro e w0 ⟨v0, rfl, hd0, hb0, _⟩
  have HD0 := hide hd0
  have HT0 := hide (HB0.out.trans hb0)
  have hx0 := (HT0.out.block w.heap.size (by omega)).trans HX0.out
  have c1 := box_at hx0 1 _ rfl
  have HS0 : Hid (∀ w', Below (w.heap.size + 1) w0 w' → Later w w') := fun w' h => Below.trans HL0.out (Below.mono (HT0.out.trans h) (by omega))
  have HZ0 : Hid (w.heap.size + 1 ≤ w0.heap.size) := by have h := HT0.out.size; rw [World.size_alloc] at h; exact h
  clear hd0 hb0 hx0 e1 C0
  go_wp2
  clear c1
  go_loopw [3, 14] (fun lv i wr => ∃ q : Nat, q ≤ m ∧ i = .int .i64 (q : Int) ∧ DR wr (w.heap.size + 1) lv (([] : List PF) ++ ptext 1 (nums d.name) ++ (d.steps.take q).map fun s => prow 2 (stepB s)) ∧ Below (w.heap.size + 1) w0 wr) (fun _ i _ => m - (intOf i).toNat)
  case atStart => exact ⟨0, by omega, rfl, by simpa using HD0.out, Below.refl _ _⟩
  case round =>
    obtain ⟨q, hq, rfl, hdr, hbw⟩ := hrel
    have HD := hide hdr
    have HB := hide hbw
    have HLW := hide (HS0.out _ hbw)
    clear hdr hbw
    by_cases hlt : q < m
    · obtain ⟨s, b, off, c', hsk, hv, _, _, hbw, hr⟩ := StepsAt.at_ (HLL.out.kept (Kept.of_below HLW.out G)) (i := q) (by rw [← HM.out]; exact hlt)
      obtain ⟨rfl, rfl⟩ : sA = some ⟨b, off, none⟩ ∧ sc = c' := by injection hv with e1 _ e3; exact ⟨e1, e3⟩
      obtain ⟨r0, r1, r2, r3, r4, r5⟩ := range_step hr
      have HSK := hide hsk
      have hss := HSM.out.2.2 s (List.mem_of_getElem? hsk)
      have HI2 := hide hss.2.1
      have HI3 := hide hss.2.2.1
      have HI4 := hide hss.2.2.2
      have HRS : Hid (proom (stepF s) ≤ 10000000) := by have h1 := stepF_room s; have h2 := hss.1; have h3 := HKK.out; show _ ≤ _; omega
      have HW8 : Hid (Later wr (wr.alloc (.cells #[.string s.name, .int .i64 s.stub, .int .i64 s.retry, .int .i64 s.wait, .bool s.undo, .bool s.pivot] 68 (0, 0)))) := Later.alloc _ _
      have HX8 : Hid ((wr.alloc (.cells #[.string s.name, .int .i64 s.stub, .int .i64 s.retry, .int .i64 s.wait, .bool s.undo, .bool s.pivot] 68 (0, 0))).heap[wr.heap.size]? = some (.cells #[.string s.name, .int .i64 s.stub, .int .i64 s.retry, .int .i64 s.wait, .bool s.undo, .bool s.pivot] 68 (0, 0))) := heap_alloc_new _ _
      have e1 := Lib.run_convert_string_bytes (P := Tryz.prog) (wr.alloc (.cells #[.string s.name, .int .i64 s.stub, .int .i64 s.retry, .int .i64 s.wait, .bool s.undo, .bool s.pivot] 68 (0, 0))) 9 38 5 s.name Tryz.underlying9 Tryz.underlying38 Tryz.underlying5
      have hfd := bytes_fd (w := wr.alloc (.cells #[.string s.name, .int .i64 s.stub, .int .i64 s.retry, .int .i64 s.wait, .bool s.undo, .bool s.pivot] 68 (0, 0))) (num := 1) (s := s.name) ⟨by omega, by omega⟩
      have hbl := bytes_later (wr.alloc (.cells #[.string s.name, .int .i64 s.stub, .int .i64 s.retry, .int .i64 s.wait, .bool s.undo, .bool s.pivot] 68 (0, 0))) 5 s.name
      simp only [World.size_alloc] at e1 hfd
      have C1 := hide (dsome_any (base := wr.heap.size + 1) (DR.nil (Lib.bytesWorld (wr.alloc (.cells #[.string s.name, .int .i64 s.stub, .int .i64 s.retry, .int .i64 s.wait, .bool s.undo, .bool s.pivot] 68 (0, 0))) 5 s.name) _) (by rw [Lib.bytesWorld_size, World.size_alloc]; omega) (by simp) hfd)
      have HB1 : Hid (Below (wr.heap.size + 1) (wr.alloc (.cells #[.string s.name, .int .i64 s.stub, .int .i64 s.retry, .int .i64 s.wait, .bool s.undo, .bool s.pivot] 68 (0, 0))) (Lib.bytesWorld (wr.alloc (.cells #[.string s.name, .int .i64 s.stub, .int .i64 s.retry, .int .i64 s.wait, .bool s.undo, .bool s.pivot] 68 (0, 0))) 5 s.name)) := Below.mono hbl (by rw [World.size_alloc]; omega)
      clear hsk hv hr hss hfd hbl
      go_wp2_with (fail)
      refine C1.out.mono ?_
      rintro e w1 ⟨v1, rfl, hd1, hb1, _⟩
      have HD1 := hide (hd1.later (Later.drew w1))
      have HU1 := hide (HB1.out.trans hb1)
      have HT1 : Hid (Below (wr.heap.size + 1) (wr.alloc (.cells #[.string s.name, .int .i64 s.stub, .int .i64 s.retry, .int .i64 s.wait, .bool s.undo, .bool s.pivot] 68 (0, 0))) w1.drew) := HU1.out.trans (drew_below _ _)
      have HN1 : Hid ((([] : List PF) ++ ptext 1 (nums s.name)).length ≤ 1) := len_text (Nat.zero_le _)
      have HS : Hid (∀ w', Below (wr.heap.size + 1) (wr.alloc (.cells #[.string s.name, .int .i64 s.stub, .int .i64 s.retry, .int .i64 s.wait, .bool s.undo, .bool s.pivot] 68 (0, 0))) w' → w'.heap[wr.heap.size]? = some (.cells #[.string s.name, .int .i64 s.stub, .int .i64 s.retry, .int .i64 s.wait, .bool s.undo, .bool s.pivot] 68 (0, 0))) := fun w' h => (h.block wr.heap.size (by omega)).trans HX8.out
      clear hd1 hb1 e1 C1 r0 r1 r2 r3 r4 r5
      go_wp2
      refine wp_region_R (R := fun a c => Below (wr.heap.size + 1) a c) (by kernel_rfl) ?_
      refine wpAnyR_take (pre_below (wr.heap.size + 1)) (i := 0) (d := some 22) (v := ?vaa0) rfl rfl (by kernel_rfl) (by kernel_rfl) (by kernel_rfl) (fun _ _ _ h => h) (by rfl) ?yaa0 ?_
      case yaa0 => (intro w' hw'; go_simp; try (with_reducible rfl))
      simp only [Act.put]; try simp only [List.setIfInBounds_toArray]; try simp only [List.set_cons_zero, List.set_cons_succ]
      refine wpAnyR_take (pre_below (wr.heap.size + 1)) (i := 1) (d := some 23) (v := ?vaa1) rfl rfl (by kernel_rfl) (by kernel_rfl) (by kernel_rfl) (fun _ _ _ h => h) (by rfl) ?yaa1 ?_
      case yaa1 => (intro w' hw'; go_simp; try (with_reducible rfl))
      simp only [Act.put]; try simp only [List.setIfInBounds_toArray]; try simp only [List.set_cons_zero, List.set_cons_succ]
      refine wpAnyR_take (pre_below (wr.heap.size + 1)) (i := 2) (d := some 24) (v := .int .i64 s.stub) rfl rfl (by kernel_rfl) (by kernel_rfl) (by kernel_rfl) (fun _ _ _ h => h) (by rfl) ?yaa2 ?_
      case yaa2 => (intro w' hw'; have hx := box_at (HS.out w' (HT1.out.trans hw')) 1 _ rfl; go_simp; try (with_reducible rfl))
      simp only [Act.put]; try simp only [List.setIfInBounds_toArray]; try simp only [List.set_cons_zero, List.set_cons_succ]
      refine wpAnyR_take (pre_below (wr.heap.size + 1)) (i := 4) (d := some 26) (v := ?vaa4) rfl rfl (by kernel_rfl) (by kernel_rfl) (by kernel_rfl) (fun _ _ _ h => h) (by rfl) ?yaa4 ?_
      case yaa4 => (intro w' hw'; go_simp; try (with_reducible rfl))
      simp only [Act.put]; try simp only [List.setIfInBounds_toArray]; try simp only [List.set_cons_zero, List.set_cons_succ]
      refine wpAnyR_take (pre_below (wr.heap.size + 1)) (i := 5) (d := some 27) (v := .int .i64 s.retry) rfl rfl (by kernel_rfl) (by kernel_rfl) (by kernel_rfl) (fun _ _ _ h => h) (by rfl) ?yaa5 ?_
      case yaa5 => (intro w' hw'; have hx := box_at (HS.out w' (HT1.out.trans hw')) 2 _ rfl; go_simp; try (with_reducible rfl))
      simp only [Act.put]; try simp only [List.setIfInBounds_toArray]; try simp only [List.set_cons_zero, List.set_cons_succ]
      refine wpAnyR_take (pre_below (wr.heap.size + 1)) (i := 7) (d := some 29) (v := ?vaa7) rfl rfl (by kernel_rfl) (by kernel_rfl) (by kernel_rfl) (fun _ _ _ h => h) (by rfl) ?yaa7 ?_
      case yaa7 => (intro w' hw'; go_simp; try (with_reducible rfl))
      simp only [Act.put]; try simp only [List.setIfInBounds_toArray]; try simp only [List.set_cons_zero, List.set_cons_succ]
      refine wpAnyR_take (pre_below (wr.heap.size + 1)) (i := 8) (d := some 30) (v := .int .i64 s.wait) rfl rfl (by kernel_rfl) (by kernel_rfl) (by kernel_rfl) (fun _ _ _ h => h) (by rfl) ?yaa8 ?_
      case yaa8 => (intro w' hw'; have hx := box_at (HS.out w' (HT1.out.trans hw')) 3 _ rfl; go_simp; try (with_reducible rfl))
      simp only [Act.put]; try simp only [List.setIfInBounds_toArray]; try simp only [List.set_cons_zero, List.set_cons_succ]
      refine wpAnyR_only (i := 3) rfl (by kernel_rfl) (by rfl) fun K hK => ?_
      go_simp
      refine (dnum_any HD1.out (by have h := HT1.out.size; rw [World.size_alloc] at h; exact h) (Nat.le_trans HN1.out (by omega)) ⟨by omega, by omega⟩ HI2.out).mono ?_
      rintro e w2 ⟨v2, rfl, hd, hb, _⟩
      have HD2 := hide hd
      have HT2 := hide (HT1.out.trans hb)
      have HN2 := hide (len_num (n := 2) (x := s.stub) HN1.out)
      refine hK.out _ _ hb ?_
      clear hd hb
      clear hK K
      try (simp only [Act.put]; try simp only [List.setIfInBounds_toArray]; try simp only [List.set_cons_zero, List.set_cons_succ])
      refine wpAnyR_only (i := 6) rfl (by kernel_rfl) (by rfl) fun K hK => ?_
      go_simp
      refine (dnum_any HD2.out (by have h := HT2.out.size; rw [World.size_alloc] at h; exact h) (Nat.le_trans HN2.out (by omega)) ⟨by omega, by omega⟩ HI3.out).mono ?_
      rintro e w3 ⟨v3, rfl, hd, hb, _⟩
      have HD3 := hide hd
      have HT3 := hide (HT2.out.trans hb)
      have HN3 := hide (len_num (n := 3) (x := s.retry) HN2.out)
      refine hK.out _ _ hb ?_
      clear hd hb
      clear hK K
      try (simp only [Act.put]; try simp only [List.setIfInBounds_toArray]; try simp only [List.set_cons_zero, List.set_cons_succ])
      refine wpAnyR_only (i := 9) rfl (by kernel_rfl) (by rfl) fun K hK => ?_
      go_simp
      refine (dnum_any HD3.out (by have h := HT3.out.size; rw [World.size_alloc] at h; exact h) (Nat.le_trans HN3.out (by omega)) ⟨by omega, by omega⟩ HI4.out).mono ?_
      rintro e w4 ⟨v4, rfl, hd, hb, _⟩
      have HD4 := hide hd
      have HT4 := hide (HT3.out.trans hb)
      have HN4 := hide (len_num (n := 4) (x := s.wait) HN3.out)
      refine hK.out _ _ hb ?_
      clear hd hb
      clear hK K
      try (simp only [Act.put]; try simp only [List.setIfInBounds_toArray]; try simp only [List.set_cons_zero, List.set_cons_succ])
      refine wpAnyR_take (pre_below (wr.heap.size + 1)) (i := 10) (d := some 6) (v := ?vaa10) rfl rfl (by kernel_rfl) (by kernel_rfl) (by kernel_rfl) (fun _ _ _ h => h) (by rfl) ?yaa10 ?_
      case yaa10 => (intro w' hw'; go_simp; try (with_reducible rfl))
      simp only [Act.put]; try simp only [List.setIfInBounds_toArray]; try simp only [List.set_cons_zero, List.set_cons_succ]
      refine wpAnyR_done (by kernel_rfl) ?_ _
      have HT4b : Hid (Below (wr.heap.size + 1) (wr.alloc (.cells #[.string s.name, .int .i64 s.stub, .int .i64 s.retry, .int .i64 s.wait, .bool s.undo, .bool s.pivot] 68 (0, 0))) w4.drew) := HT4.out.trans (drew_below _ _)
      have HD4b := hide (HD4.out.later (Later.drew w4))
      clear HT4 HD4
      have HT4 := HT4b
      have HD4 := HD4b
      clear HT4b HD4b
      go_wp2
      refine wp_region_R (R := fun a c => Below (wr.heap.size + 1) a c) (by kernel_rfl) ?_
      refine wpAnyR_take (pre_below (wr.heap.size + 1)) (i := 0) (d := some 32) (v := ?vab0) rfl rfl (by kernel_rfl) (by kernel_rfl) (by kernel_rfl) (fun _ _ _ h => h) (by rfl) ?yab0 ?_
      case yab0 => (intro w' hw'; go_simp; try (with_reducible rfl))
      simp only [Act.put]; try simp only [List.setIfInBounds_toArray]; try simp only [List.set_cons_zero, List.set_cons_succ]
      refine wpAnyR_take (pre_below (wr.heap.size + 1)) (i := 1) (d := some 33) (v := ?vab1) rfl rfl (by kernel_rfl) (by kernel_rfl) (by kernel_rfl) (fun _ _ _ h => h) (by rfl) ?yab1 ?_
      case yab1 => (intro w' hw'; go_simp; try (with_reducible rfl))
      simp only [Act.put]; try simp only [List.setIfInBounds_toArray]; try simp only [List.set_cons_zero, List.set_cons_succ]
      refine wpAnyR_take (pre_below (wr.heap.size + 1)) (i := 2) (d := some 34) (v := .bool s.undo) rfl rfl (by kernel_rfl) (by kernel_rfl) (by kernel_rfl) (fun _ _ _ h => h) (by rfl) ?yab2 ?_
      case yab2 => (intro w' hw'; have hx := box_at (HS.out w' (HT4.out.trans hw')) 4 _ rfl; go_simp; try (with_reducible rfl))
      simp only [Act.put]; try simp only [List.setIfInBounds_toArray]; try simp only [List.set_cons_zero, List.set_cons_succ]
      refine wpAnyR_take (pre_below (wr.heap.size + 1)) (i := 4) (d := some 36) (v := ?vab4) rfl rfl (by kernel_rfl) (by kernel_rfl) (by kernel_rfl) (fun _ _ _ h => h) (by rfl) ?yab4 ?_
      case yab4 => (intro w' hw'; go_simp; try (with_reducible rfl))
      simp only [Act.put]; try simp only [List.setIfInBounds_toArray]; try simp only [List.set_cons_zero, List.set_cons_succ]
      refine wpAnyR_take (pre_below (wr.heap.size + 1)) (i := 5) (d := some 37) (v := .bool s.pivot) rfl rfl (by kernel_rfl) (by kernel_rfl) (by kernel_rfl) (fun _ _ _ h => h) (by rfl) ?yab5 ?_
      case yab5 => (intro w' hw'; have hx := box_at (HS.out w' (HT4.out.trans hw')) 5 _ rfl; go_simp; try (with_reducible rfl))
      simp only [Act.put]; try simp only [List.setIfInBounds_toArray]; try simp only [List.set_cons_zero, List.set_cons_succ]
      refine wpAnyR_only (i := 3) rfl (by kernel_rfl) (by rfl) fun K hK => ?_
      go_simp
      refine (dyes_any HD4.out (by have h := HT4.out.size; rw [World.size_alloc] at h; exact h) (Nat.le_trans HN4.out (by omega)) ⟨by omega, by omega⟩).mono ?_
      rintro e w5 ⟨v5, rfl, hd, hb, _⟩
      have HD5 := hide hd
      have HT5 := hide (HT4.out.trans hb)
      have HN5 := hide (len_flag (n := 5) (x := s.undo) HN4.out)
      refine hK.out _ _ hb ?_
      clear hd hb
      clear hK K
      try (simp only [Act.put]; try simp only [List.setIfInBounds_toArray]; try simp only [List.set_cons_zero, List.set_cons_succ])
      refine wpAnyR_only (i := 6) rfl (by kernel_rfl) (by rfl) fun K hK => ?_
      go_simp
      refine (dyes_any HD5.out (by have h := HT5.out.size; rw [World.size_alloc] at h; exact h) (Nat.le_trans HN5.out (by omega)) ⟨by omega, by omega⟩).mono ?_
      rintro e w6 ⟨v6, rfl, hd, hb, _⟩
      have HD6 := hide hd
      have HT6 := hide (HT5.out.trans hb)
      have HN6 := hide (len_flag (n := 6) (x := s.pivot) HN5.out)
      refine hK.out _ _ hb ?_
      clear hd hb
      clear hK K
      try (simp only [Act.put]; try simp only [List.setIfInBounds_toArray]; try simp only [List.set_cons_zero, List.set_cons_succ])
      refine wpAnyR_take (pre_below (wr.heap.size + 1)) (i := 7) (d := some 6) (v := ?vab7) rfl rfl (by kernel_rfl) (by kernel_rfl) (by kernel_rfl) (fun _ _ _ h => h) (by rfl) ?yab7 ?_
      case yab7 => (intro w' hw'; go_simp; try (with_reducible rfl))
      simp only [Act.put]; try simp only [List.setIfInBounds_toArray]; try simp only [List.set_cons_zero, List.set_cons_succ]
      refine wpAnyR_done (by kernel_rfl) ?_ _
      have hall : ([] : List PF) ++ ptext 1 (nums s.name) ++ pnum 2 s.stub ++ pnum 3 s.retry ++ pnum 4 s.wait ++ pflag 5 s.undo ++ pflag 6 s.pivot = stepF s := by simp [stepF]
      have HD7 := HD6
      rw [hall] at HD7
      have C7 := hide (dwrite_any HD7.out HRS.out)
      have HL6 : Hid (Later wr w6) := Below.trans HW8.out (Below.mono HT6.out (by omega))
      clear hall HD6
      go_wp2_with (fail)
      refine C7.out.mono ?_
      rintro e w7 ⟨A7, n7, c7, rfl, ho7, hh7, _, hb7⟩
      have HL7 : Hid (Later wr w7) := HL6.out.trans hb7
      have hfd7 := own_fd (num := 2) ⟨by omega, by omega⟩ ho7 hh7.2.1
      have C8 := hide (dtext_any (HD.out.later HL7.out) (by have h1 := HB.out.size; have h2 := Below.size HL7.out; have h3 := HZ0.out; omega) (by simp only [List.length_append, List.length_map, List.length_take]; have := len_text (ps := []) (k := 0) (n := 1) (x := nums d.name) (Nat.le_refl _); simp only [List.length_append, List.length_nil] at this ⊢; omega) hfd7)
      clear ho7 hh7 hb7 hfd7 C7
      go_wp2_with (fail)
      refine C8.out.mono ?_
      rintro e w8 ⟨v8, rfl, hd8, hb8, _⟩
      have HD8 := hide hd8
      have HB8 : Hid (Below (w.heap.size + 1) w0 w8) := (HB.out.trans (Below.mono HL7.out (by have h1 := HB.out.size; have h3 := HZ0.out; omega))).trans hb8
      clear hd8 hb8 C8
      go_wp2
      go_roundw
      case rel =>
        refine ⟨q + 1, by omega, by go_num, ?_, HB8.out⟩
        have h := HD8.out
        rw [show prec (stepF s) = stepB s from rfl] at h
        rw [List.take_add_one, HSK.out]
        simpa only [Option.toList_some, List.map_append, List.map_cons, List.map_nil, List.append_assoc] using h
      case measure => simp [intOf]; omega
    · obtain rfl : q = m := by omega
      have hall : ([] : List PF) ++ ptext 1 (nums d.name) ++ (d.steps.take q).map (fun s => prow 2 (stepB s)) = defF d := by
        rw [List.take_of_length_le (by have := HM.out; omega)]
        simp [defF]
      rw [hall] at HD
      have C := hide (dwrite_any HD.out (Nat.le_trans HR.out (by omega)))
      clear hall
      go_wp2_with (fail)
      refine C.out.mono ?_
      rintro e w1 ⟨A2, n2, c2, rfl, h1, h2, h3, h4⟩
      have H1 := hide (own_base h1 (Below.size HLW.out))
      have H2 := hide h2
      have H4 := hide (HLW.out.trans h4)
      clear h1 h2 h4 C
      go_wp2
      go_ret
      exact ⟨A2, n2, c2, rfl, H1.out, H2.out, h3, H4.out⟩
end Go.Proofs.YtehiaeihkdfclaaGreatDoor
/- The walk over droverref09.OpBytes. -/
namespace Go.Proofs.YtehiaeihkdfclaaGreatDoor
open Go.RowKit

set_option maxHeartbeats 2000000 in
set_option maxRecDepth 100000 in
theorem ropb_any {G : Nat → Prop} {sA : Option Addr} {m sc k : Nat} {o : OpD} {w : World} (hl : StepsAt G w (.slice sA m sc) o.steps) (hm : m = o.steps.length) (hsm : o.sm k) (hk : k ≤ 5000) (hroom : proom (defF o.defn) ≤ 1000000) (hroom2 : proom (opF o) ≤ 10000000) :
    Calls Tryz.prog 14 #[.agg (o.cells (.slice sA m sc)).toArray] w (NewBytes w (opB o)) := by
  have HLL := hide hl
  have HM := hide hm
  have HSM := hide hsm
  have HKK := hide hk
  have HR := hide hroom
  have HR2 := hide hroom2
  have HX0 : Hid ((w.alloc (.cells (o.cells (.slice sA m sc)).toArray 26 (0, 0))).heap[w.heap.size]? = some (.cells (o.cells (.slice sA m sc)).toArray 26 (0, 0))) := heap_alloc_new _ _
  have HL0 : Hid (Later w (w.alloc (.cells (o.cells (.slice sA m sc)).toArray 26 (0, 0)))) := Later.alloc _ _
  have HS : Hid (∀ w', Below (w.heap.size + 1) (w.alloc (.cells (o.cells (.slice sA m sc)).toArray 26 (0, 0))) w' → w'.heap[w.heap.size]? = some (.cells (o.cells (.slice sA m sc)).toArray 26 (0, 0))) := fun w' h => (h.block w.heap.size (by omega)).trans HX0.out
  have HT0 : Hid (Below (w.heap.size + 1) (w.alloc (.cells (o.cells (.slice sA m sc)).toArray 26 (0, 0))) (w.alloc (.cells (o.cells (.slice sA m sc)).toArray 26 (0, 0))).drew) := drew_below _ _
  have HD0 : Hid (DR (w.alloc (.cells (o.cells (.slice sA m sc)).toArray 26 (0, 0))).drew (w.heap.size + 1) (.slice none 0 0) []) := DR.nil _ _
  have HN0 : Hid (([] : List PF).length ≤ 0) := Nat.le_refl _
  clear hl hm hsm hk hroom hroom2
  go_enter Tryz.func14, Tryz.ntmps14
  go_wp2
  refine wp_region_R (R := fun a c => Below (w.heap.size + 1) a c) (by kernel_rfl) ?_
  refine wpAnyR_take (pre_below (w.heap.size + 1)) (i := 0) (d := some 4) (v := ?vaa0) rfl rfl (by kernel_rfl) (by kernel_rfl) (by kernel_rfl) (fun _ _ _ h => h) (by rfl) ?yaa0 ?_
  case yaa0 => (intro w' hw'; go_simp; try (with_reducible rfl))
  simp only [Act.put]; try simp only [List.setIfInBounds_toArray]; try simp only [List.set_cons_zero, List.set_cons_succ]
  refine wpAnyR_take (pre_below (w.heap.size + 1)) (i := 1) (d := some 5) (v := .int .i64 o.kind) rfl rfl (by kernel_rfl) (by kernel_rfl) (by kernel_rfl) (fun _ _ _ h => h) (by rfl) ?yaa1 ?_
  case yaa1 => (intro w' hw'; have hx : w'.cell? ⟨w.heap.size, 0, none⟩ = some (.int .i64 o.kind) := box_at (HS.out w' (HT0.out.trans hw')) 0 _ rfl; go_simp; try (with_reducible rfl))
  simp only [Act.put]; try simp only [List.setIfInBounds_toArray]; try simp only [List.set_cons_zero, List.set_cons_succ]
  refine wpAnyR_take (pre_below (w.heap.size + 1)) (i := 3) (d := some 7) (v := ?vaa3) rfl rfl (by kernel_rfl) (by kernel_rfl) (by kernel_rfl) (fun _ _ _ h => h) (by rfl) ?yaa3 ?_
  case yaa3 => (intro w' hw'; go_simp; try (with_reducible rfl))
  simp only [Act.put]; try simp only [List.setIfInBounds_toArray]; try simp only [List.set_cons_zero, List.set_cons_succ]
  refine wpAnyR_take (pre_below (w.heap.size + 1)) (i := 4) (d := some 8) (v := .int .i64 o.client) rfl rfl (by kernel_rfl) (by kernel_rfl) (by kernel_rfl) (fun _ _ _ h => h) (by rfl) ?yaa4 ?_
  case yaa4 => (intro w' hw'; have hx : w'.cell? ⟨w.heap.size, 1, none⟩ = some (.int .i64 o.client) := box_at (HS.out w' (HT0.out.trans hw')) 1 _ rfl; go_simp; try (with_reducible rfl))
  simp only [Act.put]; try simp only [List.setIfInBounds_toArray]; try simp only [List.set_cons_zero, List.set_cons_succ]
  refine wpAnyR_take (pre_below (w.heap.size + 1)) (i := 6) (d := some 10) (v := ?vaa6) rfl rfl (by kernel_rfl) (by kernel_rfl) (by kernel_rfl) (fun _ _ _ h => h) (by rfl) ?yaa6 ?_
  case yaa6 => (intro w' hw'; go_simp; try (with_reducible rfl))
  simp only [Act.put]; try simp only [List.setIfInBounds_toArray]; try simp only [List.set_cons_zero, List.set_cons_succ]
  refine wpAnyR_take (pre_below (w.heap.size + 1)) (i := 7) (d := some 11) (v := .int .i64 o.request) rfl rfl (by kernel_rfl) (by kernel_rfl) (by kernel_rfl) (fun _ _ _ h => h) (by rfl) ?yaa7 ?_
  case yaa7 => (intro w' hw'; have hx : w'.cell? ⟨w.heap.size, 2, none⟩ = some (.int .i64 o.request) := box_at (HS.out w' (HT0.out.trans hw')) 2 _ rfl; go_simp; try (with_reducible rfl))
  simp only [Act.put]; try simp only [List.setIfInBounds_toArray]; try simp only [List.set_cons_zero, List.set_cons_succ]
  refine wpAnyR_only (i := 2) rfl (by kernel_rfl) (by rfl) fun K hK => ?_
  go_simp
  refine (dnum_any HD0.out (by have h := HT0.out.size; rw [World.size_alloc] at h; exact h) (Nat.le_trans HN0.out (by omega)) ⟨by omega, by omega⟩ HSM.out.1).mono ?_
  rintro e w1 ⟨v1, rfl, hd, hb, _⟩
  have HD1 := hide hd
  have HT1 := hide (HT0.out.trans hb)
  have HN1 := hide (len_num (n := 1) (x := o.kind) HN0.out)
  refine hK.out _ _ hb ?_
  clear hd hb
  clear hK K
  try (simp only [Act.put]; try simp only [List.setIfInBounds_toArray]; try simp only [List.set_cons_zero, List.set_cons_succ])
  refine wpAnyR_only (i := 5) rfl (by kernel_rfl) (by rfl) fun K hK => ?_
  go_simp
  refine (dnum_any HD1.out (by have h := HT1.out.size; rw [World.size_alloc] at h; exact h) (Nat.le_trans HN1.out (by omega)) ⟨by omega, by omega⟩ HSM.out.2.1).mono ?_
  rintro e w2 ⟨v2, rfl, hd, hb, _⟩
  have HD2 := hide hd
  have HT2 := hide (HT1.out.trans hb)
  have HN2 := hide (len_num (n := 2) (x := o.client) HN1.out)
  refine hK.out _ _ hb ?_
  clear hd hb
  clear hK K
  try (simp only [Act.put]; try simp only [List.setIfInBounds_toArray]; try simp only [List.set_cons_zero, List.set_cons_succ])
  refine wpAnyR_only (i := 8) rfl (by kernel_rfl) (by rfl) fun K hK => ?_
  go_simp
  refine (dnum_any HD2.out (by have h := HT2.out.size; rw [World.size_alloc] at h; exact h) (Nat.le_trans HN2.out (by omega)) ⟨by omega, by omega⟩ HSM.out.2.2.1).mono ?_
  rintro e w3 ⟨v3, rfl, hd, hb, _⟩
  have HD3 := hide hd
  have HT3 := hide (HT2.out.trans hb)
  have HN3 := hide (len_num (n := 3) (x := o.request) HN2.out)
  refine hK.out _ _ hb ?_
  clear hd hb
  clear hK K
  try (simp only [Act.put]; try simp only [List.setIfInBounds_toArray]; try simp only [List.set_cons_zero, List.set_cons_succ])
  refine wpAnyR_take (pre_below (w.heap.size + 1)) (i := 9) (d := some 3) (v := ?vaa9) rfl rfl (by kernel_rfl) (by kernel_rfl) (by kernel_rfl) (fun _ _ _ h => h) (by rfl) ?yaa9 ?_
  case yaa9 => (intro w' hw'; go_simp; try (with_reducible rfl))
  simp only [Act.put]; try simp only [List.setIfInBounds_toArray]; try simp only [List.set_cons_zero, List.set_cons_succ]
  refine wpAnyR_done (by kernel_rfl) ?_ _
  have hx3 := HS.out _ HT3.out
  have c3 : w3.cell? ⟨w.heap.size, 3, none⟩ = some (.string o.name) := box_at hx3 3 _ rfl
  have c4 : w3.cell? ⟨w.heap.size, 4, none⟩ = some (.slice sA m sc) := box_at hx3 4 _ rfl
  have hl3 : Later w w3 := Below.trans HL0.out (Below.mono HT3.out (by omega))
  have C4 := hide (rdefb_any (d := o.defn) (HLL.out.kept (Kept.of_below hl3 G)) HM.out HSM.out.2.2.2.1 HKK.out HR.out)
  clear hx3 hl3
  go_wp2_with (fail)
  refine C4.out.mono ?_
  rintro e w3b ⟨A4, n4, c4, rfl, ho4, hh4, _, hb4⟩
  have hz3 : w.heap.size + 1 ≤ w3.heap.size := by have h := HT3.out.size; rw [World.size_alloc] at h; exact h
  have hfd4 := own_fd (num := 4) ⟨by omega, by omega⟩ ho4 hh4.2.1
  have HT3b : Hid (Below (w.heap.size + 1) (w.alloc (.cells (o.cells (.slice sA m sc)).toArray 26 (0, 0))) w3b) := HT3.out.trans (Below.mono hb4 hz3)
  have C5 := hide (dsome_any (HD3.out.later hb4) (by have h := HT3b.out.size; rw [World.size_alloc] at h; exact h) (Nat.le_trans HN3.out (by omega)) hfd4)
  clear ho4 hh4 hb4 hfd4 C4
  go_wp2_with (fail)
  refine C5.out.mono ?_
  rintro e w4 ⟨v4, rfl, hd, hb, _⟩
  have HD4 := hide hd
  have HT4 := hide (HT3b.out.trans hb)
  have HN4 := hide (len_text (n := 4) (x := defB o.defn) HN3.out)
  clear hd hb C5 HT3b
  have HT4b : Hid (Below (w.heap.size + 1) (w.alloc (.cells (o.cells (.slice sA m sc)).toArray 26 (0, 0))) w4.drew) := HT4.out.trans (drew_below _ _)
  have HD4b := hide (HD4.out.later (Later.drew w4))
  clear HT4 HD4
  have HT4 := HT4b
  have HD4 := HD4b
  clear HT4b HD4b
  go_wp2
  refine wp_region_R (R := fun a c => Below (w.heap.size + 1) a c) (by kernel_rfl) ?_
  refine wpAnyR_take (pre_below (w.heap.size + 1)) (i := 0) (d := some 18) (v := ?vab0) rfl rfl (by kernel_rfl) (by kernel_rfl) (by kernel_rfl) (fun _ _ _ h => h) (by rfl) ?yab0 ?_
  case yab0 => (intro w' hw'; go_simp; try (with_reducible rfl))
  simp only [Act.put]; try simp only [List.setIfInBounds_toArray]; try simp only [List.set_cons_zero, List.set_cons_succ]
  refine wpAnyR_take (pre_below (w.heap.size + 1)) (i := 1) (d := some 19) (v := ?vab1) rfl rfl (by kernel_rfl) (by kernel_rfl) (by kernel_rfl) (fun _ _ _ h => h) (by rfl) ?yab1 ?_
  case yab1 => (intro w' hw'; go_simp; try (with_reducible rfl))
  simp only [Act.put]; try simp only [List.setIfInBounds_toArray]; try simp only [List.set_cons_zero, List.set_cons_succ]
  refine wpAnyR_take (pre_below (w.heap.size + 1)) (i := 2) (d := some 20) (v := .int .i64 o.saga) rfl rfl (by kernel_rfl) (by kernel_rfl) (by kernel_rfl) (fun _ _ _ h => h) (by rfl) ?yab2 ?_
  case yab2 => (intro w' hw'; have hx : w'.cell? ⟨w.heap.size, 5, none⟩ = some (.int .i64 o.saga) := box_at (HS.out w' (HT4.out.trans hw')) 5 _ rfl; go_simp; try (with_reducible rfl))
  simp only [Act.put]; try simp only [List.setIfInBounds_toArray]; try simp only [List.set_cons_zero, List.set_cons_succ]
  refine wpAnyR_take (pre_below (w.heap.size + 1)) (i := 4) (d := some 22) (v := ?vab4) rfl rfl (by kernel_rfl) (by kernel_rfl) (by kernel_rfl) (fun _ _ _ h => h) (by rfl) ?yab4 ?_
  case yab4 => (intro w' hw'; go_simp; try (with_reducible rfl))
  simp only [Act.put]; try simp only [List.setIfInBounds_toArray]; try simp only [List.set_cons_zero, List.set_cons_succ]
  refine wpAnyR_take (pre_below (w.heap.size + 1)) (i := 5) (d := some 23) (v := .int .i64 o.step) rfl rfl (by kernel_rfl) (by kernel_rfl) (by kernel_rfl) (fun _ _ _ h => h) (by rfl) ?yab5 ?_
  case yab5 => (intro w' hw'; have hx : w'.cell? ⟨w.heap.size, 6, none⟩ = some (.int .i64 o.step) := box_at (HS.out w' (HT4.out.trans hw')) 6 _ rfl; go_simp; try (with_reducible rfl))
  simp only [Act.put]; try simp only [List.setIfInBounds_toArray]; try simp only [List.set_cons_zero, List.set_cons_succ]
  refine wpAnyR_take (pre_below (w.heap.size + 1)) (i := 7) (d := some 25) (v := ?vab7) rfl rfl (by kernel_rfl) (by kernel_rfl) (by kernel_rfl) (fun _ _ _ h => h) (by rfl) ?yab7 ?_
  case yab7 => (intro w' hw'; go_simp; try (with_reducible rfl))
  simp only [Act.put]; try simp only [List.setIfInBounds_toArray]; try simp only [List.set_cons_zero, List.set_cons_succ]
  refine wpAnyR_take (pre_below (w.heap.size + 1)) (i := 8) (d := some 26) (v := .int .i64 o.try_) rfl rfl (by kernel_rfl) (by kernel_rfl) (by kernel_rfl) (fun _ _ _ h => h) (by rfl) ?yab8 ?_
  case yab8 => (intro w' hw'; have hx : w'.cell? ⟨w.heap.size, 7, none⟩ = some (.int .i64 o.try_) := box_at (HS.out w' (HT4.out.trans hw')) 7 _ rfl; go_simp; try (with_reducible rfl))
  simp only [Act.put]; try simp only [List.setIfInBounds_toArray]; try simp only [List.set_cons_zero, List.set_cons_succ]
  refine wpAnyR_only (i := 3) rfl (by kernel_rfl) (by rfl) fun K hK => ?_
  go_simp
  refine (dnum_any HD4.out (by have h := HT4.out.size; rw [World.size_alloc] at h; exact h) (Nat.le_trans HN4.out (by omega)) ⟨by omega, by omega⟩ HSM.out.2.2.2.2.1).mono ?_
  rintro e w5 ⟨v5, rfl, hd, hb, _⟩
  have HD5 := hide hd
  have HT5 := hide (HT4.out.trans hb)
  have HN5 := hide (len_num (n := 5) (x := o.saga) HN4.out)
  refine hK.out _ _ hb ?_
  clear hd hb
  clear hK K
  try (simp only [Act.put]; try simp only [List.setIfInBounds_toArray]; try simp only [List.set_cons_zero, List.set_cons_succ])
  refine wpAnyR_only (i := 6) rfl (by kernel_rfl) (by rfl) fun K hK => ?_
  go_simp
  refine (dnum_any HD5.out (by have h := HT5.out.size; rw [World.size_alloc] at h; exact h) (Nat.le_trans HN5.out (by omega)) ⟨by omega, by omega⟩ HSM.out.2.2.2.2.2.1).mono ?_
  rintro e w6 ⟨v6, rfl, hd, hb, _⟩
  have HD6 := hide hd
  have HT6 := hide (HT5.out.trans hb)
  have HN6 := hide (len_num (n := 6) (x := o.step) HN5.out)
  refine hK.out _ _ hb ?_
  clear hd hb
  clear hK K
  try (simp only [Act.put]; try simp only [List.setIfInBounds_toArray]; try simp only [List.set_cons_zero, List.set_cons_succ])
  refine wpAnyR_only (i := 9) rfl (by kernel_rfl) (by rfl) fun K hK => ?_
  go_simp
  refine (dnum_any HD6.out (by have h := HT6.out.size; rw [World.size_alloc] at h; exact h) (Nat.le_trans HN6.out (by omega)) ⟨by omega, by omega⟩ HSM.out.2.2.2.2.2.2).mono ?_
  rintro e w7 ⟨v7, rfl, hd, hb, _⟩
  have HD7 := hide hd
  have HT7 := hide (HT6.out.trans hb)
  have HN7 := hide (len_num (n := 7) (x := o.try_) HN6.out)
  refine hK.out _ _ hb ?_
  clear hd hb
  clear hK K
  try (simp only [Act.put]; try simp only [List.setIfInBounds_toArray]; try simp only [List.set_cons_zero, List.set_cons_succ])
  refine wpAnyR_take (pre_below (w.heap.size + 1)) (i := 10) (d := some 3) (v := ?vab10) rfl rfl (by kernel_rfl) (by kernel_rfl) (by kernel_rfl) (fun _ _ _ h => h) (by rfl) ?yab10 ?_
  case yab10 => (intro w' hw'; go_simp; try (with_reducible rfl))
  simp only [Act.put]; try simp only [List.setIfInBounds_toArray]; try simp only [List.set_cons_zero, List.set_cons_succ]
  refine wpAnyR_done (by kernel_rfl) ?_ _
  have HT7b : Hid (Below (w.heap.size + 1) (w.alloc (.cells (o.cells (.slice sA m sc)).toArray 26 (0, 0))) w7.drew) := HT7.out.trans (drew_below _ _)
  have HD7b := hide (HD7.out.later (Later.drew w7))
  clear HT7 HD7
  have HT7 := HT7b
  have HD7 := HD7b
  clear HT7b HD7b
  go_wp2
  refine wp_region_R (R := fun a c => Below (w.heap.size + 1) a c) (by kernel_rfl) ?_
  refine wpAnyR_take (pre_below (w.heap.size + 1)) (i := 0) (d := some 28) (v := ?vac0) rfl rfl (by kernel_rfl) (by kernel_rfl) (by kernel_rfl) (fun _ _ _ h => h) (by rfl) ?yac0 ?_
  case yac0 => (intro w' hw'; go_simp; try (with_reducible rfl))
  simp only [Act.put]; try simp only [List.setIfInBounds_toArray]; try simp only [List.set_cons_zero, List.set_cons_succ]
  refine wpAnyR_take (pre_below (w.heap.size + 1)) (i := 1) (d := some 29) (v := ?vac1) rfl rfl (by kernel_rfl) (by kernel_rfl) (by kernel_rfl) (fun _ _ _ h => h) (by rfl) ?yac1 ?_
  case yac1 => (intro w' hw'; go_simp; try (with_reducible rfl))
  simp only [Act.put]; try simp only [List.setIfInBounds_toArray]; try simp only [List.set_cons_zero, List.set_cons_succ]
  refine wpAnyR_take (pre_below (w.heap.size + 1)) (i := 2) (d := some 30) (v := .bool o.back) rfl rfl (by kernel_rfl) (by kernel_rfl) (by kernel_rfl) (fun _ _ _ h => h) (by rfl) ?yac2 ?_
  case yac2 => (intro w' hw'; have hx : w'.cell? ⟨w.heap.size, 8, none⟩ = some (.bool o.back) := box_at (HS.out w' (HT7.out.trans hw')) 8 _ rfl; go_simp; try (with_reducible rfl))
  simp only [Act.put]; try simp only [List.setIfInBounds_toArray]; try simp only [List.set_cons_zero, List.set_cons_succ]
  refine wpAnyR_take (pre_below (w.heap.size + 1)) (i := 4) (d := some 32) (v := ?vac4) rfl rfl (by kernel_rfl) (by kernel_rfl) (by kernel_rfl) (fun _ _ _ h => h) (by rfl) ?yac4 ?_
  case yac4 => (intro w' hw'; go_simp; try (with_reducible rfl))
  simp only [Act.put]; try simp only [List.setIfInBounds_toArray]; try simp only [List.set_cons_zero, List.set_cons_succ]
  refine wpAnyR_take (pre_below (w.heap.size + 1)) (i := 5) (d := some 33) (v := .bool o.good) rfl rfl (by kernel_rfl) (by kernel_rfl) (by kernel_rfl) (fun _ _ _ h => h) (by rfl) ?yac5 ?_
  case yac5 => (intro w' hw'; have hx : w'.cell? ⟨w.heap.size, 9, none⟩ = some (.bool o.good) := box_at (HS.out w' (HT7.out.trans hw')) 9 _ rfl; go_simp; try (with_reducible rfl))
  simp only [Act.put]; try simp only [List.setIfInBounds_toArray]; try simp only [List.set_cons_zero, List.set_cons_succ]
  refine wpAnyR_only (i := 3) rfl (by kernel_rfl) (by rfl) fun K hK => ?_
  go_simp
  refine (dyes_any HD7.out (by have h := HT7.out.size; rw [World.size_alloc] at h; exact h) (Nat.le_trans HN7.out (by omega)) ⟨by omega, by omega⟩).mono ?_
  rintro e w8 ⟨v8, rfl, hd, hb, _⟩
  have HD8 := hide hd
  have HT8 := hide (HT7.out.trans hb)
  have HN8 := hide (len_flag (n := 8) (x := o.back) HN7.out)
  refine hK.out _ _ hb ?_
  clear hd hb
  clear hK K
  try (simp only [Act.put]; try simp only [List.setIfInBounds_toArray]; try simp only [List.set_cons_zero, List.set_cons_succ])
  refine wpAnyR_only (i := 6) rfl (by kernel_rfl) (by rfl) fun K hK => ?_
  go_simp
  refine (dyes_any HD8.out (by have h := HT8.out.size; rw [World.size_alloc] at h; exact h) (Nat.le_trans HN8.out (by omega)) ⟨by omega, by omega⟩).mono ?_
  rintro e w9 ⟨v9, rfl, hd, hb, _⟩
  have HD9 := hide hd
  have HT9 := hide (HT8.out.trans hb)
  have HN9 := hide (len_flag (n := 9) (x := o.good) HN8.out)
  refine hK.out _ _ hb ?_
  clear hd hb
  clear hK K
  try (simp only [Act.put]; try simp only [List.setIfInBounds_toArray]; try simp only [List.set_cons_zero, List.set_cons_succ])
  refine wpAnyR_only (i := 7) rfl (by kernel_rfl) (by rfl) fun K hK => ?_
  go_simp
  have hall : ([] : List PF) ++ pnum 1 o.kind ++ pnum 2 o.client ++ pnum 3 o.request ++ ptext 4 (defB o.defn) ++ pnum 5 o.saga ++ pnum 6 o.step ++ pnum 7 o.try_ ++ pflag 8 o.back ++ pflag 9 o.good = opF o := by simp [opF]
  have HDZ := HD9
  rw [hall] at HDZ
  refine (dwrite_any HDZ.out HR2.out).mono ?_
  rintro e w10 ⟨A2, n2, c2, rfl, h1, h2, h3, h4⟩
  have hz9 : w.heap.size + 1 ≤ w9.heap.size := by have h := HT9.out.size; rw [World.size_alloc] at h; exact h
  have H1 := hide (own_base h1 (show w.heap.size ≤ w9.heap.size by omega))
  have H2 := hide h2
  have H3 := hide h3
  have H4 : Hid (Below w.heap.size w w10) := Below.trans HL0.out (Below.trans (Below.mono HT9.out (by omega)) (Below.mono h4 (by omega)))
  refine hK.out _ _ (Below.mono h4 hz9) ?_
  clear h1 h2 h3 h4 hall
  clear hK K
  try (simp only [Act.put]; try simp only [List.setIfInBounds_toArray]; try simp only [List.set_cons_zero, List.set_cons_succ])
  refine wpAnyR_take (pre_below (w.heap.size + 1)) (i := 8) (d := some 2) (v := ?vac8) rfl rfl (by kernel_rfl) (by kernel_rfl) (by kernel_rfl) (fun _ _ _ h => h) (by rfl) ?yac8 ?_
  case yac8 => (intro w' hw'; go_simp; try (with_reducible rfl))
  simp only [Act.put]; try simp only [List.setIfInBounds_toArray]; try simp only [List.set_cons_zero, List.set_cons_succ]
  refine wpAnyR_done (by kernel_rfl) ?_ _
  go_wp2
  go_ret
  exact ⟨A2, n2, c2, rfl, H1.out, H2.out, H3.out, H4.out⟩
end Go.Proofs.YtehiaeihkdfclaaGreatDoor
/- What is said of memory, for slices of int: a slice that holds a list of integers, nil and empty ones among them; a row of ints that the call itself made. -/
namespace Go.Proofs.YtehiaeihkdfclaaGreatDoor
open Go.RowKit

def iv (x : Int) : Value := .int .i64 x
def ivs (l : List Int) : List Value := l.map iv

theorem ivs_len (l : List Int) : (ivs l).length = l.length := by simp [ivs]
theorem ivs_append (a b : List Int) : ivs (a ++ b) = ivs a ++ ivs b := by simp [ivs]
theorem ivs_one (x : Int) : ivs [x] = [.int .i64 x] := rfl
theorem ivs_cell (l : List Int) : ∀ u ∈ ivs l, u.oneCell' = true := by
  intro u hu
  obtain ⟨_, _, rfl⟩ := List.mem_map.1 hu
  rfl
theorem ivs_get {l : List Int} {i : Nat} (h : i < l.length) : (ivs l)[i]? = some (.int .i64 (l.getD i 0)) := by
  simp [ivs, iv, h]
theorem ivs_set (l : List Int) (i : Nat) (x : Int) : ivs (l.set i x) = (ivs l).set i (.int .i64 x) := by simp [ivs, iv, List.map_set]

/-- All of them fit an int. -/
def Fit (l : List Int) : Prop := ∀ x ∈ l, -9223372036854775808 ≤ x ∧ x < 9223372036854775808
theorem Fit.get {l : List Int} (h : Fit l) (i : Nat) : -9223372036854775808 ≤ l.getD i 0 ∧ l.getD i 0 < 9223372036854775808 := by
  by_cases hi : i < l.length
  · have e : l.getD i 0 = l[i] := by simp [List.getD, hi]
    rw [e]
    exact h _ (List.getElem_mem hi)
  · have e : l.getD i 0 = 0 := by simp [List.getD, Nat.not_lt.1 hi]
    rw [e]
    decide

/-- The slice at 'A', of 'n' ints, holds the list l, in a block below B. -/
def IHolds (w : World) (B : Nat) (A : Option Addr) (n : Nat) (l : List Int) : Prop :=
  l.length = n ∧ Fit l ∧ (0 < n → ∃ b off, A = some ⟨b, off, none⟩ ∧ b < B ∧ ∀ i, i < n → w.cell? ⟨b, off + i, none⟩ = some (.int .i64 (l.getD i 0)))

section
variable {w w' : World} {B B' : Nat} {A : Option Addr} {n : Nat} {l : List Int}
theorem IHolds.nil_ (w : World) (B : Nat) : IHolds w B none 0 [] := ⟨rfl, by simp [Fit], fun h => by omega⟩
theorem IHolds.keep (h : IHolds w B A n l) (hk : ∀ p : Addr, p.block < B → w'.cell? p = w.cell? p) : IHolds w' B A n l :=
  ⟨h.1, h.2.1, fun hn => by
    obtain ⟨b, off, e, hb, hc⟩ := h.2.2 hn
    exact ⟨b, off, e, hb, fun i hi => (hk ⟨b, off + i, none⟩ hb).trans (hc i hi)⟩⟩
theorem IHolds.below (h : IHolds w B A n l) (hb : Below B w w') : IHolds w' B A n l := h.keep fun _ hp => hb.cell hp
theorem IHolds.more (h : IHolds w B A n l) (hB : B ≤ B') : IHolds w B' A n l :=
  ⟨h.1, h.2.1, fun hn => by
    obtain ⟨b, off, e, hb, hc⟩ := h.2.2 hn
    exact ⟨b, off, e, by omega, hc⟩⟩
theorem IHolds.drew (h : IHolds w B A n l) : IHolds w.drew B A n l := h
theorem IHolds.drewN (h : IHolds w B A n l) (k : Nat) : IHolds (w.drewN k) B A n l := h
/-- The cell of one of them, at an address that is there. -/
theorem IHolds.at_ (h : IHolds w B A n l) {i : Nat} (hi : i < n) : ∃ b off, A = some ⟨b, off, none⟩ ∧ b < B ∧ w.cell? ⟨b, off + i, none⟩ = some (.int .i64 (l.getD i 0)) := by
  obtain ⟨b, off, e, hb, hc⟩ := h.2.2 (by omega)
  exact ⟨b, off, e, hb, hc i hi⟩
/-- A row of the call's own is such a slice. -/
theorem IHolds.of_own {base e : Nat} {v : Value} (h : w.ownsRow base e 1 v n (ivs l)) (hs : Fit l) : ∃ A c, v = .slice A n c ∧ n ≤ c ∧ (A = none → c = 0) ∧ IHolds w w.heap.size A n l := by
  have hl : l.length = n := by have := h.1; rw [ivs_len] at this; omega
  rcases h.2 with ⟨rfl, rfl⟩ | ⟨g, cap, cur, rfl, _, hg, hnc, _, _, _⟩
  · exact ⟨none, 0, rfl, Nat.le_refl _, fun _ => rfl, hl, hs, fun h => by omega⟩
  · refine ⟨some ⟨g, 0, none⟩, cap, rfl, hnc, (fun h => by cases h), hl, hs, fun hn => ⟨g, 0, rfl, ?_, fun i hi => ?_⟩⟩
    · exact (Array.getElem?_eq_some_iff.1 hg).1
    · have := h.cellAt i (by omega)
      rw [Nat.zero_add, this, ivs_get (by omega)]
end

/-- What a call hands back that makes ints: a slice of the call's own, that holds l; nothing that was there has turned. -/
def NewInts (w : World) (l : List Int) (e : Ending) (w' : World) : Prop :=
  ∃ A n c, e = .returned (.slice A n c) ∧ w'.ownsRow w.heap.size 3 1 (.slice A n c) n (ivs l) ∧ IHolds w' w'.heap.size A n l ∧ n ≤ c ∧ Below w.heap.size w w'

theorem Tryz.infoI64 : (Tryz.prog.info? 3).map (fun i => (i.zero, i.size, i.bytes)) = some (some (.int .i64 0), 1, 8) := by kernel_rfl

section
variable {P : Program} (w : World)
/-- 'append(row, l...)', the row the call's own, l whatever slice of ints. -/
theorem run_append_ints (base : Nat) (t ty e : TypeId) (i : TypeInfo) (z : Value) (ht : P.underlying t = some (.slice e)) (hi : P.info? e = some i) (hz : i.zero = some z)
    (hsize : i.size = 1) (hby : i.bytes = 8) (hzs : z.cells.size = 1)
    (v : Value) (n : Nat) (xs : List Value) (hown : w.ownsRow base e 1 v n xs)
    (B : Nat) (A : Option Addr) (m c : Nat) (l : List Int) (hl : IHolds w B A m l) (hroom : n + m ≤ 8796093022208) (hbase : base ≤ w.heap.size) :
    ∃ v' w', (Builtin.append_ #[t, t] ty #[v, .slice A m c]).run P w = .ok v' w' ∧ w'.ownsRow base e 1 v' (n + m) (xs ++ ivs l) ∧ Went w v.ownBlock w' v'.ownBlock := by
  have hlen := hl.1
  rcases A with _ | ad
  · have hm : m = 0 := by
      rcases Nat.eq_zero_or_pos m with h | h
      · exact h
      · obtain ⟨_, _, h, _⟩ := hl.2.2 h
        cases h
    subst hm
    have : l = [] := List.eq_nil_of_length_eq_zero hlen
    subst this
    refine ⟨v, w, ?_, by simpa [ivs] using hown, Went.refl w _⟩
    rcases hown.2 with ⟨rfl, rfl⟩ | ⟨g, cap, cur, rfl, _, _, hnc, _⟩
    · simp [Builtin.append_, run_underlying ht, sizeOf, typeInfo, hi, Builtin.lenOf, Builtin.firstCells]
    · simp [Builtin.append_, run_underlying ht, sizeOf, typeInfo, hi, Builtin.lenOf, Builtin.firstCells, hnc, storeCells]
  · obtain ⟨v', w', h1, h2, h3, _, h5⟩ := run_append_own_at (P := P) w base t ty e i z 1 8 ht hi hz hsize hby hzs (by omega) v n xs hown ad m c (ivs l) (by rw [ivs_len, hlen, Nat.mul_one])
      (fun j u hu => by
        have hj : j < l.length := by
          have := (List.getElem?_eq_some_iff.1 hu).1
          rwa [ivs_len] at this
        obtain ⟨b, off, h, _, hc⟩ := hl.2.2 (by omega)
        obtain rfl := Option.some.inj h
        rw [ivs_get hj] at hu
        rw [Addr.add_lit, hc j (by omega)]
        exact hu) (ivs_cell _) (by simp only [maxLen]; omega) (by omega) hbase
    exact ⟨v', w', h1, h2, .of_at h3 h5⟩

theorem wpList_append_ints {ops : Array Oper} {rest : List Oper} {o : Oper} {a : Act} {Q : Exit → Act → World → Prop} (hgd : o.guard = none) (s x : Operand) (t : TypeId)
    (ho : o.op = .call { callee := .builtin .append, args := #[s, x], argTypes := #[t, t] })
    (base : Nat) (e : TypeId) (i : TypeInfo) (z : Value) (ht : P.underlying t = some (.slice e)) (hi : P.info? e = some i) (hz : i.zero = some z)
    (hsize : i.size = 1) (hby : i.bytes = 8) (hzs : z.cells.size = 1)
    (v : Value) (n : Nat) (xs : List Value) (hs : a.eval s = v) (hown : w.ownsRow base e 1 v n xs)
    (B : Nat) (A : Option Addr) (m c : Nat) (l : List Int) (hx : a.eval x = .slice A m c) (hl : IHolds w B A m l) (hroom : n + m ≤ 8796093022208) (hbase : base ≤ w.heap.size)
    (h : ∀ v' w', w'.ownsRow base e 1 v' (n + m) (xs ++ ivs l) → Went w v.ownBlock w' v'.ownBlock → wpList P ops Q rest (a.put o.dst v') w') : wpList P ops Q (o :: rest) a w := by
  refine wpList_plain hgd fun K hK => ?_
  obtain ⟨v', w', hr, h2, h3⟩ := run_append_ints (P := P) w base t o.type e i z ht hi hz hsize hby hzs v n xs hown B A m c l hl hroom hbase
  unfold Oper.wp execOp
  simp only [ho, resolve, invoke, builtin, Sem.run_bind, Sem.run_pure, Result.andThen_ok, List.map_toArray, List.map_cons, List.map_nil, hs, hx, hr]
  exact hK _ _ (h v' w' h2 h3)
end

/-- A row of ints of the call's own: where it lies, its cells, a cell that is written. -/
theorem iown_at {w : World} {base e n : Nat} {v : Value} {xs : List Value} (h : w.ownsRow base e 1 v n xs) (hn : 0 < n) : ∃ g c, v = .slice (some ⟨g, 0, none⟩) n c ∧ base ≤ g ∧ g < w.heap.size ∧ n ≤ c ∧ c ≤ maxLen := by
  rcases h.2 with ⟨_, h0⟩ | ⟨g, cap, cur, hv, hb, hg, hnc, hm, _⟩
  · omega
  · exact ⟨g, cap, hv, hb, lt_of_block hg, hnc, hm⟩
theorem iown_cell {w : World} {base e g n c : Nat} {l : List Int} (h : w.ownsRow base e 1 (.slice (some ⟨g, 0, none⟩) n c) n (ivs l)) {i : Nat} (hi : i < n) : w.cell? ⟨g, i, none⟩ = some (.int .i64 (l.getD i 0)) := by
  have hl : l.length = n := by have := h.1; rw [ivs_len] at this; omega
  have h1 := h.cellAt i (by omega)
  rw [h1, ivs_get (by omega)]
theorem iown_free {w : World} {base e g n c : Nat} {xs : List Value} (h : w.ownsRow base e 1 (.slice (some ⟨g, 0, none⟩) n c) n xs) (i : Nat) : w.frozen? ⟨g, i, none⟩ = false := by
  rcases h.2 with ⟨h0, _⟩ | ⟨g', cap, cur, hv, hb, hg, _⟩
  · cases h0
  · simp only [Value.slice.injEq, Option.some.injEq, Addr.mk.injEq, and_true, true_and] at hv
    obtain ⟨rfl, _⟩ := hv
    simp [World.frozen?, hg]
theorem iown_set {w : World} {base e g n c : Nat} {l : List Int} (h : w.ownsRow base e 1 (.slice (some ⟨g, 0, none⟩) n c) n (ivs l)) (i : Nat) (x : Int) :
    (w.setCell ⟨g, i, none⟩ (.int .i64 x)).ownsRow base e 1 (.slice (some ⟨g, 0, none⟩) n c) n (ivs (l.set i x)) ∧ w.grownBy (w.setCell ⟨g, i, none⟩ (.int .i64 x)) (some g) := by
  have h1 := h.stored i (.int .i64 x)
  rw [ivs_set]
  exact h1
theorem own_whole {w : World} {base e g n : Nat} {xs : List Value} (h : w.ownsRow base e 1 (.slice (some ⟨g, 0, none⟩) n n) n xs) : w.heap[g]? = some (.cells xs.toArray e (0, 0)) := by
  rcases h.2 with ⟨h0, _⟩ | ⟨g', cap, cur, hv, _, hg, _, _, hs, ht⟩
  · cases h0
  · simp only [Value.slice.injEq, Option.some.injEq, Addr.mk.injEq, and_true, true_and] at hv
    obtain ⟨rfl, rfl⟩ := hv
    rw [Nat.mul_one] at hs ht
    rw [List.take_of_length_le (by simp [hs])] at ht
    rw [hg, ← ht]
theorem own_of_whole {w : World} {base e g n : Nat} {xs : List Value} (h : w.heap[g]? = some (.cells xs.toArray e (0, 0))) (hl : xs.length = n) (hb : base ≤ g) (hn : n ≤ maxLen) : w.ownsRow base e 1 (.slice (some ⟨g, 0, none⟩) n n) n xs :=
  ⟨by omega, .inr ⟨g, n, xs.toArray, rfl, hb, h, Nat.le_refl _, hn, by simp [hl], by rw [Nat.mul_one]; simp [← hl]⟩⟩
theorem splice_all {cur cs : List Value} (h : cur.length = cs.length) : splice cur 0 cs = cs := by simp [splice, ← h]

/-- 'copy(row, l)', the row made of the same length. -/
theorem wpList_copy_ints {w : World} {ops : Array Oper} {rest : List Oper} {o : Oper} {a : Act} {Q : Exit → Act → World → Prop} (hgd : o.guard = none) (d s : Operand)
    (ho : o.op = .call { callee := .builtin .copy, args := #[d, s], argTypes := #[33, 33] })
    (base g n : Nat) (A : Option Addr) (cap B : Nat) (l : List Int) (xs : List Value) (hd : a.eval d = .slice (some ⟨g, 0, none⟩) n n) (hs : a.eval s = .slice A n cap)
    (hown : w.ownsRow base 3 1 (.slice (some ⟨g, 0, none⟩) n n) n xs) (hl : IHolds w B A n l) (hg : base ≤ g) (hn : n ≤ maxLen)
    (h : ∀ w', Hid (w'.ownsRow base 3 1 (.slice (some ⟨g, 0, none⟩) n n) n (ivs l)) → Hid (Below base w w') → wpList Tryz.prog ops Q rest (a.put o.dst (goInt n)) w') : wpList Tryz.prog ops Q (o :: rest) a w := by
  obtain ⟨i0, hi, hz0, hz1, hz2⟩ := info_parts Tryz.infoI64
  have hsz : (Tryz.prog.info? 3).map (·.size) = some 1 := by rw [hi, ← hz1]; rfl
  have hlen : (ivs l).length = n := by rw [ivs_len, hl.1]
  have hxs : xs.length = n := by have := hown.1; omega
  refine wpList_copy_splice hgd d s 33 33 ho 3 Tryz.underlying33 hsz (some ⟨g, 0, none⟩) A n n n cap hd hs g 0 xs 3 (own_whole hown) (ivs l) (by rw [hlen]; simp) (fun h0 => ?_) (by omega) (ivs_cell _) base w (Below.refl _ _) hg (fun w' h1 h2 => ?_)
  · rw [hlen] at h0
    obtain ⟨b, off, e1, _, hc⟩ := hl.2.2 h0
    refine ⟨rfl, _, e1, fun j u hu => ?_⟩
    have hj : j < l.length := by
      have := (List.getElem?_eq_some_iff.1 hu).1
      rwa [ivs_len] at this
    rw [ivs_get hj] at hu
    rw [Addr.add_lit, ← hu]
    exact hc j (by have := hl.1; omega)
  · rw [hlen]
    refine h w' ?_ h2
    have h3 := h1.out
    rw [splice_all (by omega)] at h3
    exact own_of_whole h3 hlen hg hn
end Go.Proofs.YtehiaeihkdfclaaGreatDoor
/- The walk over droverref09.inner. -/
namespace Go.Proofs.YtehiaeihkdfclaaGreatDoor
open Go.RowKit

/-- The first nine numbers of a message. -/
def kl (m : MsgD) : List Int := [m.kind, m.src, m.dst, m.view, m.last, m.num, m.commit, m.nonce, m.request]
def nup (m : MsgD) (q : Nat) : List PF := (List.range q).flatMap fun (i : Nat) => pnum ((i : Int) + 1) ((kl m).getD i 0)
theorem nup_succ (m : MsgD) (q : Nat) : nup m (q + 1) = nup m q ++ pnum ((q : Int) + 1) ((kl m).getD q 0) := by simp [nup, List.range_succ]
theorem nup_all (m : MsgD) : nup m 9 = pnum 1 m.kind ++ pnum 2 m.src ++ pnum 3 m.dst ++ pnum 4 m.view ++ pnum 5 m.last ++ pnum 6 m.num ++ pnum 7 m.commit ++ pnum 8 m.nonce ++ pnum 9 m.request := by
  simp only [nup_succ]
  rfl
theorem nup_len (m : MsgD) : ∀ q, (nup m q).length ≤ q
  | 0 => by simp [nup]
  | q + 1 => by rw [nup_succ]; exact len_num (nup_len m q)
theorem kl_fit {m : MsgD} (h : m.wf) {q : Nat} (hq : q < 9) : I64 ((kl m).getD q 0) := by
  obtain ⟨h0, h1, h2, h3, h4, h5, h6, h7, h8, _⟩ := h
  match q, hq with
  | 0, _ => exact h0
  | 1, _ => exact h1
  | 2, _ => exact h2
  | 3, _ => exact h3
  | 4, _ => exact h4
  | 5, _ => exact h5
  | 6, _ => exact h6
  | 7, _ => exact h7
  | 8, _ => exact h8
theorem inn_reply_room (m : MsgD) : proom (replyF m) ≤ 80 := by
  have h1 := proom_num 1 m.rerr
  have h2 := proom_num 2 m.rsaga
  have h3 := proom_num 3 m.rstate
  have h4 := proom_num 4 m.rstep
  have hz : proom [] = 0 := rfl
  simp only [replyF, List.flatten_cons, List.flatten_nil, proom_append, hz]
  omega
theorem inn_cmd_room (m : MsgD) : proom (cmdF m) ≤ 120 := by
  have h1 := proom_num 1 m.cview
  have h2 := proom_num 2 m.cstub
  have h3 := proom_num 3 m.csaga
  have h4 := proom_num 4 m.cstep
  have h5 := proom_num 5 m.ctry
  have h6 := proom_flag 6 m.cback
  have hz : proom [] = 0 := rfl
  simp only [cmdF, List.flatten_cons, List.flatten_nil, proom_append, hz]
  omega
theorem inn_op_room {x : OpD} (h : x.sm 16) : proom (opF x) ≤ 3000 := by have := opF_room h; omega
theorem inn_def_room {x : OpD} (h : x.sm 16) : proom (defF x.defn) ≤ 3000 := by have := defF_room h.2.2.2.1; omega
theorem inn_nup_room (m : MsgD) : ∀ q, proom (nup m q) ≤ 20 * q
  | 0 => by simp [nup, proom]
  | q + 1 => by
    have h := inn_nup_room m q
    have h2 := proom_num ((q : Int) + 1) ((kl m).getD q 0)
    rw [nup_succ, proom_append]
    omega
theorem inn_msg_split (m : MsgD) : msgF m = nup m 9 ++ pflag 10 m.lead ++ pflag 11 m.good ++ pflag 12 m.fenced ++ ptext 13 (opB m.op) ++ ptext 14 (replyB m) ++ ptext 15 (cmdB m) ++ (m.ops.map fun x => prow 16 (opB x)) ++ m.incs.map fun x => pint 17 x := by
  rw [nup_all]
  simp [msgF]
theorem inn_msg_room {m : MsgD} (hsm : m.op.sm 16) (hsms : ∀ x ∈ m.ops, x.sm 16) (hno : m.ops.length ≤ 200) (hni : m.incs.length ≤ 200) : proom (msgF m) ≤ 10000000 := by
  have h0 := inn_nup_room m 9
  have h1 := proom_flag 10 m.lead
  have h2 := proom_flag 11 m.good
  have h3 := proom_flag 12 m.fenced
  have h4 := proom_text 13 (opB m.op)
  have h5 := proom_text 14 (replyB m)
  have h6 := proom_text 15 (cmdB m)
  have l4 := Nat.le_trans (prec_len (opF m.op)) (inn_op_room hsm)
  have l5 := Nat.le_trans (prec_len (replyF m)) (inn_reply_room m)
  have l6 := Nat.le_trans (prec_len (cmdF m)) (inn_cmd_room m)
  have h7 := proom_map (fun x => prow 16 (opB x)) 3000 m.ops fun x hx => Nat.le_trans (prec_len (opF x)) (inn_op_room (hsms x hx))
  have h8 := proom_map (fun x => pint 17 x) 0 m.incs fun x _ => Nat.le_refl _
  have h9 : m.ops.length * (20 + 3000) ≤ 200 * (20 + 3000) := Nat.mul_le_mul_right _ hno
  rw [inn_msg_split]
  simp only [proom_append]
  rw [show opB m.op = prec (opF m.op) from rfl] at h4 ⊢
  rw [show replyB m = prec (replyF m) from rfl] at h5 ⊢
  rw [show cmdB m = prec (cmdF m) from rfl] at h6 ⊢
  generalize proom (nup m 9) = y0 at h0 ⊢
  generalize proom (pflag 10 m.lead) = y1 at h1 ⊢
  generalize proom (pflag 11 m.good) = y2 at h2 ⊢
  generalize proom (pflag 12 m.fenced) = y3 at h3 ⊢
  generalize proom (ptext 13 (prec (opF m.op))) = y4 at h4 ⊢
  generalize proom (ptext 14 (prec (replyF m))) = y5 at h5 ⊢
  generalize proom (ptext 15 (prec (cmdF m))) = y6 at h6 ⊢
  generalize proom (m.ops.map fun x => prow 16 (opB x)) = y7 at h7 ⊢
  generalize proom (m.incs.map fun x => pint 17 x) = y8 at h8 ⊢
  omega

set_option maxHeartbeats 8000000 in
set_option maxRecDepth 100000 in
theorem rinner_any {F : Nat → Prop} {w : World} {m : MsgD} {s o i : Value} (hL : Lists F w m s o i) (hwf : m.wf) (hsm : m.op.sm 16) (hsms : ∀ x ∈ m.ops, x.sm 16) (hno : m.ops.length ≤ 200) (hni : m.incs.length ≤ 200) :
    Calls Tryz.prog 28 #[.agg (m.cells s o i).toArray] w (NewBytes w (msgB m)) := by
  have HROOM := hide (inn_msg_room hsm hsms hno hni)
  obtain ⟨s1, s2, s3⟩ := hL.cell
  obtain ⟨sA, sc, rfl, hsl, _, _⟩ := FlatAt.shape hL.1
  obtain ⟨ps, hps, hops⟩ := hL.2.1
  have hpn : ps.length = m.ops.length := by rw [← hps]; simp
  obtain ⟨oA, oc, rfl, _, _, _⟩ := FlatAt.shape hops.1
  obtain ⟨iA, ic, rfl, _, _, _⟩ := FlatAt.shape hL.2.2
  have hst0 := hL.1
  have hin0 := hL.2.2
  have HPS := hide hps
  have HPN := hide hpn
  have HWF := hide hwf
  have HSM := hide hsm
  have HSMS := hide hsms
  have HNO := hide hno
  have HNI := hide hni
  obtain ⟨n2, hn2⟩ : ∃ n, ps.length = n := ⟨_, rfl⟩
  have HN2 := hide hn2
  have hn200 : n2 ≤ 200 := by omega
  obtain ⟨n3, hn3⟩ : ∃ n, m.incs.length = n := ⟨_, rfl⟩
  have HN3 := hide hn3
  have hi200 : n3 ≤ 200 := by omega
  obtain ⟨n1, hn1⟩ : ∃ n, m.op.steps.length = n := ⟨_, rfl⟩
  have HN1 := hide hn1
  have hs16 : n1 ≤ 16 := by have := hsm.2.2.2.1.2.1; show _ ≤ _; rw [← hn1]; exact this
  rw [hn2] at hops
  rw [hn3] at hin0
  rw [hn1] at hst0
  have HST := hide hst0
  have HOP := hide hops
  have HIN := hide hin0
  clear hL hst0 hin0 hwf hsm hsms hno hni s1 s2 s3 hsl hps hpn hn2 hn3 hn1 hops
  rw [HN1.out, HN2.out, HN3.out]
  have HX1 : Hid (((w.alloc (.cells (m.cells (.slice sA n1 sc) (.slice oA n2 oc) (.slice iA n3 ic)).toArray 35 (0, 0))).alloc (.cells (ivs (kl m)).toArray 3 (0, 0))).heap[w.heap.size]? = some (.cells (m.cells (.slice sA n1 sc) (.slice oA n2 oc) (.slice iA n3 ic)).toArray 35 (0, 0))) := heap_alloc2_old w _ _
  have HX2 : Hid (((w.alloc (.cells (m.cells (.slice sA n1 sc) (.slice oA n2 oc) (.slice iA n3 ic)).toArray 35 (0, 0))).alloc (.cells (ivs (kl m)).toArray 3 (0, 0))).heap[w.heap.size + 1]? = some (.cells (ivs (kl m)).toArray 3 (0, 0))) := heap_alloc2_new w _ _
  have HLW2 : Hid (Later w ((w.alloc (.cells (m.cells (.slice sA n1 sc) (.slice oA n2 oc) (.slice iA n3 ic)).toArray 35 (0, 0))).alloc (.cells (ivs (kl m)).toArray 3 (0, 0)))) := ((Below.refl _ _).alloc (Nat.le_refl _) _).alloc (by simp) _
  have HSZ : Hid (∀ w', Below (w.heap.size + 2) ((w.alloc (.cells (m.cells (.slice sA n1 sc) (.slice oA n2 oc) (.slice iA n3 ic)).toArray 35 (0, 0))).alloc (.cells (ivs (kl m)).toArray 3 (0, 0))) w' → (w.heap.size + 2) ≤ w'.heap.size) := fun w' h => by have h2 := h.size; simp only [World.size_alloc] at h2; omega
  have HS : Hid (∀ w', Below (w.heap.size + 2) ((w.alloc (.cells (m.cells (.slice sA n1 sc) (.slice oA n2 oc) (.slice iA n3 ic)).toArray 35 (0, 0))).alloc (.cells (ivs (kl m)).toArray 3 (0, 0))) w' → w'.heap[w.heap.size]? = some (.cells (m.cells (.slice sA n1 sc) (.slice oA n2 oc) (.slice iA n3 ic)).toArray 35 (0, 0))) := fun w' h => (h.block w.heap.size (by omega)).trans HX1.out
  have HSL : Hid (∀ w', Below (w.heap.size + 2) ((w.alloc (.cells (m.cells (.slice sA n1 sc) (.slice oA n2 oc) (.slice iA n3 ic)).toArray 35 (0, 0))).alloc (.cells (ivs (kl m)).toArray 3 (0, 0))) w' → w'.heap[w.heap.size + 1]? = some (.cells (ivs (kl m)).toArray 3 (0, 0))) := fun w' h => (h.block (w.heap.size + 1) (by omega)).trans HX2.out
  have HLW : Hid (∀ w', Below (w.heap.size + 2) ((w.alloc (.cells (m.cells (.slice sA n1 sc) (.slice oA n2 oc) (.slice iA n3 ic)).toArray 35 (0, 0))).alloc (.cells (ivs (kl m)).toArray 3 (0, 0))) w' → Later w w') := fun w' h => Below.trans HLW2.out (Below.mono h (by omega))
  have HT : Hid (Below (w.heap.size + 2) ((w.alloc (.cells (m.cells (.slice sA n1 sc) (.slice oA n2 oc) (.slice iA n3 ic)).toArray 35 (0, 0))).alloc (.cells (ivs (kl m)).toArray 3 (0, 0))) ((w.alloc (.cells (m.cells (.slice sA n1 sc) (.slice oA n2 oc) (.slice iA n3 ic)).toArray 35 (0, 0))).alloc (.cells (ivs (kl m)).toArray 3 (0, 0)))) := Below.refl _ _
  have c0 : (w.alloc (.cells (m.cells (.slice sA n1 sc) (.slice oA n2 oc) (.slice iA n3 ic)).toArray 35 (0, 0))).cell? ⟨w.heap.size, 0, none⟩ = some (.int .i64 m.kind) := box_at (heap_alloc_new _ _) 0 _ rfl
  have c1 : (w.alloc (.cells (m.cells (.slice sA n1 sc) (.slice oA n2 oc) (.slice iA n3 ic)).toArray 35 (0, 0))).cell? ⟨w.heap.size, 1, none⟩ = some (.int .i64 m.src) := box_at (heap_alloc_new _ _) 1 _ rfl
  have c2 : (w.alloc (.cells (m.cells (.slice sA n1 sc) (.slice oA n2 oc) (.slice iA n3 ic)).toArray 35 (0, 0))).cell? ⟨w.heap.size, 2, none⟩ = some (.int .i64 m.dst) := box_at (heap_alloc_new _ _) 2 _ rfl
  have c3 : (w.alloc (.cells (m.cells (.slice sA n1 sc) (.slice oA n2 oc) (.slice iA n3 ic)).toArray 35 (0, 0))).cell? ⟨w.heap.size, 3, none⟩ = some (.int .i64 m.view) := box_at (heap_alloc_new _ _) 3 _ rfl
  have c4 : (w.alloc (.cells (m.cells (.slice sA n1 sc) (.slice oA n2 oc) (.slice iA n3 ic)).toArray 35 (0, 0))).cell? ⟨w.heap.size, 4, none⟩ = some (.int .i64 m.last) := box_at (heap_alloc_new _ _) 4 _ rfl
  have c5 : (w.alloc (.cells (m.cells (.slice sA n1 sc) (.slice oA n2 oc) (.slice iA n3 ic)).toArray 35 (0, 0))).cell? ⟨w.heap.size, 5, none⟩ = some (.int .i64 m.num) := box_at (heap_alloc_new _ _) 5 _ rfl
  have c6 : (w.alloc (.cells (m.cells (.slice sA n1 sc) (.slice oA n2 oc) (.slice iA n3 ic)).toArray 35 (0, 0))).cell? ⟨w.heap.size, 6, none⟩ = some (.int .i64 m.commit) := box_at (heap_alloc_new _ _) 6 _ rfl
  have c7 : (w.alloc (.cells (m.cells (.slice sA n1 sc) (.slice oA n2 oc) (.slice iA n3 ic)).toArray 35 (0, 0))).cell? ⟨w.heap.size, 7, none⟩ = some (.int .i64 m.nonce) := box_at (heap_alloc_new _ _) 7 _ rfl
  have c8 : (w.alloc (.cells (m.cells (.slice sA n1 sc) (.slice oA n2 oc) (.slice iA n3 ic)).toArray 35 (0, 0))).cell? ⟨w.heap.size, 8, none⟩ = some (.int .i64 m.request) := box_at (heap_alloc_new _ _) 8 _ rfl
  go_enter Tryz.func28, Tryz.ntmps28
  go_wp2
  clear c0 c1 c2 c3 c4 c5 c6 c7 c8
  go_loopw [3, 33] (fun lv j wr => ∃ q : Nat, q ≤ 9 ∧ j = .int .i64 (q : Int) ∧ DR wr (w.heap.size + 2) lv (nup m q) ∧ Below (w.heap.size + 2) ((w.alloc (.cells (m.cells (.slice sA n1 sc) (.slice oA n2 oc) (.slice iA n3 ic)).toArray 35 (0, 0))).alloc (.cells (ivs (kl m)).toArray 3 (0, 0))) wr) (fun _ j _ => 9 - (Go.RowKit.intOf j).toNat)
  case atStart => exact ⟨0, by omega, rfl, DR.nil _ _, HT.out⟩
  case round =>
    obtain ⟨q, hq, rfl, hdr, hbw⟩ := hrel
    have HD0 := hide hdr
    have HB := hide hbw
    clear hdr hbw
    by_cases hlt : q < 9
    · have hx : wr.cell? ⟨w.heap.size + 1, q, none⟩ = some (.int .i64 ((kl m).getD q 0)) := box_at (HSL.out _ HB.out) q _ (by match q, hlt with | 0, _ => rfl | 1, _ => rfl | 2, _ => rfl | 3, _ => rfl | 4, _ => rfl | 5, _ => rfl | 6, _ => rfl | 7, _ => rfl | 8, _ => rfl)
      have HF := hide (kl_fit HWF.out hlt)
      have HE := hide (nup_succ m q)
      obtain ⟨x, hx2⟩ : ∃ x, (kl m).getD q 0 = x := ⟨_, rfl⟩
      rw [hx2] at hx HF HE
      have C := hide (dnum_any (n := (q : Int) + 1) HD0.out (HSZ.out _ HB.out) (Nat.le_trans (nup_len m q) (by omega)) ⟨by omega, by omega⟩ HF.out)
      clear hx2
      go_wp2_with (fail)
      refine C.out.mono ?_
      rintro e w1 ⟨v1, rfl, hd, hb, _⟩
      have HD1 := hide hd
      have HB1 := hide (HB.out.trans hb)
      clear hd hb C
      go_wp2
      go_roundw
      case rel => exact ⟨q + 1, by omega, by go_num, by rw [HE.out]; exact HD1.out, HB1.out⟩
      case measure => simp [Go.RowKit.intOf]; omega
    · obtain rfl : q = 9 := by omega
      have HN0 := hide (nup_len m 9)
      obtain ⟨p9, hp9⟩ : ∃ p9, nup m 9 = p9 := ⟨_, rfl⟩
      rw [hp9] at HD0 HN0
      have HP9 := hide hp9
      clear hp9
      have HTa0 : Hid (Below (w.heap.size + 2) ((w.alloc (.cells (m.cells (.slice sA n1 sc) (.slice oA n2 oc) (.slice iA n3 ic)).toArray 35 (0, 0))).alloc (.cells (ivs (kl m)).toArray 3 (0, 0))) wr.drew) := HB.out.trans (drew_below _ _)
      have HDa0 := hide (HD0.out.later (Later.drew wr))
      have HNa0 := HN0
      clear HD0 HN0
      go_wp2
      refine wp_region_R (R := fun a c => Below (w.heap.size + 2) a c) (by kernel_rfl) ?_
      refine wpAnyR_take (pre_below (w.heap.size + 2)) (i := 0) (d := some 44) (v := ?vaa0) rfl rfl (by kernel_rfl) (by kernel_rfl) (by kernel_rfl) (fun _ _ _ h => h) (by rfl) ?yaa0 ?_
      case yaa0 => (intro w' hw'; go_simp; try (with_reducible rfl))
      simp only [Act.put]; try simp only [List.setIfInBounds_toArray]; try simp only [List.set_cons_zero, List.set_cons_succ]
      refine wpAnyR_take (pre_below (w.heap.size + 2)) (i := 1) (d := some 45) (v := ?vaa1) rfl rfl (by kernel_rfl) (by kernel_rfl) (by kernel_rfl) (fun _ _ _ h => h) (by rfl) ?yaa1 ?_
      case yaa1 => (intro w' hw'; go_simp; try (with_reducible rfl))
      simp only [Act.put]; try simp only [List.setIfInBounds_toArray]; try simp only [List.set_cons_zero, List.set_cons_succ]
      refine wpAnyR_take (pre_below (w.heap.size + 2)) (i := 2) (d := some 46) (v := .bool m.lead) rfl rfl (by kernel_rfl) (by kernel_rfl) (by kernel_rfl) (fun _ _ _ h => h) (by rfl) ?yaa2 ?_
      case yaa2 => (intro w' hw'; have hx : w'.cell? ⟨w.heap.size, 9, none⟩ = some (.bool m.lead) := box_at (HS.out w' (HTa0.out.trans hw')) 9 _ rfl; go_simp; try (with_reducible rfl))
      simp only [Act.put]; try simp only [List.setIfInBounds_toArray]; try simp only [List.set_cons_zero, List.set_cons_succ]
      refine wpAnyR_take (pre_below (w.heap.size + 2)) (i := 4) (d := some 48) (v := ?vaa4) rfl rfl (by kernel_rfl) (by kernel_rfl) (by kernel_rfl) (fun _ _ _ h => h) (by rfl) ?yaa4 ?_
      case yaa4 => (intro w' hw'; go_simp; try (with_reducible rfl))
      simp only [Act.put]; try simp only [List.setIfInBounds_toArray]; try simp only [List.set_cons_zero, List.set_cons_succ]
      refine wpAnyR_take (pre_below (w.heap.size + 2)) (i := 5) (d := some 49) (v := .bool m.good) rfl rfl (by kernel_rfl) (by kernel_rfl) (by kernel_rfl) (fun _ _ _ h => h) (by rfl) ?yaa5 ?_
      case yaa5 => (intro w' hw'; have hx : w'.cell? ⟨w.heap.size, 10, none⟩ = some (.bool m.good) := box_at (HS.out w' (HTa0.out.trans hw')) 10 _ rfl; go_simp; try (with_reducible rfl))
      simp only [Act.put]; try simp only [List.setIfInBounds_toArray]; try simp only [List.set_cons_zero, List.set_cons_succ]
      refine wpAnyR_take (pre_below (w.heap.size + 2)) (i := 7) (d := some 51) (v := ?vaa7) rfl rfl (by kernel_rfl) (by kernel_rfl) (by kernel_rfl) (fun _ _ _ h => h) (by rfl) ?yaa7 ?_
      case yaa7 => (intro w' hw'; go_simp; try (with_reducible rfl))
      simp only [Act.put]; try simp only [List.setIfInBounds_toArray]; try simp only [List.set_cons_zero, List.set_cons_succ]
      refine wpAnyR_take (pre_below (w.heap.size + 2)) (i := 8) (d := some 52) (v := .bool m.fenced) rfl rfl (by kernel_rfl) (by kernel_rfl) (by kernel_rfl) (fun _ _ _ h => h) (by rfl) ?yaa8 ?_
      case yaa8 => (intro w' hw'; have hx : w'.cell? ⟨w.heap.size, 11, none⟩ = some (.bool m.fenced) := box_at (HS.out w' (HTa0.out.trans hw')) 11 _ rfl; go_simp; try (with_reducible rfl))
      simp only [Act.put]; try simp only [List.setIfInBounds_toArray]; try simp only [List.set_cons_zero, List.set_cons_succ]
      refine wpAnyR_only (i := 3) rfl (by kernel_rfl) (by rfl) fun K hK => ?_
      go_simp
      refine (dyes_any HDa0.out (HSZ.out _ HTa0.out) (Nat.le_trans HNa0.out (by omega)) ⟨by omega, by omega⟩).mono ?_
      rintro e wa1 ⟨vwa1, rfl, hd, hb, _⟩
      have HDa1 := hide hd
      have HTa1 := hide (HTa0.out.trans hb)
      have HNa1 := hide (len_flag (n := 10) (x := m.lead) HNa0.out)
      refine hK.out _ _ hb ?_
      clear hd hb
      clear hK K
      try (simp only [Act.put]; try simp only [List.setIfInBounds_toArray]; try simp only [List.set_cons_zero, List.set_cons_succ])
      refine wpAnyR_only (i := 6) rfl (by kernel_rfl) (by rfl) fun K hK => ?_
      go_simp
      refine (dyes_any HDa1.out (HSZ.out _ HTa1.out) (Nat.le_trans HNa1.out (by omega)) ⟨by omega, by omega⟩).mono ?_
      rintro e wa2 ⟨vwa2, rfl, hd, hb, _⟩
      have HDa2 := hide hd
      have HTa2 := hide (HTa1.out.trans hb)
      have HNa2 := hide (len_flag (n := 11) (x := m.good) HNa1.out)
      refine hK.out _ _ hb ?_
      clear hd hb
      clear hK K
      try (simp only [Act.put]; try simp only [List.setIfInBounds_toArray]; try simp only [List.set_cons_zero, List.set_cons_succ])
      refine wpAnyR_only (i := 9) rfl (by kernel_rfl) (by rfl) fun K hK => ?_
      go_simp
      refine (dyes_any HDa2.out (HSZ.out _ HTa2.out) (Nat.le_trans HNa2.out (by omega)) ⟨by omega, by omega⟩).mono ?_
      rintro e wa3 ⟨vwa3, rfl, hd, hb, _⟩
      have HDa3 := hide hd
      have HTa3 := hide (HTa2.out.trans hb)
      have HNa3 := hide (len_flag (n := 12) (x := m.fenced) HNa2.out)
      refine hK.out _ _ hb ?_
      clear hd hb
      clear hK K
      try (simp only [Act.put]; try simp only [List.setIfInBounds_toArray]; try simp only [List.set_cons_zero, List.set_cons_succ])
      refine wpAnyR_take (pre_below (w.heap.size + 2)) (i := 10) (d := some 3) (v := ?vaa10) rfl rfl (by kernel_rfl) (by kernel_rfl) (by kernel_rfl) (fun _ _ _ h => h) (by rfl) ?yaa10 ?_
      case yaa10 => (intro w' hw'; go_simp; try (with_reducible rfl))
      simp only [Act.put]; try simp only [List.setIfInBounds_toArray]; try simp only [List.set_cons_zero, List.set_cons_succ]
      refine wpAnyR_done (by kernel_rfl) ?_ _
      obtain ⟨p12, hp12⟩ : ∃ p12, p9 ++ pflag 10 m.lead ++ pflag 11 m.good ++ pflag 12 m.fenced = p12 := ⟨_, rfl⟩
      have HDa := HDa3
      have HNa := HNa3
      rw [hp12] at HDa HNa
      have HP12 := hide hp12
      clear hp12 HDa0 HDa1 HDa2 HDa3 HNa0 HNa1 HNa2 HNa3 HTa0 HTa1 HTa2
      have hx3 := HS.out _ HTa3.out
      have c12 : wa3.cell? ⟨w.heap.size, 12, none⟩ = some (.int .i64 m.op.kind) := box_at hx3 12 _ rfl
      have c13 : wa3.cell? ⟨w.heap.size, 13, none⟩ = some (.int .i64 m.op.client) := box_at hx3 13 _ rfl
      have c14 : wa3.cell? ⟨w.heap.size, 14, none⟩ = some (.int .i64 m.op.request) := box_at hx3 14 _ rfl
      have c15 : wa3.cell? ⟨w.heap.size, 15, none⟩ = some (.string m.op.name) := box_at hx3 15 _ rfl
      have c16 : wa3.cell? ⟨w.heap.size, 16, none⟩ = some (.slice sA n1 sc) := box_at hx3 16 _ rfl
      have c17 : wa3.cell? ⟨w.heap.size, 17, none⟩ = some (.int .i64 m.op.saga) := box_at hx3 17 _ rfl
      have c18 : wa3.cell? ⟨w.heap.size, 18, none⟩ = some (.int .i64 m.op.step) := box_at hx3 18 _ rfl
      have c19 : wa3.cell? ⟨w.heap.size, 19, none⟩ = some (.int .i64 m.op.try_) := box_at hx3 19 _ rfl
      have c20 : wa3.cell? ⟨w.heap.size, 20, none⟩ = some (.bool m.op.back) := box_at hx3 20 _ rfl
      have c21 : wa3.cell? ⟨w.heap.size, 21, none⟩ = some (.bool m.op.good) := box_at hx3 21 _ rfl
      have C4 := hide (ropb_any (o := m.op) (sc := sc) (HST.out.kept (Kept.of_below (HLW.out _ HTa3.out) F)) HN1.out.symm HSM.out (by omega) (Nat.le_trans (inn_def_room HSM.out) (by omega)) (Nat.le_trans (inn_op_room HSM.out) (by omega)))
      have HZ3 := hide (HSZ.out _ HTa3.out)
      clear hx3
      go_wp2_with (fail)
      clear c12 c13 c14 c15 c16 c17 c18 c19 c20 c21
      refine C4.out.mono ?_
      rintro e wb ⟨A4, m4, k4, rfl, ho4, hh4, _, hb4⟩
      have hfd4 := own_fd (num := 13) ⟨by omega, by omega⟩ ho4 hh4.2.1
      have HTb : Hid (Below (w.heap.size + 2) ((w.alloc (.cells (m.cells (.slice sA n1 sc) (.slice oA n2 oc) (.slice iA n3 ic)).toArray 35 (0, 0))).alloc (.cells (ivs (kl m)).toArray 3 (0, 0))) wb) := HTa3.out.trans (Below.mono hb4 HZ3.out)
      have C5 := hide (dsome_any (HDa.out.later hb4) (HSZ.out _ HTb.out) (Nat.le_trans HNa.out (by omega)) hfd4)
      clear ho4 hh4 hb4 hfd4 C4
      go_wp2_with (fail)
      refine C5.out.mono ?_
      rintro e wc ⟨vc, rfl, hd, hb, _⟩
      have HDc := hide hd
      have HTc := hide (HTb.out.trans hb)
      have HNc := hide (len_text (n := 13) (x := opB m.op) HNa.out)
      clear hd hb C5 HTb HTa3 HDa HNa HZ3
      obtain ⟨b9, hb9⟩ : ∃ b, wc.heap.size = b := ⟨_, rfl⟩
      have HE9 := hide hb9
      have HS9Z : Hid (∀ w', Below b9 wc w' → b9 ≤ w'.heap.size) := fun w' h => by have h2 := h.size; rw [hb9] at h2; exact h2
      have HS9 : Hid (∀ w', Below b9 wc w' → w'.heap[w.heap.size]? = some (.cells (m.cells (.slice sA n1 sc) (.slice oA n2 oc) (.slice iA n3 ic)).toArray 35 (0, 0))) := fun w' h => HS.out _ (HTc.out.trans (Below.mono h (by rw [← hb9]; exact HSZ.out _ HTc.out)))
      have HTr0 : Hid (Below b9 wc wc.drew) := drew_below _ _
      have HDr0 : Hid (DR wc.drew b9 (.slice none 0 0) []) := DR.nil _ _
      have HNr0 : Hid (([] : List PF).length ≤ 0) := Nat.le_refl _
      clear hb9
      go_wp2
      refine wp_region_R (R := fun a c => Below b9 a c) (by kernel_rfl) ?_
      refine wpAnyR_take (pre_below b9) (i := 0) (d := some 59) (v := ?var0) rfl rfl (by kernel_rfl) (by kernel_rfl) (by kernel_rfl) (fun _ _ _ h => h) (by rfl) ?yar0 ?_
      case yar0 => (intro w' hw'; go_simp; try (with_reducible rfl))
      simp only [Act.put]; try simp only [List.setIfInBounds_toArray]; try simp only [List.set_cons_zero, List.set_cons_succ]
      refine wpAnyR_take (pre_below b9) (i := 1) (d := some 60) (v := ?var1) rfl rfl (by kernel_rfl) (by kernel_rfl) (by kernel_rfl) (fun _ _ _ h => h) (by rfl) ?yar1 ?_
      case yar1 => (intro w' hw'; go_simp; try (with_reducible rfl))
      simp only [Act.put]; try simp only [List.setIfInBounds_toArray]; try simp only [List.set_cons_zero, List.set_cons_succ]
      refine wpAnyR_take (pre_below b9) (i := 2) (d := some 61) (v := .int .i64 m.rerr) rfl rfl (by kernel_rfl) (by kernel_rfl) (by kernel_rfl) (fun _ _ _ h => h) (by rfl) ?yar2 ?_
      case yar2 => (intro w' hw'; have hx : w'.cell? ⟨w.heap.size, 22, none⟩ = some (.int .i64 m.rerr) := box_at (HS9.out w' (HTr0.out.trans hw')) 22 _ rfl; go_simp; try (with_reducible rfl))
      simp only [Act.put]; try simp only [List.setIfInBounds_toArray]; try simp only [List.set_cons_zero, List.set_cons_succ]
      refine wpAnyR_take (pre_below b9) (i := 4) (d := some 63) (v := ?var4) rfl rfl (by kernel_rfl) (by kernel_rfl) (by kernel_rfl) (fun _ _ _ h => h) (by rfl) ?yar4 ?_
      case yar4 => (intro w' hw'; go_simp; try (with_reducible rfl))
      simp only [Act.put]; try simp only [List.setIfInBounds_toArray]; try simp only [List.set_cons_zero, List.set_cons_succ]
      refine wpAnyR_take (pre_below b9) (i := 5) (d := some 64) (v := ?var5) rfl rfl (by kernel_rfl) (by kernel_rfl) (by kernel_rfl) (fun _ _ _ h => h) (by rfl) ?yar5 ?_
      case yar5 => (intro w' hw'; go_simp; try (with_reducible rfl))
      simp only [Act.put]; try simp only [List.setIfInBounds_toArray]; try simp only [List.set_cons_zero, List.set_cons_succ]
      refine wpAnyR_take (pre_below b9) (i := 6) (d := some 65) (v := .int .i64 m.rsaga) rfl rfl (by kernel_rfl) (by kernel_rfl) (by kernel_rfl) (fun _ _ _ h => h) (by rfl) ?yar6 ?_
      case yar6 => (intro w' hw'; have hx : w'.cell? ⟨w.heap.size, 23, none⟩ = some (.int .i64 m.rsaga) := box_at (HS9.out w' (HTr0.out.trans hw')) 23 _ rfl; go_simp; try (with_reducible rfl))
      simp only [Act.put]; try simp only [List.setIfInBounds_toArray]; try simp only [List.set_cons_zero, List.set_cons_succ]
      refine wpAnyR_take (pre_below b9) (i := 8) (d := some 67) (v := ?var8) rfl rfl (by kernel_rfl) (by kernel_rfl) (by kernel_rfl) (fun _ _ _ h => h) (by rfl) ?yar8 ?_
      case yar8 => (intro w' hw'; go_simp; try (with_reducible rfl))
      simp only [Act.put]; try simp only [List.setIfInBounds_toArray]; try simp only [List.set_cons_zero, List.set_cons_succ]
      refine wpAnyR_take (pre_below b9) (i := 9) (d := some 68) (v := ?var9) rfl rfl (by kernel_rfl) (by kernel_rfl) (by kernel_rfl) (fun _ _ _ h => h) (by rfl) ?yar9 ?_
      case yar9 => (intro w' hw'; go_simp; try (with_reducible rfl))
      simp only [Act.put]; try simp only [List.setIfInBounds_toArray]; try simp only [List.set_cons_zero, List.set_cons_succ]
      refine wpAnyR_take (pre_below b9) (i := 10) (d := some 69) (v := .int .i64 m.rstate) rfl rfl (by kernel_rfl) (by kernel_rfl) (by kernel_rfl) (fun _ _ _ h => h) (by rfl) ?yar10 ?_
      case yar10 => (intro w' hw'; have hx : w'.cell? ⟨w.heap.size, 24, none⟩ = some (.int .i64 m.rstate) := box_at (HS9.out w' (HTr0.out.trans hw')) 24 _ rfl; go_simp; try (with_reducible rfl))
      simp only [Act.put]; try simp only [List.setIfInBounds_toArray]; try simp only [List.set_cons_zero, List.set_cons_succ]
      refine wpAnyR_take (pre_below b9) (i := 12) (d := some 71) (v := ?var12) rfl rfl (by kernel_rfl) (by kernel_rfl) (by kernel_rfl) (fun _ _ _ h => h) (by rfl) ?yar12 ?_
      case yar12 => (intro w' hw'; go_simp; try (with_reducible rfl))
      simp only [Act.put]; try simp only [List.setIfInBounds_toArray]; try simp only [List.set_cons_zero, List.set_cons_succ]
      refine wpAnyR_take (pre_below b9) (i := 13) (d := some 72) (v := ?var13) rfl rfl (by kernel_rfl) (by kernel_rfl) (by kernel_rfl) (fun _ _ _ h => h) (by rfl) ?yar13 ?_
      case yar13 => (intro w' hw'; go_simp; try (with_reducible rfl))
      simp only [Act.put]; try simp only [List.setIfInBounds_toArray]; try simp only [List.set_cons_zero, List.set_cons_succ]
      refine wpAnyR_take (pre_below b9) (i := 14) (d := some 73) (v := .int .i64 m.rstep) rfl rfl (by kernel_rfl) (by kernel_rfl) (by kernel_rfl) (fun _ _ _ h => h) (by rfl) ?yar14 ?_
      case yar14 => (intro w' hw'; have hx : w'.cell? ⟨w.heap.size, 25, none⟩ = some (.int .i64 m.rstep) := box_at (HS9.out w' (HTr0.out.trans hw')) 25 _ rfl; go_simp; try (with_reducible rfl))
      simp only [Act.put]; try simp only [List.setIfInBounds_toArray]; try simp only [List.set_cons_zero, List.set_cons_succ]
      refine wpAnyR_only (i := 3) rfl (by kernel_rfl) (by rfl) fun K hK => ?_
      go_simp
      refine (dnum_any HDr0.out (HS9Z.out _ HTr0.out) (Nat.le_trans HNr0.out (by omega)) ⟨by omega, by omega⟩ HWF.out.2.2.2.2.2.2.2.2.2.2.1).mono ?_
      rintro e wr1 ⟨vwr1, rfl, hd, hb, _⟩
      have HDr1 := hide hd
      have HTr1 := hide (HTr0.out.trans hb)
      have HNr1 := hide (len_num (n := 1) (x := m.rerr) HNr0.out)
      refine hK.out _ _ hb ?_
      clear hd hb
      clear hK K
      try (simp only [Act.put]; try simp only [List.setIfInBounds_toArray]; try simp only [List.set_cons_zero, List.set_cons_succ])
      refine wpAnyR_only (i := 7) rfl (by kernel_rfl) (by rfl) fun K hK => ?_
      go_simp
      refine (dnum_any HDr1.out (HS9Z.out _ HTr1.out) (Nat.le_trans HNr1.out (by omega)) ⟨by omega, by omega⟩ HWF.out.2.2.2.2.2.2.2.2.2.2.2.1).mono ?_
      rintro e wr2 ⟨vwr2, rfl, hd, hb, _⟩
      have HDr2 := hide hd
      have HTr2 := hide (HTr1.out.trans hb)
      have HNr2 := hide (len_num (n := 2) (x := m.rsaga) HNr1.out)
      refine hK.out _ _ hb ?_
      clear hd hb
      clear hK K
      try (simp only [Act.put]; try simp only [List.setIfInBounds_toArray]; try simp only [List.set_cons_zero, List.set_cons_succ])
      refine wpAnyR_only (i := 11) rfl (by kernel_rfl) (by rfl) fun K hK => ?_
      go_simp
      refine (dnum_any HDr2.out (HS9Z.out _ HTr2.out) (Nat.le_trans HNr2.out (by omega)) ⟨by omega, by omega⟩ HWF.out.2.2.2.2.2.2.2.2.2.2.2.2.1).mono ?_
      rintro e wr3 ⟨vwr3, rfl, hd, hb, _⟩
      have HDr3 := hide hd
      have HTr3 := hide (HTr2.out.trans hb)
      have HNr3 := hide (len_num (n := 3) (x := m.rstate) HNr2.out)
      refine hK.out _ _ hb ?_
      clear hd hb
      clear hK K
      try (simp only [Act.put]; try simp only [List.setIfInBounds_toArray]; try simp only [List.set_cons_zero, List.set_cons_succ])
      refine wpAnyR_only (i := 15) rfl (by kernel_rfl) (by rfl) fun K hK => ?_
      go_simp
      refine (dnum_any HDr3.out (HS9Z.out _ HTr3.out) (Nat.le_trans HNr3.out (by omega)) ⟨by omega, by omega⟩ HWF.out.2.2.2.2.2.2.2.2.2.2.2.2.2.1).mono ?_
      rintro e wr4 ⟨vwr4, rfl, hd, hb, _⟩
      have HDr4 := hide hd
      have HTr4 := hide (HTr3.out.trans hb)
      have HNr4 := hide (len_num (n := 4) (x := m.rstep) HNr3.out)
      refine hK.out _ _ hb ?_
      clear hd hb
      clear hK K
      try (simp only [Act.put]; try simp only [List.setIfInBounds_toArray]; try simp only [List.set_cons_zero, List.set_cons_succ])
      refine wpAnyR_take (pre_below b9) (i := 16) (d := some 6) (v := ?var16) rfl rfl (by kernel_rfl) (by kernel_rfl) (by kernel_rfl) (fun _ _ _ h => h) (by rfl) ?yar16 ?_
      case yar16 => (intro w' hw'; go_simp; try (with_reducible rfl))
      simp only [Act.put]; try simp only [List.setIfInBounds_toArray]; try simp only [List.set_cons_zero, List.set_cons_succ]
      refine wpAnyR_done (by kernel_rfl) ?_ _
      have hall : ([] : List PF) ++ pnum 1 m.rerr ++ pnum 2 m.rsaga ++ pnum 3 m.rstate ++ pnum 4 m.rstep = replyF m := by simp [replyF]
      have HDr := HDr4
      rw [hall] at HDr
      have C6 := hide (dwrite_any HDr.out (Nat.le_trans (inn_reply_room m) (by omega)))
      have HLr : Hid (Later wc wr4) := by have h := HTr4.out; rw [← HE9.out] at h; exact h
      clear hall HDr0 HDr1 HDr2 HDr3 HDr4 HNr0 HNr1 HNr2 HNr3 HNr4 HTr0 HTr1 HTr2 HTr3 HTr4 HDr
      go_wp2_with (fail)
      refine C6.out.mono ?_
      rintro e wd ⟨A6, m6, k6, rfl, ho6, hh6, _, hb6⟩
      have HLd : Hid (Later wc wd) := HLr.out.trans hb6
      have hfd6 := own_fd (num := 14) ⟨by omega, by omega⟩ ho6 hh6.2.1
      have HTd : Hid (Below (w.heap.size + 2) ((w.alloc (.cells (m.cells (.slice sA n1 sc) (.slice oA n2 oc) (.slice iA n3 ic)).toArray 35 (0, 0))).alloc (.cells (ivs (kl m)).toArray 3 (0, 0))) wd) := HTc.out.trans (Below.mono HLd.out (HSZ.out _ HTc.out))
      have C7 := hide (dsome_any (HDc.out.later HLd.out) (HSZ.out _ HTd.out) (Nat.le_trans HNc.out (by omega)) hfd6)
      clear ho6 hh6 hb6 hfd6 C6 HLr
      go_wp2_with (fail)
      refine C7.out.mono ?_
      rintro e we ⟨ve, rfl, hd, hb, _⟩
      have HDe := hide hd
      have HTe := hide (HTd.out.trans hb)
      have HNe := hide (len_text (n := 14) (x := prec (replyF m)) HNc.out)
      clear hd hb C7 HTd HLd HDc HNc HTc HS9 HS9Z HE9
      have hx3 := HS.out _ HTe.out
      have c26 : we.cell? ⟨w.heap.size, 26, none⟩ = some (.int .i64 m.cview) := box_at hx3 26 _ rfl
      have c27 : we.cell? ⟨w.heap.size, 27, none⟩ = some (.int .i64 m.cstub) := box_at hx3 27 _ rfl
      have c28 : we.cell? ⟨w.heap.size, 28, none⟩ = some (.int .i64 m.csaga) := box_at hx3 28 _ rfl
      have c29 : we.cell? ⟨w.heap.size, 29, none⟩ = some (.int .i64 m.cstep) := box_at hx3 29 _ rfl
      have c30 : we.cell? ⟨w.heap.size, 30, none⟩ = some (.int .i64 m.ctry) := box_at hx3 30 _ rfl
      have c31 : we.cell? ⟨w.heap.size, 31, none⟩ = some (.bool m.cback) := box_at hx3 31 _ rfl
      clear hx3
      have HXk : Hid ((we.alloc (.cells #[.int .i64 m.cview, .int .i64 m.cstub, .int .i64 m.csaga, .int .i64 m.cstep, .int .i64 m.ctry, .bool m.cback] 31 (0, 0))).heap[we.heap.size]? = some (.cells #[.int .i64 m.cview, .int .i64 m.cstub, .int .i64 m.csaga, .int .i64 m.cstep, .int .i64 m.ctry, .bool m.cback] 31 (0, 0))) := heap_alloc_new _ _
      have HSkZ : Hid (∀ w', Below (we.heap.size + 1) (we.alloc (.cells #[.int .i64 m.cview, .int .i64 m.cstub, .int .i64 m.csaga, .int .i64 m.cstep, .int .i64 m.ctry, .bool m.cback] 31 (0, 0))) w' → we.heap.size + 1 ≤ w'.heap.size) := fun w' h => by have h2 := h.size; rw [World.size_alloc] at h2; exact h2
      have HSk : Hid (∀ w', Below (we.heap.size + 1) (we.alloc (.cells #[.int .i64 m.cview, .int .i64 m.cstub, .int .i64 m.csaga, .int .i64 m.cstep, .int .i64 m.ctry, .bool m.cback] 31 (0, 0))) w' → w'.heap[we.heap.size]? = some (.cells #[.int .i64 m.cview, .int .i64 m.cstub, .int .i64 m.csaga, .int .i64 m.cstep, .int .i64 m.ctry, .bool m.cback] 31 (0, 0))) := fun w' h => (h.block we.heap.size (by omega)).trans HXk.out
      have HLk : Hid (∀ w', Below (we.heap.size + 1) (we.alloc (.cells #[.int .i64 m.cview, .int .i64 m.cstub, .int .i64 m.csaga, .int .i64 m.cstep, .int .i64 m.ctry, .bool m.cback] 31 (0, 0))) w' → Later we w') := fun w' h => Below.trans (Later.alloc we _) (Below.mono h (by omega))
      have HTk0 : Hid (Below (we.heap.size + 1) (we.alloc (.cells #[.int .i64 m.cview, .int .i64 m.cstub, .int .i64 m.csaga, .int .i64 m.cstep, .int .i64 m.ctry, .bool m.cback] 31 (0, 0))) (we.alloc (.cells #[.int .i64 m.cview, .int .i64 m.cstub, .int .i64 m.csaga, .int .i64 m.cstep, .int .i64 m.ctry, .bool m.cback] 31 (0, 0))).drew) := drew_below _ _
      have HDk0 : Hid (DR (we.alloc (.cells #[.int .i64 m.cview, .int .i64 m.cstub, .int .i64 m.csaga, .int .i64 m.cstep, .int .i64 m.ctry, .bool m.cback] 31 (0, 0))).drew (we.heap.size + 1) (.slice none 0 0) []) := DR.nil _ _
      have HNk0 : Hid (([] : List PF).length ≤ 0) := Nat.le_refl _
      go_wp2
      clear c26 c27 c28 c29 c30 c31
      refine wp_region_R (R := fun a c => Below (we.heap.size + 1) a c) (by kernel_rfl) ?_
      refine wpAnyR_take (pre_below (we.heap.size + 1)) (i := 0) (d := some 81) (v := ?vak0) rfl rfl (by kernel_rfl) (by kernel_rfl) (by kernel_rfl) (fun _ _ _ h => h) (by rfl) ?yak0 ?_
      case yak0 => (intro w' hw'; go_simp; try (with_reducible rfl))
      simp only [Act.put]; try simp only [List.setIfInBounds_toArray]; try simp only [List.set_cons_zero, List.set_cons_succ]
      refine wpAnyR_take (pre_below (we.heap.size + 1)) (i := 1) (d := some 82) (v := .int .i64 m.cview) rfl rfl (by kernel_rfl) (by kernel_rfl) (by kernel_rfl) (fun _ _ _ h => h) (by rfl) ?yak1 ?_
      case yak1 => (intro w' hw'; have hx : w'.cell? ⟨we.heap.size, 0, none⟩ = some (.int .i64 m.cview) := box_at (HSk.out w' (HTk0.out.trans hw')) 0 _ rfl; go_simp; try (with_reducible rfl))
      simp only [Act.put]; try simp only [List.setIfInBounds_toArray]; try simp only [List.set_cons_zero, List.set_cons_succ]
      refine wpAnyR_take (pre_below (we.heap.size + 1)) (i := 3) (d := some 84) (v := ?vak3) rfl rfl (by kernel_rfl) (by kernel_rfl) (by kernel_rfl) (fun _ _ _ h => h) (by rfl) ?yak3 ?_
      case yak3 => (intro w' hw'; go_simp; try (with_reducible rfl))
      simp only [Act.put]; try simp only [List.setIfInBounds_toArray]; try simp only [List.set_cons_zero, List.set_cons_succ]
      refine wpAnyR_take (pre_below (we.heap.size + 1)) (i := 4) (d := some 85) (v := .int .i64 m.cstub) rfl rfl (by kernel_rfl) (by kernel_rfl) (by kernel_rfl) (fun _ _ _ h => h) (by rfl) ?yak4 ?_
      case yak4 => (intro w' hw'; have hx : w'.cell? ⟨we.heap.size, 1, none⟩ = some (.int .i64 m.cstub) := box_at (HSk.out w' (HTk0.out.trans hw')) 1 _ rfl; go_simp; try (with_reducible rfl))
      simp only [Act.put]; try simp only [List.setIfInBounds_toArray]; try simp only [List.set_cons_zero, List.set_cons_succ]
      refine wpAnyR_take (pre_below (we.heap.size + 1)) (i := 6) (d := some 87) (v := ?vak6) rfl rfl (by kernel_rfl) (by kernel_rfl) (by kernel_rfl) (fun _ _ _ h => h) (by rfl) ?yak6 ?_
      case yak6 => (intro w' hw'; go_simp; try (with_reducible rfl))
      simp only [Act.put]; try simp only [List.setIfInBounds_toArray]; try simp only [List.set_cons_zero, List.set_cons_succ]
      refine wpAnyR_take (pre_below (we.heap.size + 1)) (i := 7) (d := some 88) (v := .int .i64 m.csaga) rfl rfl (by kernel_rfl) (by kernel_rfl) (by kernel_rfl) (fun _ _ _ h => h) (by rfl) ?yak7 ?_
      case yak7 => (intro w' hw'; have hx : w'.cell? ⟨we.heap.size, 2, none⟩ = some (.int .i64 m.csaga) := box_at (HSk.out w' (HTk0.out.trans hw')) 2 _ rfl; go_simp; try (with_reducible rfl))
      simp only [Act.put]; try simp only [List.setIfInBounds_toArray]; try simp only [List.set_cons_zero, List.set_cons_succ]
      refine wpAnyR_take (pre_below (we.heap.size + 1)) (i := 9) (d := some 90) (v := ?vak9) rfl rfl (by kernel_rfl) (by kernel_rfl) (by kernel_rfl) (fun _ _ _ h => h) (by rfl) ?yak9 ?_
      case yak9 => (intro w' hw'; go_simp; try (with_reducible rfl))
      simp only [Act.put]; try simp only [List.setIfInBounds_toArray]; try simp only [List.set_cons_zero, List.set_cons_succ]
      refine wpAnyR_take (pre_below (we.heap.size + 1)) (i := 10) (d := some 91) (v := .int .i64 m.cstep) rfl rfl (by kernel_rfl) (by kernel_rfl) (by kernel_rfl) (fun _ _ _ h => h) (by rfl) ?yak10 ?_
      case yak10 => (intro w' hw'; have hx : w'.cell? ⟨we.heap.size, 3, none⟩ = some (.int .i64 m.cstep) := box_at (HSk.out w' (HTk0.out.trans hw')) 3 _ rfl; go_simp; try (with_reducible rfl))
      simp only [Act.put]; try simp only [List.setIfInBounds_toArray]; try simp only [List.set_cons_zero, List.set_cons_succ]
      refine wpAnyR_take (pre_below (we.heap.size + 1)) (i := 12) (d := some 93) (v := ?vak12) rfl rfl (by kernel_rfl) (by kernel_rfl) (by kernel_rfl) (fun _ _ _ h => h) (by rfl) ?yak12 ?_
      case yak12 => (intro w' hw'; go_simp; try (with_reducible rfl))
      simp only [Act.put]; try simp only [List.setIfInBounds_toArray]; try simp only [List.set_cons_zero, List.set_cons_succ]
      refine wpAnyR_take (pre_below (we.heap.size + 1)) (i := 13) (d := some 94) (v := .int .i64 m.ctry) rfl rfl (by kernel_rfl) (by kernel_rfl) (by kernel_rfl) (fun _ _ _ h => h) (by rfl) ?yak13 ?_
      case yak13 => (intro w' hw'; have hx : w'.cell? ⟨we.heap.size, 4, none⟩ = some (.int .i64 m.ctry) := box_at (HSk.out w' (HTk0.out.trans hw')) 4 _ rfl; go_simp; try (with_reducible rfl))
      simp only [Act.put]; try simp only [List.setIfInBounds_toArray]; try simp only [List.set_cons_zero, List.set_cons_succ]
      refine wpAnyR_only (i := 2) rfl (by kernel_rfl) (by rfl) fun K hK => ?_
      go_simp
      refine (dnum_any HDk0.out (HSkZ.out _ HTk0.out) (Nat.le_trans HNk0.out (by omega)) ⟨by omega, by omega⟩ HWF.out.2.2.2.2.2.2.2.2.2.2.2.2.2.2.1).mono ?_
      rintro e wk1 ⟨vwk1, rfl, hd, hb, _⟩
      have HDk1 := hide hd
      have HTk1 := hide (HTk0.out.trans hb)
      have HNk1 := hide (len_num (n := 1) (x := m.cview) HNk0.out)
      refine hK.out _ _ hb ?_
      clear hd hb
      clear hK K
      try (simp only [Act.put]; try simp only [List.setIfInBounds_toArray]; try simp only [List.set_cons_zero, List.set_cons_succ])
      refine wpAnyR_only (i := 5) rfl (by kernel_rfl) (by rfl) fun K hK => ?_
      go_simp
      refine (dnum_any HDk1.out (HSkZ.out _ HTk1.out) (Nat.le_trans HNk1.out (by omega)) ⟨by omega, by omega⟩ HWF.out.2.2.2.2.2.2.2.2.2.2.2.2.2.2.2.1).mono ?_
      rintro e wk2 ⟨vwk2, rfl, hd, hb, _⟩
      have HDk2 := hide hd
      have HTk2 := hide (HTk1.out.trans hb)
      have HNk2 := hide (len_num (n := 2) (x := m.cstub) HNk1.out)
      refine hK.out _ _ hb ?_
      clear hd hb
      clear hK K
      try (simp only [Act.put]; try simp only [List.setIfInBounds_toArray]; try simp only [List.set_cons_zero, List.set_cons_succ])
      refine wpAnyR_only (i := 8) rfl (by kernel_rfl) (by rfl) fun K hK => ?_
      go_simp
      refine (dnum_any HDk2.out (HSkZ.out _ HTk2.out) (Nat.le_trans HNk2.out (by omega)) ⟨by omega, by omega⟩ HWF.out.2.2.2.2.2.2.2.2.2.2.2.2.2.2.2.2.1).mono ?_
      rintro e wk3 ⟨vwk3, rfl, hd, hb, _⟩
      have HDk3 := hide hd
      have HTk3 := hide (HTk2.out.trans hb)
      have HNk3 := hide (len_num (n := 3) (x := m.csaga) HNk2.out)
      refine hK.out _ _ hb ?_
      clear hd hb
      clear hK K
      try (simp only [Act.put]; try simp only [List.setIfInBounds_toArray]; try simp only [List.set_cons_zero, List.set_cons_succ])
      refine wpAnyR_only (i := 11) rfl (by kernel_rfl) (by rfl) fun K hK => ?_
      go_simp
      refine (dnum_any HDk3.out (HSkZ.out _ HTk3.out) (Nat.le_trans HNk3.out (by omega)) ⟨by omega, by omega⟩ HWF.out.2.2.2.2.2.2.2.2.2.2.2.2.2.2.2.2.2.1).mono ?_
      rintro e wk4 ⟨vwk4, rfl, hd, hb, _⟩
      have HDk4 := hide hd
      have HTk4 := hide (HTk3.out.trans hb)
      have HNk4 := hide (len_num (n := 4) (x := m.cstep) HNk3.out)
      refine hK.out _ _ hb ?_
      clear hd hb
      clear hK K
      try (simp only [Act.put]; try simp only [List.setIfInBounds_toArray]; try simp only [List.set_cons_zero, List.set_cons_succ])
      refine wpAnyR_only (i := 14) rfl (by kernel_rfl) (by rfl) fun K hK => ?_
      go_simp
      refine (dnum_any HDk4.out (HSkZ.out _ HTk4.out) (Nat.le_trans HNk4.out (by omega)) ⟨by omega, by omega⟩ HWF.out.2.2.2.2.2.2.2.2.2.2.2.2.2.2.2.2.2.2.1).mono ?_
      rintro e wk5 ⟨vwk5, rfl, hd, hb, _⟩
      have HDk5 := hide hd
      have HTk5 := hide (HTk4.out.trans hb)
      have HNk5 := hide (len_num (n := 5) (x := m.ctry) HNk4.out)
      refine hK.out _ _ hb ?_
      clear hd hb
      clear hK K
      try (simp only [Act.put]; try simp only [List.setIfInBounds_toArray]; try simp only [List.set_cons_zero, List.set_cons_succ])
      refine wpAnyR_take (pre_below (we.heap.size + 1)) (i := 15) (d := some 8) (v := ?vak15) rfl rfl (by kernel_rfl) (by kernel_rfl) (by kernel_rfl) (fun _ _ _ h => h) (by rfl) ?yak15 ?_
      case yak15 => (intro w' hw'; go_simp; try (with_reducible rfl))
      simp only [Act.put]; try simp only [List.setIfInBounds_toArray]; try simp only [List.set_cons_zero, List.set_cons_succ]
      refine wpAnyR_done (by kernel_rfl) ?_ _
      have hx5 : wk5.cell? ⟨we.heap.size, 5, none⟩ = some (.bool m.cback) := box_at (HSk.out _ HTk5.out) 5 _ rfl
      have C8 := hide (dyes_any (n := 6) (x := m.cback) HDk5.out (HSkZ.out _ HTk5.out) (Nat.le_trans HNk5.out (by omega)) ⟨by omega, by omega⟩)
      go_wp2_with (fail)
      refine C8.out.mono ?_
      rintro e wf ⟨vf, rfl, hd, hb, _⟩
      have hall : ([] : List PF) ++ pnum 1 m.cview ++ pnum 2 m.cstub ++ pnum 3 m.csaga ++ pnum 4 m.cstep ++ pnum 5 m.ctry ++ pflag 6 m.cback = cmdF m := by simp [cmdF]
      rw [hall] at hd
      have C9 := hide (dwrite_any hd (Nat.le_trans (inn_cmd_room m) (by omega)))
      have HLf : Hid (Later we wf) := HLk.out _ (HTk5.out.trans hb)
      clear hall hd hb hx5 C8 HDk0 HDk1 HDk2 HDk3 HDk4 HDk5 HNk0 HNk1 HNk2 HNk3 HNk4 HNk5 HTk0 HTk1 HTk2 HTk3 HTk4 HTk5 HSk HSkZ HLk HXk
      go_wp2_with (fail)
      refine C9.out.mono ?_
      rintro e wg ⟨A9, m9, k9, rfl, ho9, hh9, _, hb9⟩
      have HLg : Hid (Later we wg) := HLf.out.trans hb9
      have hfd9 := own_fd (num := 15) ⟨by omega, by omega⟩ ho9 hh9.2.1
      have HTg : Hid (Below (w.heap.size + 2) ((w.alloc (.cells (m.cells (.slice sA n1 sc) (.slice oA n2 oc) (.slice iA n3 ic)).toArray 35 (0, 0))).alloc (.cells (ivs (kl m)).toArray 3 (0, 0))) wg) := HTe.out.trans (Below.mono HLg.out (HSZ.out _ HTe.out))
      have C10 := hide (dsome_any (HDe.out.later HLg.out) (HSZ.out _ HTg.out) (Nat.le_trans HNe.out (by omega)) hfd9)
      clear ho9 hh9 hb9 hfd9 C9 HLf
      go_wp2_with (fail)
      refine C10.out.mono ?_
      rintro e wh ⟨vh, rfl, hd, hb, _⟩
      have HTh := hide (HTg.out.trans hb)
      have hn := len_text (n := 15) (x := prec (cmdF m)) HNe.out
      obtain ⟨p15, hp15⟩ : ∃ p15, p12 ++ ptext 13 (opB m.op) ++ ptext 14 (prec (replyF m)) ++ ptext 15 (prec (cmdF m)) = p15 := ⟨_, rfl⟩
      rw [hp15] at hd hn
      have HDh := hide hd
      have HNh := hide hn
      have HP15 := hide hp15
      have c32 : wh.cell? ⟨w.heap.size, 32, none⟩ = some (.slice oA n2 oc) := box_at (HS.out _ HTh.out) 32 _ rfl
      clear hd hb hn hp15 C10 HTg HLg HTe HDe HNe
      go_wp2
      clear c32
      obtain ⟨In, hIn⟩ : ∃ In : World → Prop, ∀ w2, In w2 ↔ Below (w.heap.size + 2) ((w.alloc (.cells (m.cells (.slice sA n1 sc) (.slice oA n2 oc) (.slice iA n3 ic)).toArray 35 (0, 0))).alloc (.cells (ivs (kl m)).toArray 3 (0, 0))) w2 := ⟨_, fun _ => Iff.rfl⟩
      have HI := hide hIn
      clear hIn
      go_loopw [3, 106] (fun lv j wr => ∃ q : Nat, q ≤ n2 ∧ j = .int .i64 (q : Int) ∧ DR wr (w.heap.size + 2) lv (p15 ++ (m.ops.take q).map fun x => prow 16 (opB x)) ∧ In wr) (fun _ j _ => n2 - (Go.RowKit.intOf j).toNat)
      case atStart => exact ⟨0, by omega, rfl, by simpa using HDh.out, (HI.out _).2 HTh.out⟩
      case round =>
        obtain ⟨q, hq, rfl, hdr, hbw⟩ := hrel
        have HD := hide hdr
        have HB2 := hide ((HI.out _).1 hbw)
        have HLl := hide (HLW.out _ ((HI.out _).1 hbw))
        clear hdr hbw
        by_cases hlt : q < n2
        · obtain ⟨x, xs, b, off, oc2, hpk, hv, _, _, _, hr, hst⟩ := OpsIn.at_ (HOP.out.kept (Kept.of_below HLl.out F)) (i := q) (by rw [HN2.out]; exact hlt)
          obtain ⟨rfl, rfl⟩ : oA = some ⟨b, off, none⟩ ∧ oc = oc2 := by injection hv with e1 _ e3; exact ⟨e1, e3⟩
          obtain ⟨xA, xc, rfl, _, _, _⟩ := FlatAt.shape hst
          have hok : m.ops[q]? = some x := by rw [← HPS.out, List.getElem?_map, hpk]; rfl
          have HOK := hide hok
          have hsx := HSMS.out x (List.mem_of_getElem? hok)
          obtain ⟨nx, hnx⟩ : ∃ n, x.steps.length = n := ⟨_, rfl⟩
          have HNX := hide hnx
          rw [hnx] at hr hst
          obtain ⟨r0, r1, r2, r3, r4, r5, r6, r7, r8, r9⟩ := range_op hr
          have hstk := hst.kept (Kept.of_below (Later.alloc wr (.cells (x.cells (.slice xA nx xc)).toArray 26 (0, 0))) F)
          have C11 := hide (ropb_any (o := x) (sc := xc) hstk hnx.symm hsx (by omega) (Nat.le_trans (inn_def_room hsx) (by omega)) (Nat.le_trans (inn_op_room hsx) (by omega)))
          have HXo : Hid ((wr.alloc (.cells (x.cells (.slice xA nx xc)).toArray 26 (0, 0))).heap[wr.heap.size]? = some (.cells (x.cells (.slice xA nx xc)).toArray 26 (0, 0))) := heap_alloc_new _ _
          have HLo : Hid (Later wr (wr.alloc (.cells (x.cells (.slice xA nx xc)).toArray 26 (0, 0)))) := Later.alloc _ _
          clear hpk hv hr hst hok hsx hstk hnx
          go_wp2_with (fail)
          clear r0 r1 r2 r3 r4 r5 r6 r7 r8 r9
          refine C11.out.mono ?_
          rintro e wm ⟨A12, m12, k12, rfl, ho12, hh12, _, hb12⟩
          have HLm : Hid (Later wr wm) := HLo.out.trans hb12
          have hfd12 := own_fd (num := 16) ⟨by omega, by omega⟩ ho12 hh12.2.1
          have HTm := hide (HB2.out.trans (Below.mono HLm.out (HSZ.out _ HB2.out)))
          have C12 := hide (dtext_any (HD.out.later HLm.out) (HSZ.out _ HTm.out) (by have h1 := HNh.out; simp only [List.length_append, List.length_map, List.length_take]; omega) hfd12)
          clear ho12 hh12 hb12 hfd12 C11
          go_wp2_with (fail)
          refine C12.out.mono ?_
          rintro e wn ⟨vn, rfl, hd, hb, _⟩
          have HDn := hide hd
          have HTn := hide (HTm.out.trans hb)
          clear hd hb C12
          go_wp2
          go_roundw
          case rel =>
            refine ⟨q + 1, by omega, by go_num, ?_, (HI.out _).2 HTn.out⟩
            have h := HDn.out
            rw [List.take_add_one, HOK.out]
            simpa only [Option.toList_some, List.map_append, List.map_cons, List.map_nil, List.append_assoc] using h
          case measure => simp [Go.RowKit.intOf]; omega
        · obtain rfl : q = n2 := by omega
          have hps : p15 ++ (m.ops.take q).map (fun x => prow 16 (opB x)) = p15 ++ m.ops.map fun x => prow 16 (opB x) := by rw [List.take_of_length_le (by have h1 := HPN.out; have h2 := HN2.out; omega)]
          rw [hps] at HD
          have hnl : (p15 ++ m.ops.map fun x => prow 16 (opB x)).length ≤ 1000 := by have h1 := HNh.out; have h2 := HNO.out; simp only [List.length_append, List.length_map]; omega
          obtain ⟨p16, hp16⟩ : ∃ p16, (p15 ++ m.ops.map fun x => prow 16 (opB x)) = p16 := ⟨_, rfl⟩
          rw [hp16] at HD hnl
          have HP16 := hide hp16
          have HN16 := hide hnl
          have c33 : wr.cell? ⟨w.heap.size, 33, none⟩ = some (.slice iA n3 ic) := box_at (HS.out _ HB2.out) 33 _ rfl
          clear hps hp16 hnl
          obtain ⟨i0, hi, hz0, hz1, hz2⟩ := info_parts Tryz.infoRef9
          go_wp2
          clear c33
          go_loopw [3, 118] (fun lv j wr => ∃ u : Nat, u ≤ n3 ∧ j = .int .i64 (u : Int) ∧ DR wr (w.heap.size + 2) lv (p16 ++ (m.incs.take u).map fun x => pint 17 x) ∧ In wr) (fun _ j _ => n3 - (Go.RowKit.intOf j).toNat)
          case atStart => exact ⟨0, by omega, rfl, by simpa using HD.out, (HI.out _).2 HB2.out⟩
          case round =>
            obtain ⟨u, hu, rfl, hdr, hbw⟩ := hrel
            have HDu := hide hdr
            have HBu := hide ((HI.out _).1 hbw)
            have HLu := hide (HLW.out _ ((HI.out _).1 hbw))
            clear hdr hbw
            by_cases hlt2 : u < n3
            · obtain ⟨x, b, off, ic2, hpk, hv, _, _, _, hc⟩ := IncsAt.at_ (HIN.out.kept (Kept.of_below HLu.out F)) (i := u) (by rw [HN3.out]; exact hlt2)
              obtain ⟨rfl, rfl⟩ : iA = some ⟨b, off, none⟩ ∧ ic = ic2 := by injection hv with e1 _ e3; exact ⟨e1, e3⟩
              have HPK := hide hpk
              have HXI := hide (HWF.out.2.2.2.2.2.2.2.2.2.2.2.2.2.2.2.2.2.2.2.2 x (List.mem_of_getElem? hpk))
              obtain ⟨fds, hdr1, hdr2⟩ := HDu.out
              have hfl : fds.length ≤ 1300 := by have h1 := congrArg List.length hdr2; have h2 := HN16.out; simp only [List.length_map, List.length_append, List.length_take] at h1; omega
              have HR1 := hide hdr1
              have HR2 := hide hdr2
              have HFL := hide hfl
              have O1 := hide (HR1.out.1.alloc (.cells #[.int .i64 17, .bool false, .int .u64 (zig x : Nat), .slice none 0 0] 92))
              have HZu := hide (HSZ.out _ HBu.out)
              clear hpk hv hdr1 hdr2 hfl
              go_wp2_with (fail)
              refine (refzig_any x _ HXI.out.1 HXI.out.2).mono ?_
              rintro e w1 ⟨rfl, rfl⟩
              have hzu := HZu.out
              have hfl := HFL.out
              go_wp2_with (at_builtin; refine wpList_append_own_at _ rfl (.tmp 122) (.tmp 126) 71 rfl (w.heap.size + 2) 92 i0 _ 4 48 Tryz.underlying71 hi hz0 hz1 hz2 rfl (by omega) _ fds.length (fcells fds) rfl O1.out ⟨wr.heap.size, 0, none⟩ 1 1 [.int .i64 17, .bool false, .int .u64 (zig x : Nat), .slice none 0 0] rfl rfl (cells_new wr [.int .i64 17, .bool false, .int .u64 (zig x : Nat), .slice none 0 0] 92) (by intro u hu; simp at hu; rcases hu with rfl | rfl | rfl | rfl <;> rfl) (by simp only [maxLen]; omega) (by omega) (by simp; omega) ?_; intro x2 w2 o2 g2 _ _)
              have hA := (adds_one (f := ⟨17, false, zig x, none, 0, 0, []⟩) HR1.out (FdAt.plain ⟨by omega, by omega⟩ (zig_lt x HXI.out.1 HXI.out.2)) rfl o2 g2).dr HR1.out HR2.out HZu.out
              obtain ⟨v2, hv2, hd2, hb2, _⟩ := hA
              obtain rfl : x2 = v2 := by injection hv2
              have HD2 := hide (show DR w2 (w.heap.size + 2) x2 ((p16 ++ (m.incs.take u).map fun x => pint 17 x) ++ [pint 17 x]) from hd2)
              have HB3 := hide (HBu.out.trans hb2)
              clear o2 g2 hd2 hb2 hv2 hzu hfl
              go_roundw
              case rel =>
                refine ⟨u + 1, by omega, by go_num, ?_, (HI.out _).2 HB3.out⟩
                have h := HD2.out
                rw [List.take_add_one, HPK.out]
                simpa only [Option.toList_some, List.map_append, List.map_cons, List.map_nil, List.append_assoc] using h
              case measure => simp [Go.RowKit.intOf]; omega
            · obtain rfl : u = n3 := by omega
              have hall : p16 ++ (m.incs.take u).map (fun x => pint 17 x) = msgF m := by
                rw [List.take_of_length_le (by have h1 := HN3.out; omega), inn_msg_split, ← HP16.out, ← HP15.out, ← HP12.out, ← HP9.out]
                rfl
              rw [hall] at HDu
              have C := hide (dwrite_any HDu.out HROOM.out)
              clear hall
              go_wp2_with (fail)
              refine C.out.mono ?_
              rintro e w1 ⟨A2, nn2, c2, rfl, h1, h2, h3, h4⟩
              have H1 := hide (own_base h1 (Below.size HLu.out))
              have H2 := hide h2
              have H4 := hide (HLu.out.trans h4)
              clear h1 h2 h4 C
              go_wp2
              go_ret
              exact ⟨A2, nn2, c2, rfl, H1.out, H2.out, h3, H4.out⟩
end Go.Proofs.YtehiaeihkdfclaaGreatDoor
/- The walk over droverref09.may: may all these numbers be? -/
namespace Go.Proofs.YtehiaeihkdfclaaGreatDoor
open Go.RowKit

theorem all_next {l : List Int} {q : Nat} {x : Int} (h : (l.take q).all mayB = true) (hx : l[q]? = some x) (h0 : 0 ≤ x) (h1 : x ≤ 1099511627776) : (l.take (q + 1)).all mayB = true := by
  rw [List.take_add_one, hx, List.all_append, h]
  simp [mayB, h0, h1]
theorem all_no {l : List Int} {q : Nat} {x : Int} (hx : l[q]? = some x) (h0 : mayB x = false) : false = l.all mayB := by
  symm
  rw [Bool.eq_false_iff]
  intro h
  rw [List.all_eq_true] at h
  rw [h x (List.mem_of_getElem? hx)] at h0
  cases h0

set_option maxHeartbeats 1000000 in
set_option maxRecDepth 100000 in
theorem rmay_any {w : World} {A : Option Addr} {n c : Nat} {F : Nat → Prop} {l : List Int} (h : IncsAt F w (.slice A n c) l) (hn : n = l.length) :
    Calls Tryz.prog 27 #[.slice A n c] w fun e w' => e = .returned (.bool (l.all mayB)) ∧ w' = w := by
  have hnb : n ≤ 9223372036854775807 := by
    obtain ⟨_, _, hv, h1, h2, _⟩ := FlatAt.shape h
    injection hv with _ e2 e3
    unfold maxLen at h2
    omega
  have H := hide h
  have HN := hide hn
  clear h hn
  go_enter Tryz.func27, Tryz.ntmps27
  go_wp2
  go_loop [7] (fun i => ∃ q : Nat, q ≤ n ∧ i = .int .i64 (q : Int) ∧ (l.take q).all mayB = true) (fun i => n - (intOf i).toNat)
  case atStart => exact ⟨0, by omega, rfl, rfl⟩
  case round =>
    obtain ⟨q, hq, rfl, hall⟩ := hrel
    have HA := hide hall
    clear hall
    by_cases hlt : q < n
    · obtain ⟨x, b, off, c', hx, hv, _, _, _, hc⟩ := IncsAt.at_ H.out (i := q) (by rw [← HN.out]; exact hlt)
      obtain ⟨rfl, rfl⟩ : A = some ⟨b, off, none⟩ ∧ c = c' := by injection hv with e1 _ e3; exact ⟨e1, e3⟩
      have HX := hide hx
      clear hx hv
      by_cases h0 : x < 0
      · have HQ := hide (all_no HX.out (by simp [mayB]; omega))
        go_wp2
        go_ret
        exact ⟨ret_bool HQ.out, rfl⟩
      · by_cases h1 : 1099511627776 < x
        · have HQ := hide (all_no HX.out (by simp [mayB]; omega))
          go_wp2
          go_ret
          exact ⟨ret_bool HQ.out, rfl⟩
        · have HQ := hide (all_next HA.out HX.out (by omega) (by omega))
          go_wp2
          go_round
          case rel => exact ⟨q + 1, by omega, by go_num, HQ.out⟩
          case measure => simp [intOf]; omega
    · have hall : true = l.all mayB := by
        have h1 := HA.out
        rw [List.take_of_length_le (by have := HN.out; omega)] at h1
        exact h1.symm
      have HALL := hide hall
      clear hall
      go_wp2
      go_ret
      exact ⟨ret_bool HALL.out, rfl⟩
end Go.Proofs.YtehiaeihkdfclaaGreatDoor
/- The walk over droverref09.GoodOp. -/
namespace Go.Proofs.YtehiaeihkdfclaaGreatDoor
open Go.RowKit

theorem steps_no {l : List StepD} {q : Nat} {s : StepD} (hs : l[q]? = some s) (h : stepG s = false) : l.all stepG = false := by
  rw [Bool.eq_false_iff]
  intro h2
  rw [List.all_eq_true] at h2
  rw [h2 s (List.mem_of_getElem? hs)] at h
  cases h
theorem steps_next {l : List StepD} {q : Nat} {s : StepD} (h : (l.take q).all stepG = true) (hs : l[q]? = some s) (hg : stepG s = true) : (l.take (q + 1)).all stepG = true := by
  rw [List.take_add_one, hs, List.all_append, h]
  simp [hg]

set_option maxHeartbeats 800000 in
set_option maxRecDepth 100000 in
theorem rgoodop_any {G : Nat → Prop} {sA : Option Addr} {m sc : Nat} {x : OpD} {w : World} (hl : StepsAt G w (.slice sA m sc) x.steps) (hm : m = x.steps.length) :
    Calls Tryz.prog 12 #[.agg #[.int .i64 x.kind, .int .i64 x.client, .int .i64 x.request, .string x.name, .slice sA m sc, .int .i64 x.saga, .int .i64 x.step, .int .i64 x.try_, .bool x.back, .bool x.good]] w fun e w' => e = .returned (.bool (opG x)) ∧ Later w w' := by
  obtain ⟨t, ht⟩ : ∃ t, [x.client, x.request, x.saga, x.step, x.try_].all mayB = t := ⟨_, rfl⟩
  have hnb : m ≤ 9223372036854775807 := by
    obtain ⟨_, _, hv, h1, h2, _⟩ := FlatAt.shape hl
    injection hv with _ e2 e3
    unfold maxLen at h2
    omega
  have HLL := hide hl
  have HM := hide hm
  have HX0 : Hid ((w.alloc (.cells #[.int .i64 x.kind, .int .i64 x.client, .int .i64 x.request, .string x.name, .slice sA m sc, .int .i64 x.saga, .int .i64 x.step, .int .i64 x.try_, .bool x.back, .bool x.good] 26 (0, 0))).heap[w.heap.size]? = some (.cells #[.int .i64 x.kind, .int .i64 x.client, .int .i64 x.request, .string x.name, .slice sA m sc, .int .i64 x.saga, .int .i64 x.step, .int .i64 x.try_, .bool x.back, .bool x.good] 26 (0, 0))) := heap_alloc_new _ _
  have HL0 : Hid (Later w (w.alloc (.cells #[.int .i64 x.kind, .int .i64 x.client, .int .i64 x.request, .string x.name, .slice sA m sc, .int .i64 x.saga, .int .i64 x.step, .int .i64 x.try_, .bool x.back, .bool x.good] 26 (0, 0)))) := Later.alloc _ _
  have C := rmay_any (incs_new [x.client, x.request, x.saga, x.step, x.try_] (w.alloc (.cells #[.int .i64 x.kind, .int .i64 x.client, .int .i64 x.request, .string x.name, .slice sA m sc, .int .i64 x.saga, .int .i64 x.step, .int .i64 x.try_, .bool x.back, .bool x.good] 26 (0, 0))) (by simp)) rfl
  rw [ht] at C
  simp only [World.size_alloc, List.map_cons, List.map_nil, List.length_cons, List.length_nil, Nat.zero_add, Nat.reduceAdd] at C
  have HC := hide C
  have HT := hide ht
  clear hl hm C ht
  by_cases k0 : 0 ≤ x.kind
  · by_cases k1 : x.kind ≤ 5
    · have K0 := hide k0
      have K1 := hide k1
      go_enter Tryz.func12, Tryz.ntmps12
      go_wp2_with (fail)
      refine HC.out.mono ?_
      rintro e w1 ⟨rfl, hw1⟩
      have HL1 : Hid (Later w w1) := by rw [hw1]; exact HL0.out.trans (Later.alloc _ _)
      have hx1 : w1.heap[w.heap.size]? = some (.cells #[.int .i64 x.kind, .int .i64 x.client, .int .i64 x.request, .string x.name, .slice sA m sc, .int .i64 x.saga, .int .i64 x.step, .int .i64 x.try_, .bool x.back, .bool x.good] 26 (0, 0)) := by rw [hw1]; exact (Below.block (Later.alloc _ _) w.heap.size (lt_of_block HX0.out)).trans HX0.out
      have c3 := box_at hx1 3 _ rfl
      have c4 := box_at hx1 4 _ rfl
      clear hw1 hx1 HC
      cases t with
      | false =>
        clear c3 c4
        go_wp2
        go_ret
        exact ⟨ret_bool (by have h := HT.out; simp only [List.all_cons, List.all_nil] at h; unfold opG; simp only [Bool.and_true] at h; simp only [Bool.and_assoc] at h ⊢; rw [h]; simp), HL1.out⟩
      | true =>
        by_cases n1 : x.name.size ≤ 16
        · by_cases n2 : m ≤ 8
          · have N1 := hide n1
            have N2 := hide n2
            go_wp2
            clear c3 c4
            go_loopw [46] (fun i wr => ∃ q : Nat, q ≤ m ∧ i = .int .i64 (q : Int) ∧ (x.steps.take q).all stepG = true ∧ Later w wr) (fun i _ => m - (intOf i).toNat)
            case atStart => exact ⟨0, by omega, rfl, rfl, HL1.out⟩
            case round =>
              obtain ⟨q, hq, rfl, hall, hlat⟩ := hrel
              have HA := hide hall
              have HLW := hide hlat
              clear hall hlat
              by_cases hlt : q < m
              · obtain ⟨s, b, off, c', hsk, hv, _, _, hbw, hr⟩ := StepsAt.at_ (HLL.out.kept (Kept.of_below HLW.out G)) (i := q) (by rw [← HM.out]; exact hlt)
                obtain ⟨rfl, rfl⟩ : sA = some ⟨b, off, none⟩ ∧ sc = c' := by injection hv with e1 _ e3; exact ⟨e1, e3⟩
                obtain ⟨r0, r1, r2, r3, r4, r5⟩ := range_step hr
                have HSK := hide hsk
                obtain ⟨t2, ht2⟩ : ∃ t, [s.stub, s.retry, s.wait].all mayB = t := ⟨_, rfl⟩
                have C := rmay_any (incs_new [s.stub, s.retry, s.wait] (wr.alloc (.cells #[.string s.name, .int .i64 s.stub, .int .i64 s.retry, .int .i64 s.wait, .bool s.undo, .bool s.pivot] 68 (0, 0))) (by simp)) rfl
                rw [ht2] at C
                simp only [World.size_alloc, List.map_cons, List.map_nil, List.length_cons, List.length_nil, Nat.zero_add, Nat.reduceAdd] at C
                have HC := hide C
                have HT2 := hide ht2
                have HW8 : Hid (Later w (wr.alloc (.cells #[.string s.name, .int .i64 s.stub, .int .i64 s.retry, .int .i64 s.wait, .bool s.undo, .bool s.pivot] 68 (0, 0)))) := HLW.out.trans (Later.alloc _ _)
                clear hsk hv hr C ht2
                by_cases n3 : s.name.size ≤ 16
                · have N3 := hide n3
                  go_wp2_with (fail)
                  refine HC.out.mono ?_
                  rintro e w2 ⟨rfl, hw2⟩
                  have HL2 : Hid (Later w w2) := by rw [hw2]; exact HW8.out.trans (Later.alloc _ _)
                  have hsg : stepG s = t2 := by
                    have h := HT2.out
                    simp only [List.all_cons, List.all_nil, Bool.and_true] at h
                    unfold stepG
                    rw [decide_eq_true N3.out, ← h]
                    simp [Bool.and_assoc]
                  have HSG := hide hsg
                  clear hw2 hsg HC r0 r1 r2 r3 r4 r5
                  cases t2 with
                  | false =>
                    have HNO := hide (steps_no HSK.out HSG.out)
                    go_wp2
                    go_ret
                    exact ⟨ret_bool (by unfold opG defG; rw [show x.defn.steps = x.steps from rfl, HNO.out]; simp), HL2.out⟩
                  | true =>
                    have HNX := hide (steps_next HA.out HSK.out HSG.out)
                    go_wp2
                    go_roundw
                    case rel => exact ⟨q + 1, by omega, by go_num, HNX.out, HL2.out⟩
                    case measure => simp [intOf]; omega
                · have HNO := hide (steps_no HSK.out (by unfold stepG; rw [decide_eq_false n3]; rfl))
                  clear HC
                  go_wp2
                  go_ret
                  exact ⟨ret_bool (by unfold opG defG; rw [show x.defn.steps = x.steps from rfl, HNO.out]; simp), HW8.out⟩
              · have hall : x.steps.all stepG = true := by
                  have h1 := HA.out
                  rwa [List.take_of_length_le (by have := HM.out; omega)] at h1
                have HALL := hide hall
                clear hall
                go_wp2
                go_ret
                refine ⟨ret_bool ?_, HLW.out⟩
                have h := HT.out
                simp only [List.all_cons, List.all_nil, Bool.and_true, Bool.and_eq_true] at h
                unfold opG defG
                have h8 : x.defn.steps.length ≤ 8 := by have h1 := HM.out; have h2 := N2.out; show x.steps.length ≤ 8; omega
                have h16 : x.defn.name.size ≤ 16 := N1.out
                rw [show x.defn.steps.all stepG = true from HALL.out, decide_eq_true K0.out, decide_eq_true K1.out, decide_eq_true h8, decide_eq_true h16]
                simp [h]
          · have N2 := hide n2
            go_wp2
            go_ret
            exact ⟨ret_bool (by have h8 : ¬ x.defn.steps.length ≤ 8 := by { have h1 := HM.out; have h2 := N2.out; show ¬ x.steps.length ≤ 8; omega }; unfold opG defG; rw [decide_eq_false h8]; simp), HL1.out⟩
        · have N1 := hide n1
          go_wp2
          go_ret
          exact ⟨ret_bool (by have h8 : ¬ x.defn.name.size ≤ 16 := N1.out; unfold opG defG; rw [decide_eq_false h8]; simp), HL1.out⟩
    · have K1 := hide k1
      go_enter Tryz.func12, Tryz.ntmps12
      go_wp2
      go_ret
      exact ⟨ret_bool (by unfold opG; rw [decide_eq_false (Int.not_le.2 K1.out)]; simp), HL0.out⟩
  · have K0 := hide k0
    go_enter Tryz.func12, Tryz.ntmps12
    go_wp2
    go_ret
    exact ⟨ret_bool (by unfold opG; rw [decide_eq_false (Int.not_le.2 K0.out)]; simp), HL0.out⟩
end Go.Proofs.YtehiaeihkdfclaaGreatDoor
/- The walks over droverref02's Sum, four, Seal. -/
namespace Go.Proofs.YtehiaeihkdfclaaGreatDoor
open Go.RowKit

/-- Bit by bit: behind i bits of x the sum stands so. -/
def stN : Nat → Nat → Nat
  | 0, s => s
  | i + 1, s => st (stN i s)
theorem stN_8 (s : Nat) : stN 8 s = st8 s := rfl
def BitAt (s x i r : Nat) : Prop := i ≤ 8 ∧ r < 4294967296 ∧ x < 256 ∧ stN i (s ^^^ x) = r ^^^ x / 2 ^ i
theorem bitAt_start {s x : Nat} (hs : s < 4294967296) (hx : x < 256) : BitAt s x 0 s := ⟨by omega, hs, hx, by simp [stN]⟩
theorem BitAt.small {s x i r : Nat} (h : BitAt s x i r) : i ≤ 8 ∧ r < 4294967296 ∧ x < 256 := ⟨h.1, h.2.1, h.2.2.1⟩
theorem BitAt.all {s x i r : Nat} (h : BitAt s x i r) (hi : ¬ i < 8) : st8 (s ^^^ x) = r := by
  have e : i = 8 := by have := h.1; omega
  have h2 := h.2.2.2
  have : x / 2 ^ 8 = 0 := by have := h.2.2.1; omega
  rw [e, this, Nat.xor_zero] at h2
  exact h2
theorem st_split (r y : Nat) : st (r ^^^ y) = (if r % 2 ^^^ y % 2 = 1 then r / 2 ^^^ 3988292384 else r / 2) ^^^ y / 2 := by
  apply Nat.eq_of_testBit_eq
  intro i
  have hb (a : Nat) : a % 2 = (a.testBit 0).toNat := by rw [Nat.testBit_zero]; rcases Nat.mod_two_eq_zero_or_one a with h | h <;> simp [h]
  rw [st_bit, hb r, hb y, Nat.testBit_xor, Nat.testBit_xor]
  have h1 : r.testBit (i + 1) = (r / 2).testBit i := Nat.testBit_succ _ _
  have h2 : y.testBit (i + 1) = (y / 2).testBit i := Nat.testBit_succ _ _
  cases r.testBit 0 <;> cases y.testBit 0 <;> simp [Nat.testBit_xor, h1, h2] <;> cases (r / 2).testBit i <;> cases (y / 2).testBit i <;> cases Nat.testBit 3988292384 i <;> rfl
theorem BitAt.next {s x i r b : Nat} (h : BitAt s x i r) (hi : i < 8) (hb : b = r % 2 ^^^ x / 2 ^ i % 2) : BitAt s x (i + 1) (if b = 1 then r / 2 ^^^ 3988292384 else r / 2) := by
  have hr := h.2.1
  refine ⟨hi, ?_, h.2.2.1, ?_⟩
  · split
    · exact Nat.xor_lt_two_pow (n := 32) (by omega) (by omega)
    · omega
  · show st (stN i (s ^^^ x)) = _
    rw [h.2.2.2, st_split, ← hb, Nat.div_div_eq_div_mul, ← Nat.pow_succ]
theorem u32_and1 (s : Nat) (h : s < 4294967296) : bits .and .u32 (s : Int) 1 = ((s % 2 : Nat) : Int) := by
  have := u32_and_nat s 1 h (by omega)
  rw [nat_mask1] at this
  exact this

set_option maxHeartbeats 1000000 in
set_option maxRecDepth 100000 in
theorem refsum_any (A : Option Addr) (n c B : Nat) (l : List Nat) (w : World) (hl : Holds w B A n l) (hn : n ≤ 1099511627000) :
    Calls Tryz.prog 75 #[.slice A n c] w fun e w' => e = .returned (.int .u32 (sum l : Nat)) ∧ w = w' := by
  have S0 : SumAt l n 0 4294967295 := ⟨Nat.zero_le _, hl.1, hl.2.1, rfl⟩
  go_enter Tryz.func75, Tryz.ntmps75
  go_wp2
  go_loop [3, 10] (fun vs vk => ∃ k s : Nat, SumAt l n k s ∧ vk = .int .i64 k ∧ vs = .int .u32 s) (fun _ vk => n - (intOf vk).toNat)
  case atStart => exact ⟨0, 4294967295, S0, rfl, rfl⟩
  case round =>
    obtain ⟨k, s, hat, rfl, rfl⟩ := hrel
    have hk := hat.le
    have hs := hat.small
    have Hat := hide hat
    clear hat
    by_cases h : k < n
    · have hx := Hat.out.byte h
      obtain ⟨b, off, rfl, _, hcs⟩ := hl.2.2 (by omega)
      have hc := hcs k h
      clear hcs
      have hnext := Hat.out.next h
      generalize l.getD k 0 = x at hx hc hnext
      have Hnext := hide hnext
      have hb0 := bitAt_start hs hx
      clear hnext
      go_wp2
      go_loop [3, 6] (fun vs vi => ∃ i r : Nat, BitAt s x i r ∧ vi = .int .i64 i ∧ vs = .int .u32 r) (fun _ vi => 8 - (intOf vi).toNat)
      case atStart => exact ⟨0, s, hb0, rfl, rfl⟩
      case round =>
        obtain ⟨i, r, bat, rfl, rfl⟩ := hrel
        obtain ⟨hi8, hr, _⟩ := bat.small
        have Bat := hide bat
        clear bat hb0
        by_cases h8 : i < 8
        · obtain ⟨p, hp⟩ : ∃ p, p = x / 2 ^ i := ⟨_, rfl⟩
          obtain ⟨b, hb⟩ : ∃ b, b = r % 2 ^^^ p % 2 := ⟨_, rfl⟩
          have hbn := Bat.out.next h8 (b := b) (by rw [hb, hp])
          have hp256 : p < 256 := by rw [hp]; exact Nat.lt_of_le_of_lt (Nat.div_le_self _ _) hx
          have e1 : (x : Int) / 2 ^ i = (p : Int) := by rw [hp]; push_cast; rfl
          have e4 : bits .xor .u32 (bits .and .u32 (r : Int) 1) (bits .and .u32 (p : Int) 1) = (b : Int) := by
            rw [u32_and1 r hr, u32_and1 p (by omega), hb]
            exact u32_xor_nat (r % 2) (p % 2) (by omega) (by omega)
          have Hb := hide hb
          have Hp := hide hp
          have Hbn := hide hbn
          clear hb hp hbn
          by_cases h1 : b = 1
          · have hr2 := Hbn.out
            rw [if_pos h1] at hr2
            have e5 : bits .xor .u32 ((r : Int) / 2) 3988292384 = ((r / 2 ^^^ 3988292384 : Nat) : Int) := u32_xor_nat (r / 2) 3988292384 (by omega) (by omega)
            have Hr2 := hide hr2
            clear hr2
            generalize r / 2 ^^^ 3988292384 = r2 at e5 Hr2
            have h1' : ((b : Int) == 1) = true := by simp; omega
            go_wp2
            go_round
            case rel => exact ⟨i + 1, r2, Hr2.out, by go_num, rfl⟩
            case measure => simp [intOf]; omega
          · have hr2 := Hbn.out
            rw [if_neg h1] at hr2
            have Hr2 := hide hr2
            clear hr2
            have h1' : ((b : Int) == 1) = false := by simp; omega
            go_wp2
            go_round
            case rel => exact ⟨i + 1, r / 2, Hr2.out, by go_num, by go_num⟩
            case measure => simp [intOf]; omega
        · have hall := hide (Bat.out.all h8)
          go_wp2
          go_round
          case rel => exact ⟨k + 1, _, Hnext.out, by go_num, by rw [hall.out]⟩
          case measure => simp [intOf]; omega
    · have hsum : sum l = s ^^^ 4294967295 := by rw [Hat.out.all h]; rfl
      have e1 : bits .xor .u32 (s : Int) 4294967295 = ((sum l : Nat) : Int) := by
        rw [hsum]
        exact u32_xor_nat s 4294967295 hs (by omega)
      go_wp2
      go_ret
      exact ⟨rfl, rfl⟩

theorem four_any (S : Nat) (w : World) (hS : S < 4294967296) :
    Calls Tryz.prog 74 #[.int .u32 S] w (NewBytes w (four S)) := by
  have HS := hide hS
  clear hS
  obtain ⟨a, ha⟩ : ∃ a, a = S % 256 := ⟨_, rfl⟩
  obtain ⟨b, hb⟩ : ∃ b, b = S / 256 % 256 := ⟨_, rfl⟩
  obtain ⟨c, hc⟩ : ∃ c, c = S / 65536 % 256 := ⟨_, rfl⟩
  obtain ⟨d, hd⟩ : ∃ d, d = S / 16777216 % 256 := ⟨_, rfl⟩
  have e1 : (S : Int) % 256 = (a : Int) := by omega
  have e2 : (S : Int) / 256 % 256 = (b : Int) := by omega
  have e3 : (S : Int) / 65536 % 256 = (c : Int) := by omega
  have e4 : (S : Int) / 16777216 % 256 = (d : Int) := by omega
  have hf : four S = [a, b, c, d] := by rw [ha, hb, hc, hd]; rfl
  have hsm : ∀ x ∈ four S, x < 256 := four_small S
  rw [hf] at hsm ⊢
  have Hf := hide hf
  have Hsm := hide hsm
  have Ha := hide ha
  have Hb := hide hb
  have Hc := hide hc
  have Hd := hide hd
  clear hf hsm ha hb hc hd
  go_enter Tryz.func74, Tryz.ntmps74
  go_wp2
  go_ret
  refine newBytes_of (n := 4) ?_ Hsm.out ((Below.refl _ _).alloc (Nat.le_refl _) _)
  exact World.ownsRow_lit (size := 1) w (bvs [a, b, c, d]).toArray 4 (Nat.le_refl _) (by simp [maxLen]) rfl

set_option maxHeartbeats 1000000 in
set_option maxRecDepth 100000 in
theorem refseal_any (A : Option Addr) (n c B : Nat) (l : List Nat) (w : World) (hl : Holds w B A n l) (hB : B ≤ w.heap.size) (hn : n ≤ 9223372036854775807) :
    Calls Tryz.prog 33 #[.slice A n c] w (NewBytes w (sealed l)) := by
  have hlen := hl.1
  have hsm := hide (sealed_small hl.2.1)
  have Hl := hide hl
  clear hl
  by_cases hbig : 65536 < n
  · have e : sealed l = [] := by unfold sealed; rw [if_pos (by omega)]
    rw [e]
    have He := hide e
    clear e hlen
    go_enter Tryz.func33, Tryz.ntmps33
    go_wp2
    go_ret
    exact newBytes_nil w
  · have hp : sealP l = [3] ++ enc n ++ l := by simp [sealP, hlen]
    have e : sealed l = ([3] ++ enc n ++ l) ++ four (sum ([3] ++ enc n ++ l)) := by
      unfold sealed
      rw [if_neg (by omega), hp]
    have hsm2 := hide (sealP_small Hl.out.2.1)
    rw [hp] at hsm2
    obtain ⟨R, hR⟩ : ∃ R, R = sealed l := ⟨_, rfl⟩
    obtain ⟨q, hq⟩ : ∃ q, q = sum ([3] ++ enc n ++ l) := ⟨_, rfl⟩
    have hq32 : q < 4294967296 := by rw [hq]; exact sum_lt hsm2.out
    rw [← hR] at hsm ⊢
    rw [← hR, ← hq] at e
    have He := hide e
    have Hq := hide hq
    have Hlen := hide hlen
    have hel := (enc_len n).2
    clear e hlen hp hR hq
    obtain ⟨i0, hi, hz0, hz1, hz2⟩ := info_parts Tryz.infoU8
    go_enter Tryz.func33, Tryz.ntmps33
    go_wp2_with (fail)
    refine (refuint_any (some ⟨w.heap.size, 0, none⟩) 1 1 n [3] (w.heap.size + 1) _ (by omega) (by omega) (byte_holds w 3 (by omega) _) (by simp)).mono ?_
    rintro e w1 ⟨A1, n1, c1, rfl, o1, h1, _, b1⟩
    have hn1 : n1 = 1 + (enc n).length := by have := h1.1; simp at this; omega
    subst hn1
    have ba : Below w.heap.size w (w.alloc (.cells #[.int .u8 ((3 : Nat) : Int)] 5)) := (Below.refl _ _).alloc (Nat.le_refl _) _
    have L1 := hide (ba.trans (b1.mono (by simp)))
    have S1 : w.heap.size + 1 ≤ w1.heap.size := by simpa using b1.size
    have o1' := own_base (base' := w.heap.size) o1 (by simp)
    clear o1 b1 ba h1
    go_wp2_with (at_builtin; refine wpList_append_bytes _ rfl (.tmp 11) (.tmp 12) 38 rfl w.heap.size 5 i0 (.int .u8 0) Tryz.underlying38 hi hz0 hz1 hz2 rfl _ (1 + (enc n).length) ([3] ++ enc n |> bvs) rfl o1' B A n c l rfl (Hl.out.below (L1.out.mono hB)) (by omega) (by omega) ?_; intro v2 w2 o2 g2)
    have o2' : w2.ownsRow w.heap.size 5 1 v2 (1 + (enc n).length + n) (bvs ([3] ++ enc n ++ l)) := by
      rw [bvs_append]
      exact o2
    have b2 := g2.below o1' (by omega)
    have L2 := hide (L1.out.trans b2)
    have S2 := L2.out.size
    obtain ⟨A2, c2, rfl, hc2, _, h2⟩ := Holds.of_own o2' hsm2.out
    have H2 := hide h2
    have O2 := hide o2'
    clear o1' o2 g2 b2 o2' h2
    refine (refsum_any A2 _ c2 _ _ w2 H2.out (by omega)).mono ?_
    rintro e w3 ⟨rfl, rfl⟩
    rw [← Hq.out]
    go_wp2_with (fail)
    refine (four_any q w2 hq32).mono ?_
    rintro e w3 ⟨A3, n3, c3, rfl, _, h3, _, b3⟩
    obtain rfl : n3 = 4 := h3.1.symm.trans (four_len q)
    have o3 := own_below O2.out b3
    have S3 : w.heap.size ≤ w3.heap.size := Nat.le_trans S2 b3.size
    have L3 := hide (L2.out.trans (b3.mono S2))
    have H3 := hide h3
    clear b3 h3
    go_wp2_with (at_builtin; refine wpList_append_bytes _ rfl (.tmp 14) (.tmp 17) 38 rfl w.heap.size 5 i0 (.int .u8 0) Tryz.underlying38 hi hz0 hz1 hz2 rfl _ (1 + (enc n).length + n) _ rfl o3 _ A3 4 c3 _ rfl H3.out (by omega) S3 ?_; intro v4 w4 o4 g4)
    have o5 : w4.ownsRow w.heap.size 5 1 v4 (1 + (enc n).length + n + 4) (bvs R) := by
      rw [He.out, bvs_append]
      exact o4
    have L4 := hide (L3.out.trans (g4.below o3 S3))
    have O5 := hide o5
    clear o4 g4 o5 o3
    go_ret
    exact newBytes_of O5.out hsm.out L4.out
end Go.Proofs.YtehiaeihkdfclaaGreatDoor
