/- The walks over the document's own numbers: droverref01.Uint, GetUint, Zig, Zag. -/
import Derived.Test.YtjbnilippcdgeaaDoorGet
import Derived.Test.YtjbnilippcdgeaaDoorPut
namespace Go.Proofs.YtjbnilippcdgeaaDoor
open Go.RowKit

set_option maxHeartbeats 1000000 in
theorem refuint_any (A : Option Addr) (n c V : Nat) (l : List Nat) (B : Nat) (w : World) (hV : V < 18446744073709551616) (hn : n ≤ 1099511627000) (hl : Holds w B A n l) (hB : B ≤ w.heap.size) :
    Calls Tryd.prog 15 #[.slice A n c, .int .u64 V] w (NewBytes w (l ++ enc V)) := by
  obtain ⟨i0, hi, hz0, hz1, hz2⟩ := info_parts Tryd.infoU8
  have HV := hide hV
  have Hl := hide hl
  clear hV hl
  go_enter Tryd.func15, Tryd.ntmps15
  go_wp2_with (at_builtin; refine wpList_append_bytes _ rfl (.tmp 7) (.tmp 8) 22 rfl w.heap.size 5 i0 (.int .u8 0) Tryd.underlying22 hi hz0 hz1 hz2 rfl _ 0 [] rfl (World.ownsRow_lit w #[] 0 (Nat.le_refl _) (by simp [maxLen]) rfl) B A n c l rfl (Hl.out.below ((Below.refl _ _).alloc hB _)) (by omega) (by simp) ?_; intro v2 w2 o2 g2)
  have l2 : Below w.heap.size w w2 := ((Below.refl _ _).alloc (Nat.le_refl _) _).trans (g2.below (World.ownsRow_lit w #[] 0 (Nat.le_refl _) (by simp [maxLen]) rfl) (by simp))
  have o2' : w2.ownsRow w.heap.size 5 1 v2 n (bvs (l ++ [])) := by simpa using o2
  clear o2 g2
  go_loopw [5, 1] (fun b vv wr => ∃ (f v m : Nat) (k : List Nat), PutAt V f v m n k ∧ vv = .int .u64 v ∧ wr.ownsRow w.heap.size 5 1 b m (bvs (l ++ k)) ∧ Below w.heap.size w wr) (fun _ vv _ => (intOf vv).toNat)
  case atStart => exact ⟨9, V, n, [], putAt_start HV.out n, rfl, o2', l2⟩
  case round =>
    obtain ⟨f, v, m, k, hput, rfl, hown, hbel⟩ := hrel
    have hmm := hput.room (by omega)
    obtain ⟨g, hg⟩ : ∃ g, g = v % 128 := ⟨_, rfl⟩
    obtain ⟨c, hc⟩ : ∃ c, c = g + 128 := ⟨_, rfl⟩
    have hrem : (v : Int) % 128 = (g : Int) := by omega
    obtain ⟨q, hq⟩ : ∃ q, q = v / 128 := ⟨_, rfl⟩
    have hquo : IntKind.u64.wrap ((v : Int) / 128) = (q : Int) := by
      have := hput.1
      rw [IntKind.wrap_u64]
      omega
    have Hq := hide hq
    have hadd : (g : Int) + 128 = (c : Int) := by omega
    have hgs : g < 128 := by omega
    have hcs : c < 256 := by omega
    have hsz := hbel.size
    have Hg := hide hg
    have Hc := hide hc
    clear hg hc hq o2' l2
    by_cases h : q = 0
    · have ht : ((q : Int) == 0) = true := by simp; omega
      have Hz : Hid (v / 128 = 0) := by show _ = _; rw [← Hq.out]; exact h
      clear h
      go_wp2_with (at_builtin; refine wpList_append_own_at _ rfl (.tmp 17) (.tmp 19) 22 rfl w.heap.size 5 i0 _ 1 1 Tryd.underlying22 hi hz0 hz1 hz2 rfl (by omega) _ m (bvs (l ++ k)) rfl (hown.alloc _) ⟨wr.heap.size, 0, none⟩ 1 1 (bvs [g]) rfl rfl (cell_one_new _ _ _) (bvs_cell _) (by simp only [maxLen]; omega) (by omega) (by simp; omega) ?_; intro v1 w1 hown1 hg1 _ hat1)
      go_ret
      refine newBytes_of (n := m + 1) ?_ (fun y hy => ?_) ((hbel.alloc (by omega) _).trans (Went.below (.of_at hg1 hat1) (hown.alloc _) (by simp; omega)))
      · rw [hput.last Hz.out, ← Hg.out, ← List.append_assoc, bvs_append]
        exact hown1
      · rcases List.mem_append.1 hy with h | h
        · exact Hl.out.2.1 y h
        · exact enc_small V y h
    · have ht : ((q : Int) == 0) = false := by simp; omega
      have Hz : Hid (¬ v / 128 = 0) := by show ¬ _; rw [← Hq.out]; exact h
      clear h
      go_wp2_with (at_builtin; refine wpList_append_own_at _ rfl (.tmp 21) (.tmp 24) 22 rfl w.heap.size 5 i0 _ 1 1 Tryd.underlying22 hi hz0 hz1 hz2 rfl (by omega) _ m (bvs (l ++ k)) rfl (hown.alloc _) ⟨wr.heap.size, 0, none⟩ 1 1 (bvs [c]) rfl rfl (cell_one_new _ _ _) (bvs_cell _) (by simp only [maxLen]; omega) (by omega) (by simp; omega) ?_; intro v1 w1 hown1 hg1 _ hat1)
      obtain ⟨f', hnext⟩ := hput.next Hz.out
      rw [← Hg.out, ← Hc.out] at hnext
      go_roundw
      case rel =>
        refine ⟨f', v / 128, m + 1, k ++ [c], hnext, by rw [Hq.out], ?_, (hbel.alloc (by omega) _).trans (Went.below (.of_at hg1 hat1) (hown.alloc _) (by simp; omega))⟩
        rw [← List.append_assoc, bvs_append]
        exact hown1
      case measure =>
        have := Hz.out
        have := Hq.out
        simp [intOf]
        omega
end Go.Proofs.YtjbnilippcdgeaaDoor
