/- The walk over field.put: behind a row of the call's own stand the groups of the number. -/
import Derived.Test.YtjbnilippcdgeaaDoorMem
import Derived.Test.YtjbnilippcdgeaaDoorBits
import Derived.Test.YtjbnilippcdgeaaDoorRows
import Derived.WalkLawsBesides
namespace Go.Proofs.YtjbnilippcdgeaaDoor
open Go.RowKit

theorem Tryd.infoU8 : (Tryd.prog.info? 5).map (fun i => (i.zero, i.size, i.bytes)) = some (some (.int .u8 0), 1, 1) := by kernel_rfl

/-- Where the loop stands: the groups k are written, those of v are still to come. -/
def PutAt (V f v m n : Nat) (k : List Nat) : Prop := v < 18446744073709551616 ∧ v < 2 * 128 ^ f ∧ enc V = k ++ encF f v ∧ f ≤ 9 ∧ m = n + k.length

theorem putAt_start {V : Nat} (h : V < 18446744073709551616) (n : Nat) : PutAt V 9 V n n [] := ⟨h, u64_groups h, rfl, Nat.le_refl _, rfl⟩
section
variable {V f v m n : Nat} {k : List Nat}
theorem PutAt.room (h : PutAt V f v m n k) (hn : n ≤ 1099511627776) : m ≤ 1099511627787 := by
  have h1 := enc_len V
  rw [h.2.2.1, List.length_append] at h1
  have := h.2.2.2.2
  omega
theorem PutAt.mask (h : PutAt V f v m n k) : bits .and .u64 (v : Int) 127 = ((v % 128 : Nat) : Int) := u64_low7 v h.1
theorem PutAt.last (h : PutAt V f v m n k) (hz : v / 128 = 0) : enc V = k ++ [v % 128] := by
  rw [h.2.2.1]
  cases f with
  | zero => simp [encF]
  | succ f => simp [encF, hz]
theorem PutAt.next (h : PutAt V f v m n k) (hz : ¬ v / 128 = 0) : ∃ f', PutAt V f' (v / 128) (m + 1) n (k ++ [v % 128 + 128]) := by
  obtain ⟨h1, h2, h3, h4, h5⟩ := h
  cases f with
  | zero => simp at h2; omega
  | succ f =>
    refine ⟨f, by omega, by rw [Nat.pow_succ] at h2; omega, ?_, by omega, by simp; omega⟩
    rw [h3]
    simp [encF, hz]
end

set_option maxHeartbeats 400000 in
theorem put_any (base n V : Nat) (bv0 : Value) (l : List Nat) (w : World) (hV0 : V < 18446744073709551616) (hn : n ≤ 1099511627776) (hbase : base ≤ w.heap.size)
    (ho : w.ownsRow base 5 1 bv0 n (bvs l)) :
    Calls Tryd.prog 21 #[bv0, .int .u64 V] w fun e w' => ∃ v', e = .returned v' ∧ w'.ownsRow base 5 1 v' (n + (enc V).length) (bvs (l ++ enc V)) ∧ Went w bv0.ownBlock w' v'.ownBlock := by
  have HV := hide hV0
  clear hV0
  obtain ⟨i0, hi, hz0, hz1, hz2⟩ := info_parts Tryd.infoU8
  go_enter Tryd.func21, Tryd.ntmps21
  go_wp2
  go_step3
  go_wp2
  go_step3
  go_wp2
  go_loopw [0, 1] (fun b vv wr => ∃ (f v m : Nat) (k : List Nat), PutAt V f v m n k ∧ vv = .int .u64 v ∧ wr.ownsRow base 5 1 b m (bvs (l ++ k)) ∧ Went w bv0.ownBlock wr b.ownBlock) (fun _ vv _ => (intOf vv).toNat)
  case atStart => exact ⟨9, V, n, [], putAt_start HV.out n, rfl, by simpa using ho, Went.refl _ _⟩
  case round =>
    obtain ⟨f, v, m, k, hput, rfl, hown, hbel⟩ := hrel
    have hmm := hput.room hn
    obtain ⟨g, hg⟩ : ∃ g, g = v % 128 := ⟨_, rfl⟩
    obtain ⟨c, hc⟩ : ∃ c, c = g + 128 := ⟨_, rfl⟩
    have hand : bits .and .u64 (v : Int) 127 = (g : Int) := by rw [hg]; exact hput.mask
    have hor : bits .or .u8 (g : Int) 128 = (c : Int) := by rw [hc]; exact u8_more g (by omega)
    have hgs : g < 128 := by omega
    have hcs : c < 256 := by omega
    have hsz := hbel.size
    have Hg := hide hg
    have Hc := hide hc
    clear hg hc
    by_cases h : v / 128 = 0
    · have ht : ((v : Int) / 128 == 0) = true := by simp; omega
      have Hz := hide h
      clear h
      go_wp2_with (at_builtin; refine wpList_append_own_at _ rfl (.tmp 19) (.tmp 21) 22 rfl base 5 i0 _ 1 1 Tryd.underlying22 hi hz0 hz1 hz2 rfl (by omega) _ m (bvs (l ++ k)) rfl (hown.alloc _) ⟨wr.heap.size, 0, none⟩ 1 1 (bvs [g]) rfl rfl (cell_one_new _ _ _) (bvs_cell _) (by simp only [maxLen]; omega) (by omega) (by simp; omega) ?_; intro v1 w1 hown1 hg1 _ hat1)
      rw [Exit.noGoto_ret]
      go_ret
      refine ⟨v1, rfl, ?_, (hbel.alloc _).trans (.of_at hg1 hat1)⟩
      rw [hput.last Hz.out, ← Hg.out, ← List.append_assoc, bvs_append, List.length_append, ← Nat.add_assoc, ← hput.2.2.2.2]
      exact hown1
    · have ht : ((v : Int) / 128 == 0) = false := by simp; omega
      have Hz := hide h
      clear h
      go_wp2_with (at_builtin; refine wpList_append_own_at _ rfl (.tmp 12) (.tmp 15) 22 rfl base 5 i0 _ 1 1 Tryd.underlying22 hi hz0 hz1 hz2 rfl (by omega) _ m (bvs (l ++ k)) rfl (hown.alloc _) ⟨wr.heap.size, 0, none⟩ 1 1 (bvs [c]) rfl rfl (cell_one_new _ _ _) (bvs_cell _) (by simp only [maxLen]; omega) (by omega) (by simp; omega) ?_; intro v1 w1 hown1 hg1 _ hat1)
      obtain ⟨f', hnext⟩ := hput.next Hz.out
      rw [← Hg.out, ← Hc.out] at hnext
      go_roundw
      case rel =>
        refine ⟨f', v / 128, m + 1, k ++ [c], hnext, by go_num, ?_, (hbel.alloc _).trans (.of_at hg1 hat1)⟩
        rw [← List.append_assoc, bvs_append]
        exact hown1
      case measure =>
        have := Hz.out
        simp [intOf]
        omega
theorem put_int (base n : Nat) (V : Int) (bv0 : Value) (l : List Nat) (w : World) (h0 : 0 ≤ V) (hV : V < 18446744073709551616) (hn : n ≤ 1099511627776) (hbase : base ≤ w.heap.size)
    (ho : w.ownsRow base 5 1 bv0 n (bvs l)) :
    Calls Tryd.prog 21 #[bv0, .int .u64 V] w fun e w' => ∃ v', e = .returned v' ∧ w'.ownsRow base 5 1 v' (n + (enc V.toNat).length) (bvs (l ++ enc V.toNat)) ∧ Went w bv0.ownBlock w' v'.ownBlock := by
  obtain ⟨k, rfl⟩ := Int.eq_ofNat_of_zero_le h0
  exact put_any base n k bv0 l w (by omega) hn hbase ho
end Go.Proofs.YtjbnilippcdgeaaDoor
