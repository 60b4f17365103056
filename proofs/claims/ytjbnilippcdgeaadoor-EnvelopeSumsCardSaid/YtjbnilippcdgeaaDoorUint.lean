/- The walk over field.Uint: the bytes that came in, and the groups of the number behind them, in new memory. -/
import Derived.Test.YtjbnilippcdgeaaDoorPut
namespace Go.Proofs.YtjbnilippcdgeaaDoor
open Go.RowKit

set_option maxHeartbeats 400000 in
theorem uint_any (A : Option Addr) (n c V : Nat) (l : List Nat) (B : Nat) (w : World) (hV : V < 18446744073709551616) (hn : n ≤ 1099511627000) (hl : Holds w B A n l) (hB : B ≤ w.heap.size) :
    Calls Tryd.prog 13 #[.slice A n c, .int .u64 V] w fun e w' => ∃ v', e = .returned v' ∧ w'.ownsRow w.heap.size 5 1 v' (n + (enc V).length) (bvs (l ++ enc V)) ∧ Below w.heap.size w w' := by
  obtain ⟨i0, hi, hz0, hz1, hz2⟩ := info_parts Tryd.infoU8
  have HV := hide hV
  clear hV
  go_enter Tryd.func13, Tryd.ntmps13
  go_wp2_with (first
    | (at_make; refine wpList_make_own _ rfl _ _ 22 rfl w.heap.size 5 i0 (.int .u8 0) 1 Tryd.underlying22 hi hz0 hz1 _ _ _ (n + 10) rfl rfl (by omega) (by rw [hz2]; omega) (by simp only [maxLen]; omega) (Nat.le_refl _) ?_; intro w1 hown1 hg1)
    | (at_builtin; refine wpList_append_bytes _ rfl (.tmp 11) (.tmp 12) 22 rfl w.heap.size 5 i0 (.int .u8 0) Tryd.underlying22 hi hz0 hz1 hz2 rfl _ 0 [] rfl hown1 B A n c l rfl (hl.below ((Below.refl _ _).grown hg1 hB (by simp))) (by omega) hg1.size ?_; intro v2 w2 hown2 hg2)
    | (go_at_call 21; refine (put_any w.heap.size (0 + n) V _ l _ HV.out (by omega) (Nat.le_trans hg1.size hg2.size) hown2).mono ?_; rintro e w3 ⟨v3, rfl, hown3, hg3⟩))
  go_ret
  have b1 : Below w.heap.size w w1 := (Below.refl _ _).grown hg1 (Nat.le_refl _) (by simp)
  have b2 := hg2.below hown1 hg1.size
  have b3 := hg3.below hown2 (Nat.le_trans hg1.size hg2.size)
  exact ⟨v3, rfl, by simpa using hown3, (b1.trans b2).trans b3⟩
theorem uint_new (A : Option Addr) (n c V : Nat) (l : List Nat) (B : Nat) (w : World) (hV : V < 18446744073709551616) (hn : n ≤ 1099511627000) (hl : Holds w B A n l) (hB : B ≤ w.heap.size) :
    Calls Tryd.prog 13 #[.slice A n c, .int .u64 V] w (NewBytes w (l ++ enc V)) :=
  (uint_any A n c V l B w hV hn hl hB).mono fun e w' ⟨v', he, ho, hb⟩ => by
    subst he
    exact newBytes_of ho (fun x hx => by
      rcases List.mem_append.1 hx with h | h
      · exact hl.2.1 x h
      · exact enc_small V x h) hb
end Go.Proofs.YtjbnilippcdgeaaDoor
