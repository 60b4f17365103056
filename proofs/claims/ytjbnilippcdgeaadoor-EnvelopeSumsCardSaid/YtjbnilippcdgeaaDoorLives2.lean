/- The walk over droverlaw02.lives: the document's examples are as it says. -/
import Derived.Test.YtjbnilippcdgeaaDoorOpenE
namespace Go.Proofs.YtjbnilippcdgeaaDoor
open Go.RowKit

theorem eg_sealed : sealed [] = [3, 0, 60, 65, 244, 106] := by decide
set_option maxRecDepth 100000 in
theorem eg_sum : sum [49, 50, 51, 52, 53, 54, 55, 56, 57] = 3421780262 := by decide
theorem eg_opn : opn [3, 0, 60, 65, 244, 106] = ([], 6, 0) := by
  have h := opn_sealed (l := []) [] (by simp)
  rw [List.append_nil, eg_sealed] at h
  exact h
theorem open_is (A : Option Addr) (n c : Nat) (l p : List Nat) (k er : Nat) (w : World) (hl : Holds w w.heap.size A n l) (hn : n ≤ 1099511627000) (hc : n ≤ c) (hT : Tab w) (h : opn l = (p, k, er)) :
    Calls Tryd.prog 12 #[.slice A n c] w fun e w' => ∃ A1 n1 c1, e = .returned (.tuple #[.slice A1 n1 c1, .int .i64 k, .int .i64 er]) ∧ Holds w' w'.heap.size A1 n1 p ∧ n1 ≤ c1 ∧ Later w w' :=
  (open_any A n c l w hl hn hc hT).mono fun e w' ⟨A1, n1, c1, h1, h2, h3, h4⟩ => by
    rw [h] at h1 h2
    exact ⟨A1, n1, c1, h1, h2, h3, h4⟩
theorem lit_holds (w : World) (l : List Nat) (hl : ∀ x ∈ l, x < 256) (t : TypeId) (fz : Nat × Nat) (n : Nat) (hn : l.length = n) : Holds (w.alloc (.cells (bvs l).toArray t fz)) (w.heap.size + 1) (some ⟨w.heap.size, 0, none⟩) n l := by
  refine ⟨hn, hl, fun _ => ⟨w.heap.size, 0, rfl, by omega, fun i hi => ?_⟩⟩
  have hg := bvs_get (l := l) (i := i) (by omega)
  rw [Nat.zero_add, World.cell?, heap_alloc_new]
  simpa using hg

set_option maxHeartbeats 1000000 in
set_option maxRecDepth 100000 in
theorem lives_any (w : World) (hT : Tab w) :
    Calls Tryd.prog 7 #[] w fun e w' => e = .returned (.bool true) ∧ Later w w' := by
  have HT := hide hT
  clear hT
  have kc := fun (w : World) (C : Array Value) (n c : Nat) => Lib.run_convert_bytes_const (P := Tryd.prog) w 22 5 C n c Tryd.underlying22 Tryd.underlying5
  go_enter Tryd.func7, Tryd.ntmps7
  go_wp2_with (fail)
  refine (seal_any none 0 0 0 [] _ (Holds.nil_ _ _) (Nat.zero_le _) (by omega) HT.out).mono ?_
  rintro e w1 ⟨A1, n1, c1, rfl, _, h1, hc1, b1⟩
  rw [eg_sealed] at h1
  obtain rfl : n1 = 6 := h1.1.symm
  obtain ⟨b, off, rfl, hb, hcs⟩ := h1.2.2 (by omega)
  have k0 := hcs 0 (by omega)
  have k1 := hcs 1 (by omega)
  rw [Nat.add_zero] at k0
  simp only [List.getD, List.getElem?_cons_zero, List.getElem?_cons_succ, Option.getD_some] at k0 k1
  have H1 := hide h1
  have L1 := hide (show Later w w1 from b1)
  clear h1 b1 hcs
  go_wp2_with (fail)
  refine (open_is _ 6 c1 _ _ _ _ w1 H1.out (by omega) hc1 (HT.out.later L1.out) eg_opn).mono ?_
  rintro e w2 ⟨A2, n2, c2, rfl, h2, hc2, b2⟩
  obtain rfl : n2 = 0 := h2.1.symm
  have L2 := hide (L1.out.trans b2)
  have k0' : w2.cell? ⟨b, off, none⟩ = some (.int .u8 3) := (b2.cell (p := ⟨b, off, none⟩) hb).trans k0
  have k1' : w2.cell? ⟨b, off + 1, none⟩ = some (.int .u8 0) := (b2.cell (p := ⟨b, off + 1, none⟩) hb).trans k1
  clear h2 b2 k0 k1 H1
  go_wp2_with (fail)
  refine (sum_any (some ⟨w2.heap.size, 0, none⟩) 9 9 _ [49, 50, 51, 52, 53, 54, 55, 56, 57] _ (lit_holds w2 [49, 50, 51, 52, 53, 54, 55, 56, 57] (by decide) 5 (9, 10) 9 rfl) (by omega) ((HT.out.later L2.out).below ((Below.refl w2.heap.size _).alloc (Nat.le_refl _) _) (HT.out.later L2.out).1)).mono ?_
  rintro e w3 ⟨rfl, rfl⟩
  rw [eg_sum]
  go_wp2
  go_ret
  exact ⟨rfl, L2.out.trans ((Below.refl _ _).alloc (Nat.le_refl _) _)⟩
end Go.Proofs.YtjbnilippcdgeaaDoor
