/- The walk over Stale of package vr: does a message come from an elder incarnation? -/
import Derived.Test.YtflphpjfmbkeiaaSl
import Derived.Test.YtflphpjfmbkeiaaBox
import Derived.Test.YtflphpjfmbkeiaaOrder
import Derived.Test.YtflphpjfmbkeiaaCopyRel
import Derived.Deep.QuietTactic
import Derived.BigQuiet
import Derived.Test.YtflphpjfmbkeiaaGrown
import Derived.Lib.MinMax
namespace Go.Proofs.Ytflphpjfmbkeiaa
open Go.RowKit

/-- Does it come from an elder incarnation than l knows, or from no node? -/
def staleB (l : List Int) (m : MsgD) : Bool :=
  if m.src < 1 ∨ (l.length : Int) < m.src ∨ (m.incs.length : Int) < m.src then true else decide (m.incs.getD (m.src.toNat - 1) 0 < l.getD (m.src.toNat - 1) 0)
theorem stale_out {l : List Int} {m : MsgD} (h : m.src < 1 ∨ (l.length : Int) < m.src ∨ (m.incs.length : Int) < m.src) : staleB l m = true := by rw [staleB, if_pos h]
theorem stale_in {l : List Int} {m : MsgD} {p : Nat} (h : m.src = (p : Int) + 1) (h1 : p < l.length) (h2 : p < m.incs.length) : staleB l m = decide (m.incs.getD p 0 < l.getD p 0) := by
  rw [staleB, if_neg (by omega), show m.src.toNat - 1 = p from by omega]

set_option maxHeartbeats 2000000 in
set_option maxRecDepth 100000 in
theorem stale_any {F G : Nat → Prop} {w : World} {v : Value} {l : List Int} {m : MsgD} {s o i : Value} (hl : SlI F w v l) (hm : IncsAt G w i m.incs) (hi : I64 m.src) :
    Calls Try.prog 13 #[v, .agg (m.cells s o i).toArray] w fun e w' => e = .returned (.bool (staleB l m)) ∧ Later w w' := by
  have HB : Hid (Later w (w.alloc (.cells (m.cells s o i).toArray 40 (0, 0)))) := (Below.refl _ _).alloc (Nat.le_refl _) _
  have hx : (w.alloc (.cells (m.cells s o i).toArray 40 (0, 0))).heap[w.heap.size]? = some (.cells (m.cells s o i).toArray 40 (0, 0)) := heap_alloc_new _ _
  have c1 := box_cell hx 1 (.int .i64 m.src) (by rfl)
  have c33 := box_cell hx 33 i (by rfl)
  obtain ⟨A, c, rfl, h1, h2⟩ := hl.shape
  obtain ⟨A2, c2, rfl, h3, h4, _⟩ := FlatAt.shape hm
  have HS := hide (hl.kept (Kept.of_below HB.out F))
  have HI := hide (hm.kept (Kept.of_below HB.out G))
  obtain ⟨n, hn⟩ : ∃ n, l.length = n := ⟨_, rfl⟩
  obtain ⟨k, hk⟩ : ∃ k, m.incs.length = k := ⟨_, rfl⟩
  rw [hn] at HS
  rw [hk] at HS HI c33 ⊢
  rw [hn]
  have hn2 : n ≤ maxLen := by omega
  have hk2 : k ≤ maxLen := by omega
  unfold maxLen at hn2 hk2
  have HN := hide hn
  have HK := hide hk
  obtain ⟨x, hx2⟩ : ∃ x, m.src = x := ⟨_, rfl⟩
  have HX := hide hx2
  have hxi : I64 x := by rw [← hx2]; exact hi
  unfold I64 at hxi
  clear hl hm hx h1 h2 h3 h4 hn hk hi
  unfold MsgD.cells at c1 c33 ⊢
  rw [hx2] at c1 c33 ⊢
  clear hx2
  by_cases hx1 : x < 1
  · have H : Hid (staleB l m = true) := by show _ = _; exact stale_out (.inl (by rw [HX.out]; exact hx1))
    go_enter Try.func13, Try.ntmps13
    go_wp2
    go_ret
    exact ⟨ret_bool H.out.symm, (Below.refl _ _).alloc (Nat.le_refl _) _⟩
  · obtain ⟨p, rfl⟩ : ∃ p : Nat, x = (p : Int) + 1 := ⟨(x - 1).toNat, by omega⟩
    by_cases hp : p < n ∧ p < k
    · obtain ⟨hp1, hp2⟩ := hp
      have H := hide (stale_in HX.out (l := l) (by rw [HN.out]; exact hp1) (by rw [HK.out]; exact hp2))
      obtain ⟨b, off, rfl, _, hc⟩ := HS.out.cell (i := p) hp1
      obtain ⟨y, b2, off2, c3, hy, hv, _, _, _, hc2⟩ := IncsAt.at_ HI.out (i := p) (by rw [HK.out]; exact hp2)
      obtain rfl : A2 = some ⟨b2, off2, none⟩ := by injection hv
      have hy2 : m.incs.getD p 0 = y := by simp [List.getD, hy]
      rw [hy2] at H
      obtain ⟨z, hz⟩ : ∃ z, l.getD p 0 = z := ⟨_, rfl⟩
      rw [hz] at hc H
      have hmin : decide (min (n : Int) (k : Int) < (p : Int) + 1) = false := by simp; omega
      unfold MsgD.cells at hc hc2
      rw [HX.out] at hc hc2
      clear hy hv hy2 hz
      go_enter Try.func13, Try.ntmps13
      go_wp2
      go_quiet (fail)
      go_wp2
      go_ret
      exact ⟨ret_bool H.out.symm, ((Below.refl _ _).alloc (Nat.le_refl _) _).trans (below_drewN _ _ _)⟩
    · have H : Hid (staleB l m = true) := by show _ = _; exact stale_out (.inr (by rw [HX.out, HN.out, HK.out]; omega))
      have hmin : decide (min (n : Int) (k : Int) < (p : Int) + 1) = true := by simp; omega
      go_enter Try.func13, Try.ntmps13
      go_wp2
      go_ret
      exact ⟨ret_bool H.out.symm, (Below.refl _ _).alloc (Nat.le_refl _) _⟩
end Go.Proofs.Ytflphpjfmbkeiaa
