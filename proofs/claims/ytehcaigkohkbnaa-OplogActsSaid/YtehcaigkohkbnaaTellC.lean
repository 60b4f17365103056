/- tell of package oplog, with its closures: Commit, At, Since. -/
import Derived.Test.YtehcaigkohkbnaaLogPut
import Derived.RegionTactic
import Derived.BigRegion
import Derived.Deep.QuietTactic
import Derived.BigQuiet
import Derived.Lib.MinMax
namespace Go.Proofs.Ytehcaigkohkbnaa
open Go.RowKit

/-- How many are committed behind Commit(n). -/
def comTo (c len : Nat) (n : Int) : Nat := max c (min n.toNat len)
theorem comTo_int (c len : Nat) (n : Int) : ((comTo c len n : Nat) : Int) = max (c : Int) (min n (len : Int)) := by unfold comTo; omega
theorem comTo_le (c len : Nat) (n : Int) (h : c ≤ len) : comTo c len n ≤ len ∧ c ≤ comTo c len n := by unfold comTo; omega
/-- Behind which one Since(n) begins. -/
def fromOf (len : Nat) (n : Int) : Nat := min n.toNat len
theorem fromOf_int (len : Nat) (n : Int) : ((fromOf len n : Nat) : Int) = min (max n 0) (len : Int) := by unfold fromOf; omega
theorem fromOf_le (len : Nat) (n : Int) : fromOf len n ≤ len := by unfold fromOf; omega

section
variable {S F : Nat → Prop} {l k base c : Nat} {v : Value} {ps : List (OpD × Value)}
theorem own_low {w : World} {base base' e n : Nat} {v : Value} {xs : List Value} (h : w.ownsRow base e 10 v n xs) (hb : base' ≤ base) : w.ownsRow base' e 10 v n xs := by
  refine ⟨h.1, ?_⟩
  rcases h.2 with h0 | ⟨g, cap, cur, hv, h1, h2⟩
  · exact .inl h0
  · exact .inr ⟨g, cap, cur, hv, Nat.le_trans hb h1, h2⟩
/-- What a closure hands back: operations of the log; what is committed may have risen. -/
def Asked (Z S : Nat → Prop) (w : World) (l k base : Nat) (v : Value) (ps : List (OpD × Value)) (c' : Nat) (qs : List (OpD × Value)) (e : Ending) (w' : World) : Prop :=
  ∃ v', e = .returned v' ∧ OpsIn S w' v' qs ∧ LogAt S w' l k base v ps c' ∧ Turned Z w w'
/-- What tell hands back. -/
def Told (Z S : Nat → Prop) (w : World) (l k base : Nat) (v : Value) (ps : List (OpD × Value)) (c' : Nat) (qs : List (OpD × Value)) (e : Ending) (w' : World) : Prop :=
  ∃ v' rs, e = .returned v' ∧ rs.map (·.1) = qs.map (·.1) ∧ OpsFree (w.heap.size ≤ ·) w' v' rs ∧ w'.ownsRow w.heap.size 33 10 v' rs.length (opcells rs) ∧ LogAt S w' l k base v ps c' ∧ Turned Z w w'

set_option maxHeartbeats 1000000 in
theorem commit_closure (n : Int) (b : Nat) (w : World) (h : LogAt S w l k base v ps c) (hb : w.heap[b]? = some (.cells #[.int .i64 n] 3 (0, 0))) :
    Calls Try.prog 59 #[.pointer (some ⟨k, 0, none⟩), .pointer (some ⟨b, 0, none⟩)] w (Asked (fun i => i = k) S w l k base v ps (comTo c ps.length n) ((ps.take (comTo c ps.length n)).drop c)) := by
  obtain ⟨A, cp, rfl, h1, h2⟩ := h.parts.shape
  obtain ⟨k0, k1, _, kf⟩ := h.parts.cells
  have b0 : w.cell? ⟨b, 0, none⟩ = some (.int .i64 n) := cell_of_row w b 0 _ _ _ hb
  obtain ⟨hc1, hc2⟩ := comTo_le c ps.length n h.parts.com
  have hcv := comTo_int c ps.length n
  generalize comTo c ps.length n = c' at hc1 hc2 hcv ⊢
  have HC := hide hcv.symm
  have H2 : Hid (LogAt S (w.setCell ⟨k, 1, none⟩ (.int .i64 (c' : Int))).drew l k base (.slice A ps.length cp) ps c') := (h.commits hc1).keep (Kept.drew _ _)
  have HT : Hid (Turned (fun i => i = k) w (w.setCell ⟨k, 1, none⟩ (.int .i64 (c' : Int))).drew) := (Turned.of_grown (grown_set w k 1 _) fun g e => (Option.some.inj e).symm).trans (Turned.drewN _ _ 1)
  have C := hide (part_any c c' _ H2.out.parts hc2 hc1)
  generalize (ps.take c').drop c = qs at C ⊢
  clear h hcv hc1 hc2
  go_enter Try.func59, Try.ntmps59
  go_wp2
  go_region
  rw [HC.out]
  go_wp2_with (fail)
  refine C.out.mono ?_
  rintro e w1 ⟨v1, rfl, ho, rfl⟩
  obtain ⟨A1, c1, rfl, _, _, _⟩ := ho.1.shape
  have HO := hide ho
  clear ho C
  go_wp2
  go_ret
  exact ⟨_, rfl, HO.out, H2.out, HT.out⟩

set_option maxHeartbeats 1000000 in
theorem since_closure (n : Int) (b : Nat) (w : World) (h : LogAt S w l k base v ps c) (hb : w.heap[b]? = some (.cells #[.int .i64 n] 3 (0, 0))) :
    Calls Try.prog 66 #[.pointer (some ⟨k, 0, none⟩), .pointer (some ⟨b, 0, none⟩)] w (Asked (fun _ => False) S w l k base v ps c (ps.drop (fromOf ps.length n))) := by
  obtain ⟨A, cp, rfl, h1, h2⟩ := h.parts.shape
  obtain ⟨k0, k1, _, kf⟩ := h.parts.cells
  have b0 : w.cell? ⟨b, 0, none⟩ = some (.int .i64 n) := cell_of_row w b 0 _ _ _ hb
  have hF := fromOf_le ps.length n
  have hfv := fromOf_int ps.length n
  generalize fromOf ps.length n = m at hF hfv ⊢
  have HC := hide hfv.symm
  have H := hide h
  have C := hide (part_any m ps.length w h.parts hF (Nat.le_refl _))
  rw [List.take_length] at C
  generalize ps.drop m = qs at C ⊢
  clear h hfv hF
  go_enter Try.func66, Try.ntmps66
  go_wp2_with (fail)
  rw [HC.out]
  refine C.out.mono ?_
  rintro e w1 ⟨v1, rfl, ho, rfl⟩
  obtain ⟨A1, c1, rfl, _, _, _⟩ := ho.1.shape
  have HO := hide ho
  clear ho C
  go_wp2
  go_ret
  exact ⟨_, rfl, HO.out, H.out, Turned.refl _ _⟩

set_option maxHeartbeats 1000000 in
theorem at_closure_no (n : Int) (b : Nat) (w : World) (h : LogAt S w l k base v ps c) (hb : w.heap[b]? = some (.cells #[.int .i64 n] 3 (0, 0))) (hn : n < 1 ∨ (ps.length : Int) < n) :
    Calls Try.prog 64 #[.pointer (some ⟨k, 0, none⟩), .pointer (some ⟨b, 0, none⟩)] w (Asked (fun _ => False) S w l k base v ps c []) := by
  obtain ⟨A, cp, rfl, h1, h2⟩ := h.parts.shape
  obtain ⟨k0, k1, _, kf⟩ := h.parts.cells
  have b0 : w.cell? ⟨b, 0, none⟩ = some (.int .i64 n) := cell_of_row w b 0 _ _ _ hb
  have H := hide h
  clear h
  by_cases e1 : n < 1
  · clear hn
    go_enter Try.func64, Try.ntmps64
    go_wp2
    go_quiet (fail)
    go_wp2
    go_ret
    exact ⟨_, rfl, ⟨FlatAt.nil_ _ _ 10, by simp⟩, H.out.keep (Kept.drewN _ _ _), Turned.drewN _ _ _⟩
  · have e2 : (ps.length : Int) < n := by omega
    clear hn
    go_enter Try.func64, Try.ntmps64
    go_wp2
    go_quiet (fail)
    go_wp2
    go_ret
    exact ⟨_, rfl, ⟨FlatAt.nil_ _ _ 10, by simp⟩, H.out.keep (Kept.drewN _ _ _), Turned.drewN _ _ _⟩
set_option maxHeartbeats 1000000 in
theorem at_closure_yes (n : Nat) (x : Int) (b : Nat) (w : World) (h : LogAt S w l k base v ps c) (hb : w.heap[b]? = some (.cells #[.int .i64 x] 3 (0, 0))) (hx : x = (n : Int) + 1) (hn : n < ps.length) :
    Calls Try.prog 64 #[.pointer (some ⟨k, 0, none⟩), .pointer (some ⟨b, 0, none⟩)] w (Asked (fun _ => False) S w l k base v ps c ((ps.take (n + 1)).drop n)) := by
  obtain ⟨A, cp, rfl, h1, h2⟩ := h.parts.shape
  obtain ⟨k0, k1, _, kf⟩ := h.parts.cells
  have b0 : w.cell? ⟨b, 0, none⟩ = some (.int .i64 x) := cell_of_row w b 0 _ _ _ hb
  have hl := h.parts.len
  have H := hide h
  have C : Hid (∀ q, Calls Try.prog 60 #[.pointer (some ⟨k, 0, none⟩), .int .i64 (x - 1), .int .i64 x] (w.drewN q) fun e w' => ∃ v', e = .returned v' ∧ OpsIn S (w.drewN q) v' ((ps.take (n + 1)).drop n) ∧ w.drewN q = w') := fun q => by
    have := part_any n (n + 1) (w.drewN q) (h.keep (Kept.drewN _ _ _)).parts (by omega) (by omega)
    rw [show ((n + 1 : Nat) : Int) = x from by omega, show (n : Int) = x - 1 from by omega] at this
    exact this
  generalize (ps.take (n + 1)).drop n = qs at C ⊢
  have t1 : ¬ x < 1 := by omega
  have t2 : ¬ (ps.length : Int) < x := by omega
  have t3 : x ≤ 2000 := by omega
  clear h hx hn
  go_enter Try.func64, Try.ntmps64
  go_wp2
  go_quiet (fail)
  go_wp2_with (fail)
  refine (C.out _).mono ?_
  rintro e w1 ⟨v1, rfl, ho, rfl⟩
  obtain ⟨A1, c1, rfl, _, _, _⟩ := ho.1.shape
  have HO := hide ho
  clear ho C
  go_wp2
  go_ret
  exact ⟨_, rfl, HO.out, H.out.keep (Kept.drewN _ _ _), Turned.drewN _ _ _⟩
end
end Go.Proofs.Ytehcaigkohkbnaa
