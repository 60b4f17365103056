/- The walk over droverlaw01.plain: the same fields in the document's form, in new memory. -/
import Derived.Test.YtjfcakpglbpeaaaLight
namespace Go.Proofs.Ytjfcakpglbpeaaa
open Go.RowKit

theorem Try.infoRef : (Try.prog.info? 37).map (fun i => (i.zero, i.size, i.bytes)) = some (some (.agg #[.int .i64 0, .bool false, .int .u64 0, .slice none 0 0]), 4, 48) := by kernel_rfl

theorem cells_new (w : World) (cs : List Value) (t : TypeId) : ∀ j u, cs[j]? = some u → (w.alloc (.cells cs.toArray t)).cell? ((⟨w.heap.size, 0, none⟩ : Addr).add j) = some u := by
  intro j u hu
  rw [Addr.add_lit, cell_of_row _ _ _ cs.toArray t (0, 0) (by exact heap_alloc_new w _)]
  simpa using hu

/-- The same fields, their bytes where they were. -/
def Samed (fs gs : List Fd) : Prop := gs = fs

set_option maxHeartbeats 400000 in
theorem plain_own (A : Option Addr) (n c : Nat) (fs : List Fd) (w : World) (hf : FHolds w w.heap.size A n fs) (hn : n ≤ 1000000000) :
    Calls Try.prog 23 #[.slice A n c] w fun e w' => ∃ A' c', e = .returned (.slice A' n c') ∧ n ≤ c' ∧ FHolds w' w'.heap.size A' n fs ∧ w'.ownsRow w.heap.size 37 4 (.slice A' n c') n (fcells fs) ∧ Below w.heap.size w w' := by
  obtain ⟨i0, hi, hz0, hz1, hz2⟩ := info_parts Try.infoRef
  have HF := hide hf
  clear hf
  go_enter Try.func23, Try.ntmps23
  go_wp2
  go_loopw [3, 8] (fun v i wr => ∃ k : Nat, k ≤ n ∧ i = .int .i64 k ∧ wr.ownsRow w.heap.size 37 4 v k (fcells (fs.take k)) ∧ Below w.heap.size w wr) (fun _ i _ => n - (intOf i).toNat)
  case atStart => exact ⟨0, by omega, rfl, by simpa [fcells] using World.ownsRow_nil _ _ _ _, Below.refl _ _⟩
  case round =>
    obtain ⟨k, hk, rfl, hown, hbel⟩ := hrel
    by_cases hlt : k < n
    · obtain ⟨f, b, off, hfk, hok, rfl, hbB, c0, c1, c2, c3, htk⟩ := (HF.out.below hbel).at_ hlt
      obtain ⟨num, text, v, a, fn, fc, fb⟩ := f
      simp only at c0 c1 c2 c3
      have Htk := hide htk
      have hsz := hbel.size
      have Hown := hide hown
      clear htk hok hfk hown
      go_wp2_with (at_builtin; refine wpList_append_own_at _ rfl (.tmp 12) (.tmp 14) 42 rfl w.heap.size 37 i0 _ 4 48 Try.underlying42 hi hz0 hz1 hz2 rfl (by omega) _ k (fcells (fs.take k)) rfl ((Hown.out.alloc _).alloc _) ⟨wr.heap.size + 1, 0, none⟩ 1 1 [.int .i64 num, .bool text, .int .u64 v, .slice a fn fc] rfl rfl (by have := cells_new (wr.alloc (.cells #[.int .i64 num, .bool text, .int .u64 v, .slice a fn fc] 34)) [.int .i64 num, .bool text, .int .u64 v, .slice a fn fc] 37; rw [World.size_alloc] at this; exact this) (by intro u hu; simp at hu; rcases hu with rfl | rfl | rfl | rfl <;> rfl) (by simp only [maxLen]; omega) (by omega) (by simp; omega) ?_; intro v1 w1 hown1 hg1 _ _)
      have Ho1 := hide hown1
      have Hb1 : Hid (Below w.heap.size wr w1) := ((Below.refl _ _).alloc hsz _).alloc (by simp; omega) _ |>.trans (by
        exact (Below.refl _ _).grown hg1 (by simp; omega) fun g hg => (Hown.out.lt g hg).1)
      clear hown1 hg1
      go_roundw
      case rel =>
        refine ⟨k + 1, by omega, by go_num, ?_, hbel.trans Hb1.out⟩
        rw [Htk.out, fcells_snoc]
        exact Ho1.out
      case measure => simp [intOf]; omega
    · have Hk : Hid (fs.take k = fs ∧ k = n) := by
        have := HF.out.1
        exact ⟨List.take_of_length_le (by omega), by omega⟩
      have Hown := hide hown
      clear hown
      go_wp2
      go_ret
      obtain ⟨e1, rfl⟩ := Hk.out
      have ho := Hown.out
      rw [e1] at ho
      obtain ⟨A', c', rfl, h1, h2⟩ := FHolds.of_own ho fun f hf => ⟨(HF.out.2.1 f hf).1, (HF.out.2.1 f hf).2.1, (HF.out.2.1 f hf).2.2.1, ((HF.out.2.1 f hf).2.2.2.below hbel).more hbel.size⟩
      exact ⟨A', c', rfl, h1, h2, ho, hbel⟩
theorem plain_any (A : Option Addr) (n c : Nat) (fs : List Fd) (w : World) (hf : FHolds w w.heap.size A n fs) (hn : n ≤ 1000000000) :
    Calls Try.prog 23 #[.slice A n c] w fun e w' => ∃ A' c', e = .returned (.slice A' n c') ∧ n ≤ c' ∧ FHolds w' w'.heap.size A' n fs ∧ Below w.heap.size w w' :=
  (plain_own A n c fs w hf hn).mono fun _ _ ⟨A', c', h1, h2, h3, _, h5⟩ => ⟨A', c', h1, h2, h3, h5⟩
end Go.Proofs.Ytjfcakpglbpeaaa
