/- The walk over droverlaw01.lives: the document's examples are as it says. -/
import Derived.Test.YtjfcakpglbpeaaaRecord
import Derived.Test.YtjfcakpglbpeaaaUint
import Derived.Test.YtjfcakpglbpeaaaZig
import Derived.Laws.BytesArg
import Derived.Lib.SlBytesConst
namespace Go.Proofs.Ytjfcakpglbpeaaa
open Go.RowKit

/-- A string of these bytes. -/
def str (l : List Nat) : ByteArray := ⟨(l.map UInt8.ofNat).toArray⟩

theorem str_nums (l : List Nat) : strOfNums (l.map fun x : Nat => (x : Int)) = str l := by
  unfold strOfNums str
  simp

/-- 'string(b)'. -/
theorem run_str (w : World) (B : Nat) (A : Option Addr) (n c : Nat) (l : List Nat) (hl : Holds w B A n l) :
    (convert 22 9 (.slice A n c)).run Try.prog w = .ok (.string (str l)) w := by
  rcases Nat.eq_zero_or_pos n with h0 | h0
  · subst h0
    have hn : l = [] := List.eq_nil_of_length_eq_zero hl.1
    subst hn
    rw [run_convert_bytes_string w _ _ _ A 0 c Try.underlying22 Try.underlying5 Try.underlying9]
    cases A with
    | none => simp [Conv.bytesToString, str]; rfl
    | some a => simp [Conv.bytesToString, loadCells, loadCellsFrom, str]; rfl
  · obtain ⟨b, off, rfl, _, hc⟩ := hl.2.2 h0
    rw [← str_nums]
    exact run_convert_bytes_arg (P := Try.prog) w _ _ Try.underlying22 Try.underlying5 b off n c (l.map fun x : Nat => (x : Int)) (by simp [hl.1]) (fun i hi => by
      rw [hc i hi]
      have hl' : i < l.length := by rw [hl.1]; exact hi
      simp [List.getD, hl']) _ Try.underlying9

/-- The two fields of the example, as they lie in memory. -/
def egFields (g : Nat) : List Fd := [⟨1, false, 5, none, 0, 0, []⟩, ⟨2, true, 0, some ⟨g, 0, none⟩, 1, 1, [97]⟩]

theorem eg_holds (w w1 : World) (o1 : Obj) (o2 : Array Value) (ho1 : o1 = .cells #[.int .u8 97] 5 (1, 2))
    (ho2 : o2 = #[.int .i64 1, .bool false, .int .u64 5, .slice none 0 0, .int .i64 2, .bool true, .int .u64 0, .slice (some ⟨w.heap.size, 0, none⟩) 1 1])
    (hb : Below ((w.alloc o1).alloc (.cells o2 34)).heap.size ((w.alloc o1).alloc (.cells o2 34)) w1) : FHolds w1 w1.heap.size (some ⟨w.heap.size + 1, 0, none⟩) 2 (egFields w.heap.size) := by
  have hs := hb.size
  simp at hs
  have h1 : w1.heap[w.heap.size + 1]? = some (.cells o2 34 (0, 0)) := by
    rw [hb.block _ (by simp)]
    have := heap_alloc_new (w.alloc o1) (.cells o2 34)
    simpa using this
  have h0 : w1.heap[w.heap.size]? = some o1 := by
    rw [hb.block _ (by simp; omega), Below.heap_alloc _ _ _ (by simp)]
    exact heap_alloc_new w o1
  have hc : ∀ q, w1.cell? ⟨w.heap.size + 1, q, none⟩ = o2[q]? := fun q => cell_of_row w1 _ q o2 _ (0, 0) h1
  have hd : w1.cell? ⟨w.heap.size, 0, none⟩ = some (.int .u8 97) := by
    rw [ho1] at h0
    exact cell_of_row w1 _ 0 _ _ (1, 2) h0
  subst ho2
  refine ⟨rfl, ?_, fun _ => ⟨w.heap.size + 1, 0, rfl, by omega, ?_⟩⟩
  · intro f hf
    simp only [egFields, List.mem_cons, List.not_mem_nil, or_false] at hf
    rcases hf with rfl | rfl
    · exact ⟨⟨by decide, by decide⟩, by decide, Nat.le_refl _, Holds.nil_ _ _⟩
    · refine ⟨⟨?_, ?_⟩, ?_, Nat.le_refl _, rfl, ?_, fun _ => ⟨_, 0, rfl, by omega, fun i hi => ?_⟩⟩
      · show (-9223372036854775808 : Int) ≤ 2
        omega
      · show (2 : Int) < 9223372036854775808
        omega
      · show 0 < 18446744073709551616
        omega
      · show ∀ x ∈ [97], x < 256
        decide
      have : i = 0 := by
        have : i < 1 := hi
        omega
      subst this
      exact hd
  · intro i f hf j u hu
    match i, hf with
    | 0, hf =>
      simp only [egFields, List.getElem?_cons_zero, Option.some.injEq] at hf
      subst hf
      match j, hu with
      | 0, hu => rw [hc]; exact hu
      | 1, hu => rw [hc]; exact hu
      | 2, hu => rw [hc]; exact hu
      | 3, hu => rw [hc]; exact hu
      | j + 4, hu => simp [Fd.cells] at hu
    | 1, hf =>
      simp only [egFields, List.getElem?_cons_succ, List.getElem?_cons_zero, Option.some.injEq] at hf
      subst hf
      match j, hu with
      | 0, hu => rw [hc]; exact hu
      | 1, hu => rw [hc]; exact hu
      | 2, hu => rw [hc]; exact hu
      | 3, hu => rw [hc]; exact hu
      | j + 4, hu => simp [Fd.cells] at hu
    | i + 2, hf => simp [egFields] at hf

theorem zig_three (w : World) : Calls Try.prog 14 #[.int .i64 (-3)] w fun e w' => e = .returned (.int .u64 5) ∧ w = w' :=
  (zig_any (-3) w (by omega) (by omega)).mono fun e w' ⟨he, hw⟩ => ⟨he.trans (ret_int (by decide)), hw⟩

set_option maxHeartbeats 1000000 in
set_option maxRecDepth 100000 in
theorem lives_any (w : World) :
    Calls Try.prog 9 #[] w fun e w' => e = .returned (.bool true) ∧ Below w.heap.size w w' := by
  have kc := fun (w : World) (C : Array Value) (n c : Nat) => Lib.run_convert_bytes_const (P := Try.prog) w 22 5 C n c Try.underlying22 Try.underlying5
  go_enter Try.func9, Try.ntmps9
  go_wp2_with (fail)
  refine (uint_new none 0 0 300 [] 0 _ (by omega) (by omega) (Holds.nil_ _ _) (Nat.zero_le _)).mono ?_
  rintro e w1 ⟨A1, n1, c1, rfl, _, h1, _, b1⟩
  have hs1 := run_str w1 _ A1 n1 c1 _ h1
  have he1 : str ([] ++ enc 300) = ⟨#[172, 2]⟩ := by decide
  rw [he1] at hs1
  have H1 := hide (eg_holds w w1 _ _ rfl rfl b1)
  have B1 := hide b1
  clear h1 he1 b1
  go_wp2_with (fail)
  refine (zig_three w1).mono ?_
  rintro e w2 ⟨rfl, rfl⟩
  go_wp2_with (fail)
  refine (write_new _ 2 2 _ _ H1.out (by simp [room, egFields]) (by omega)).mono ?_
  rintro e w3 ⟨A3, n3, c3, rfl, _, h3, _, b3⟩
  have hs3 := run_str w3 _ A3 n3 c3 _ h3
  have he3 : str (recOf (egFields w.heap.size)) = ⟨#[2, 5, 5, 1, 97]⟩ := by
    simp [recOf, egFields, Fd.bytes, Fd.good]
    decide
  rw [he3] at hs3
  have B3 := hide b3
  clear h3 he3 b3
  go_wp2
  go_ret
  have l1 := ((Below.refl w.heap.size w).alloc (Nat.le_refl _) (.cells #[.int .u8 97] 5 (1, 2))).alloc (by simp) _ |>.trans (B1.out.mono (by simp; omega))
  exact ⟨rfl, l1.trans (B3.out.mono l1.size)⟩
end Go.Proofs.Ytjfcakpglbpeaaa
