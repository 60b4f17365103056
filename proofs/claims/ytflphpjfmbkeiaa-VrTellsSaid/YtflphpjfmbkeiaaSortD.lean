/- slices.SortFunc at ints, falling, by package vr's own comparison: what a row of the call's own holds behind it. -/
import Derived.Test.YtflphpjfmbkeiaaReachM
import Derived.Test.YtflphpjfmbkeiaaShelf
import Derived.Test.YtflphpjfmbkeiaaGrown
import Derived.Lib.RowBridge
import Derived.Lib.SortBridge
import Derived.WalkKit
namespace Go.Proofs.Ytflphpjfmbkeiaa
open Go.Shelf Go.RowKit Go.Lib Go.Sort

def cfD (x y : Int) : Int := Lib.compareInt y x
theorem ltD (x y : Int) : ltOf cfD x y = decide (y < x) := by
  unfold ltOf cfD Lib.compareInt
  by_cases h1 : y < x
  · simp [h1]
  · by_cases h2 : x < y <;> simp [h1, h2]
theorem swoD : SWO (ltOf cfD) where
  irrefl x := by rw [ltD]; simp
  trans x y z h1 h2 := by rw [ltD] at *; simp at *; omega
  ntrans x y z h1 h2 := by rw [ltD] at *; simp at *; omega
theorem totD (x y : Int) (h1 : ltOf cfD x y = false) (h2 : ltOf cfD y x = false) : x = y := by rw [ltD] at *; simp at *; omega
theorem geD : (fun x y : Int => !ltOf cfD y x) = fun x y => decide (y ≤ x) := by
  funext x y
  rw [ltD]
  by_cases h : y ≤ x
  · have h' : ¬ x < y := by omega
    simp [h, h']
  · have h' : x < y := by omega
    simp [h, h']

set_option maxHeartbeats 1000000 in
theorem closureD (x y : Int) (W : World) : Calls Try.prog 31 #[.int .i64 x, .int .i64 y] W fun e w' => e = .returned (.int .i64 (cfD x y)) ∧ ∃ q, w' = W.drewN q := by
  have hcon := AnyG.cmp_Compare_int Try.cmpD y x W
  change Calls Try.prog 32 _ _ _ at hcon
  unfold cfD
  generalize Lib.compareInt y x = r at hcon ⊢
  go_enter Try.func31, Try.ntmps31
  go_wp2_with (go_at_call 32; refine hcon.mono ?_; rintro e w' ⟨rfl, rfl⟩)
  go_ret
  exact ⟨rfl, 0, rfl⟩
theorem cmpReadsD (blk off size : Nat) (w : World) : CmpReads Try.prog 31 #[] (Value.int .i64) cfD blk off size w := fun _ _ _ _ x y => closureD x y _

theorem below_set_own {B : Nat} {a : World} (b : Nat) (hb : B ≤ b) : ∀ (vs : List Value) (o : Nat) {w : World}, Below B a w → Below B a (w.setCells b o vs)
  | [], _, _, h => h
  | v :: r, o, _, h => below_set_own b hb r (o + 1) (h.setCell (p := ⟨b, o, none⟩) hb v)
theorem below_grow_own {B : Nat} {a w : World} (os : Array Obj) (h : Below B a w) (hB : B ≤ w.heap.size) : Below B a (grow w os) :=
  h.trans ⟨rfl, rfl, rfl, by simp [grow], fun i hi => by
    show (w.heap ++ os)[i]? = _
    rw [Array.getElem?_append_left (by omega)]⟩

set_option maxHeartbeats 1000000 in
/-- Sorted, a row of the call's own holds its items falling; nothing below it has turned. -/
theorem sortd_any {w : World} {base g n c : Nat} {l : List Int} (hown : w.ownsRow base 3 1 (.slice (some ⟨g, 0, none⟩) n c) n (ivs l)) (hn : n ≤ 1000000) (hb : base ≤ w.heap.size) :
    Calls Try.prog 30 #[.slice (some ⟨g, 0, none⟩) n c, .func (.func 31) #[] #[]] w fun e w' =>
      e = .returned (.tuple #[]) ∧ (∀ j, j < n → w'.cell? ⟨g, j, none⟩ = some (.int .i64 ((falling l).getD j 0))) ∧ Below base w w' := by
  have hl : l.length = n := by have := hown.1; rw [ivs_len] at this; omega
  obtain ⟨hg, hlt⟩ : base ≤ g ∧ g < w.heap.size := by
    rcases hown.2 with ⟨h0, _⟩ | ⟨g', cap, cur, hv, hb', hg', _⟩
    · cases h0
    · simp only [Value.slice.injEq, Option.some.injEq, Addr.mk.injEq, and_true, true_and] at hv
      obtain ⟨rfl, _⟩ := hv
      exact ⟨hb', lt_of_block hg'⟩
  have hc : ∀ j, j < l.length → w.cell? ⟨g, 0 + j, none⟩ = some (.int .i64 (l.getD j 0)) := fun j hj => by rw [Nat.zero_add]; exact iown_cell hown (by omega)
  have hH : Go.Sort.Holds (Value.int .i64) w g 0 l.toArray := by
    have h := Lib.holds_of_ints (n := n) (b := g) (off := 0) (zs := l) (by omega) hc (fun j _ => by rw [Nat.zero_add]; exact iown_free hown j)
    rwa [List.take_of_length_le (by omega)] at h
  have eg : ∀ args w, (callFunc 31 args).run Try.prog w = .ok (.enter 31 args) w := enters_of Try.func31 (by kernel_rfl) rfl
  have hS := Any.slices_SortFunc_total Try.sortD (Value.int .i64) (fun _ => rfl) cfD swoD 31 #[] g 0 c l.toArray w eg (cmpReadsD g 0 _ w).lays hH hlt (by simp; omega) totD
  rw [geD] at hS
  change Calls Try.prog 30 _ _ _ at hS
  rw [show l.toArray.size = n from by simpa using hl] at hS
  refine hS.mono ?_
  rintro e w' ⟨rfl, q, os, rfl⟩
  have hy : (falling l).length = l.toArray.size := by rw [falling_len]; simp
  have e2 : sortWorld (Value.int .i64) w g 0 q ((l.toArray.toList.mergeSort fun x y => decide (y ≤ x)).toArray) os = grow ((w.drewN q).setCells g 0 ((falling l).map (Value.int .i64))) os :=
    Lib.sorted_world (Value.int .i64) w g 0 q l.toArray (falling l) os hH hy
  rw [e2]
  refine ⟨rfl, fun j hj => ?_, ?_⟩
  · have h := Lib.cells_sorted_ints (W := w) (b := g) (off := 0) (n := n) (q := q) (zs := l) (ys := falling l) (os := os) (by omega) (by rw [falling_len]; exact hl) hc j (by rw [List.drop_eq_nil_of_le (by omega), List.append_nil, falling_len]; omega)
    rw [Nat.zero_add, List.drop_eq_nil_of_le (by omega), List.append_nil] at h
    exact h
  · refine below_grow_own os ?_ ?_
    · exact below_set_own g hg _ 0 (below_drewN _ _ _)
    · have h : w.heap.size ≤ ((w.drewN q).setCells g 0 ((falling l).map (Value.int .i64))).heap.size := (below_set_own (B := 0) (a := w) g (Nat.zero_le _) ((falling l).map (Value.int .i64)) 0 (w := w.drewN q) (below_drewN 0 w q)).size
      omega
end Go.Proofs.Ytflphpjfmbkeiaa
