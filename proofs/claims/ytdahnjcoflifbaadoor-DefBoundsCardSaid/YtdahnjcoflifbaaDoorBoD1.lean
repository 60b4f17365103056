/- Whatever step and number come in: DefBounds returns true and changes no argument. Conditions: the package-level table of package def starts as the program's text lays it; each argument takes up what the row allows. -/
import Derived.Test.YtdahnjcoflifbaaDoorBaseD1
import Derived.Test.YtdahnjcoflifbaaDoorBaseD2
import Derived.Test.YtdahnjcoflifbaaDoorBaseD3
import Derived.Test.YtdahnjcoflifbaaDoorCards
import Derived.Test.YtdahnjcoflifbaaDoorTie
import Derived.SevenTiedAt
import Derived.ShutString
import Derived.ChangeOld
import Derived.ChangeMaps5
/- Definitions of so many steps that may be, and one more. -/
namespace Go.Proofs.YtdahnjcoflifbaaDoor
open Go.RowKit

def stepOf (i : Nat) : StepD := ⟨⟨#[UInt8.ofNat (98 + i)]⟩, 1, 0, 1, true, false⟩
def stepsK (k : Nat) : List StepD := (List.range k).map stepOf
theorem stepsK_next (k : Nat) : stepsK (k + 1) = stepsK k ++ [stepOf k] := by simp [stepsK, List.range_succ]
theorem stepsK_len (k : Nat) : (stepsK k).length = k := by simp [stepsK]
theorem check_k (k : Nat) (h1 : 1 ≤ k) (h2 : k ≤ 10) : (checkF ⟨#[97]⟩ (stepsK k)).2 = if k ≤ 8 then 0 else 2 := by
  have : ∀ i : Fin 10, (checkF ⟨#[97]⟩ (stepsK (i.1 + 1))).2 = if i.1 + 1 ≤ 8 then 0 else 2 := by decide +kernel
  have h := this ⟨k - 1, by omega⟩
  simp only at h
  rwa [show k - 1 + 1 = k from by omega] at h
theorem firstBad_app : ∀ (l done : List StepD) (s : StepD), (firstBad done l).2 = 0 → firstBad done (l ++ [s]) = if stepErr (done ++ l) s = 0 then (0, 0) else (done.length + l.length + 1, stepErr (done ++ l) s)
  | [], done, s, _ => by
    simp only [List.nil_append, List.append_nil, firstBad, List.length_nil, Nat.add_zero]
  | x :: l, done, s, h => by
    unfold firstBad at h
    split at h
    · rename_i hx
      have ih := firstBad_app l (done ++ [x]) s h
      rw [List.cons_append, firstBad, if_pos hx, ih]
      simp [Nat.add_assoc, Nat.add_comm 1]
    · exact absurd h ‹_›
theorem named_k (k : Nat) (h : k ≤ 7) (s : StepD) (hs : s.name = ⟨#[97]⟩) : namedB (stepsK k) s = false := by
  unfold namedB
  rw [hs]
  have : ∀ i : Fin 8, ((stepsK i.1).any fun a => decide (a.name = ⟨#[97]⟩)) = false := by decide +kernel
  exact this ⟨k, by omega⟩
theorem pivot_k (k : Nat) (h : k ≤ 7) : pivotB (stepsK k) = false := by
  have : ∀ i : Fin 8, pivotB (stepsK i.1) = false := by decide +kernel
  exact this ⟨k, by omega⟩
/-- One step more, of name a. -/
theorem check_more (k : Nat) (h1 : 1 ≤ k) (h7 : k ≤ 7) (s : StepD) (hs : s.name = ⟨#[97]⟩) : checkF ⟨#[97]⟩ (stepsK k ++ [s]) =
    if outB s.stub 1 4 || (outB s.retry 0 9 || outB s.wait 1 99) then (k + 1, 2) else if s.undo == s.pivot then (k + 1, 10) else (0, 0) := by
  have hk := check_k k h1 (by omega)
  rw [if_pos (by omega)] at hk
  have hl := stepsK_len k
  have hn : nameF [97] = true := by decide
  have hf : (firstBad [] (stepsK k)).2 = 0 := by
    unfold checkF at hk
    rw [hl] at hk
    rwa [if_neg (by simp [hn]; omega)] at hk
  have ha := firstBad_app (stepsK k) [] s hf
  unfold checkF
  rw [if_neg (by simp [hn, hl]; omega), ha, List.nil_append, hl]
  unfold stepErr stepBad
  rw [named_k k h7 s hs, pivot_k k h7, hs, show (⟨#[97]⟩ : ByteArray).data.toList = [97] from rfl, hn]
  cases outB s.stub 1 4 || (outB s.retry 0 9 || outB s.wait 1 99) <;> cases s.undo <;> cases s.pivot <;> simp
end Go.Proofs.YtdahnjcoflifbaaDoor
/- DefBounds. -/
namespace Go.Proofs.YtdahnjcoflifbaaDoor
open Go.RowKit

section
variable {w : World}
theorem rune_b0 (W : World) : (convert 21 9 (.int .i32 98)).run Tryd.prog W = .ok (.string ⟨#[98]⟩) W := by kernel_rfl
theorem rune_b1 (W : World) : (convert 21 9 (.int .i32 99)).run Tryd.prog W = .ok (.string ⟨#[99]⟩) W := by kernel_rfl
theorem rune_b2 (W : World) : (convert 21 9 (.int .i32 100)).run Tryd.prog W = .ok (.string ⟨#[100]⟩) W := by kernel_rfl
theorem rune_b3 (W : World) : (convert 21 9 (.int .i32 101)).run Tryd.prog W = .ok (.string ⟨#[101]⟩) W := by kernel_rfl
theorem rune_b4 (W : World) : (convert 21 9 (.int .i32 102)).run Tryd.prog W = .ok (.string ⟨#[102]⟩) W := by kernel_rfl
theorem rune_b5 (W : World) : (convert 21 9 (.int .i32 103)).run Tryd.prog W = .ok (.string ⟨#[103]⟩) W := by kernel_rfl
theorem rune_b6 (W : World) : (convert 21 9 (.int .i32 104)).run Tryd.prog W = .ok (.string ⟨#[104]⟩) W := by kernel_rfl
theorem rune_b7 (W : World) : (convert 21 9 (.int .i32 105)).run Tryd.prog W = .ok (.string ⟨#[105]⟩) W := by kernel_rfl
theorem rune_b8 (W : World) : (convert 21 9 (.int .i32 106)).run Tryd.prog W = .ok (.string ⟨#[106]⟩) W := by kernel_rfl
theorem rune_b9 (W : World) : (convert 21 9 (.int .i32 107)).run Tryd.prog W = .ok (.string ⟨#[107]⟩) W := by kernel_rfl
theorem rune_b (i : Nat) (h : i < 10) (W : World) : (convert 21 9 (.int .i32 (98 + (i : Int)))).run Tryd.prog W = .ok (.string ⟨#[UInt8.ofNat (98 + i)]⟩) W := by
  match i, h with
  | 0, _ => exact rune_b0 W
  | 1, _ => exact rune_b1 W
  | 2, _ => exact rune_b2 W
  | 3, _ => exact rune_b3 W
  | 4, _ => exact rune_b4 W
  | 5, _ => exact rune_b5 W
  | 6, _ => exact rune_b6 W
  | 7, _ => exact rune_b7 W
  | 8, _ => exact rune_b8 W
  | 9, _ => exact rune_b9 W
/-- What the loop keeps. -/
structure BRel (W : World) (x y : Nat) (s : StepD) (wr : World) (l : List StepD) (v : Value) : Prop where
  sb : StepBox x s wr
  db : DefBox y ⟨#[97]⟩ v wr
  row : StepRow (y + 1) wr v l
  lat : Later W wr
theorem BRel.later {W wr w' : World} {x y : Nat} {s : StepD} {l : List StepD} {v : Value} (h : BRel W x y s wr l v) (hl : Later wr w') : BRel W x y s w' l v :=
  ⟨(Below.block hl x (lt_of_block h.sb)).trans h.sb, (Below.block hl y (lt_of_block h.db)).trans h.db, own_later h.row hl, h.lat.trans hl⟩
/-- A step more: the row, its place in the definition. -/
theorem BRel.more {W wr w1 : World} {x y n : Nat} {s t : StepD} {l : List StepD} {v v' : Value} (h : BRel W x y s wr l v) (hx : W.heap.size ≤ x) (hxy : x < y) (ho : w1.ownsRow (y + 1) 41 6 v' (n + 1) (l.flatMap StepD.cells ++ t.cells)) (hn : l.length = n) (hg : wr.grownBy w1 v.ownBlock) :
    BRel W x y s (w1.setCell ⟨y, 1, none⟩ v') (l ++ [t]) v' := by
  have hyr : y < wr.heap.size := lt_of_block h.db
  have hgc : w1.grownBy (w1.setCell ⟨y, 1, none⟩ v') (some y) := grown_cell w1 ⟨y, 1, none⟩ _
  have hb1 : Below (y + 1) wr w1 := later_own h.row hyr hg
  have hdb : w1.heap[y]? = some (.cells #[.string ⟨#[97]⟩, v] 25 (0, 0)) := (hb1.block y (by omega)).trans h.db
  have hl1 : Below W.heap.size W w1 := Below.trans h.lat (Below.mono hb1 (by omega))
  refine ⟨?_, ?_, ?_, ?_⟩
  · exact (hgc.block x (Nat.lt_of_lt_of_le (lt_of_block h.sb) hg.size) (by intro e; have := Option.some.inj e; omega)).trans ((hb1.block x (by omega)).trans h.sb)
  · exact heap_setCell_same w1 y 1 _ _ v' hdb
  · unfold StepRow
    rw [List.length_append, List.flatMap_append, hn]
    have := own_apart ho hdb (by decide) hgc
    simpa using this
  · exact hl1.grown hgc (Below.size hl1) fun j e => by have := Option.some.inj e; omega

set_option maxHeartbeats 8000000 in
set_option maxRecDepth 100000 in
theorem law_bounds {s : StepD} {V : Nat} (hV : V < 18446744073709551616) (ho : OptAt w) (hws : s.name.size ≤ 140737488355328) :
    Calls Tryd.prog 7 #[.agg s.cells.toArray, .int .u64 (V : Int)] w fun e w' => e = .returned (.bool true) ∧ Later w w' := by
  obtain ⟨x, hx⟩ : ∃ x, x = w.heap.size := ⟨_, rfl⟩
  obtain ⟨W1, hW1⟩ : ∃ W1, W1 = w.alloc (.cells s.cells.toArray 41 (0, 0)) := ⟨_, rfl⟩
  have X1 : Hid (StepBox x s W1) := by rw [hW1, hx]; exact heap_alloc_new w _
  have L1 : Hid (Later w W1) := by rw [hW1]; exact (Below.refl _ _).alloc (Nat.le_refl _) _
  have CLV : Hid (∀ W, Later w W → Calls Tryd.prog 9 #[] W fun e w' => e = .returned (.bool true) ∧ Later W w') := fun W h => lives_any (ho.later h)
  have HX := hide hx.symm
  unfold StepD.cells at hW1 ⊢
  have HW1 := hide hW1.symm
  obtain ⟨i0, hi, hz0, hz1, hz2⟩ := info_parts info_step
  have HI := hide hi
  have HZ0 := hide hz0
  have HZ1 := hide hz1
  have HZ2 := hide hz2
  clear hx hW1 hi hz0 hz1 hz2 ho
  by_cases hlong : 400 < s.name.size
  · have hl' : (400 : Int) < (s.name.size : Int) := by omega
    go_enter Tryd.func7, Tryd.ntmps7
    go_wp2_with (fail)
    have hw := HW1.out
    simp only [hw]
    clear hw
    refine (CLV.out _ L1.out).mono ?_
    rintro e w2 ⟨rfl, hl2⟩
    have L2 := hide (L1.out.trans hl2)
    clear hl2
    go_wp2
    go_ret
    exact ⟨rfl, L2.out⟩
  · have hl' : ¬ (400 : Int) < (s.name.size : Int) := by omega
    obtain ⟨r, hr⟩ : ∃ r, V % 10 = r := ⟨_, rfl⟩
    have hr10 : r < 10 := by omega
    have hrem : (V : Int) % 10 = (r : Int) := by rw [← hr]; omega
    have HREM := hide hrem
    obtain ⟨y, hy⟩ : ∃ y, y = x + 1 := ⟨_, rfl⟩
    have hyw : y = W1.heap.size := by rw [hy, ← HX.out, ← HW1.out]; simp
    obtain ⟨W2, hW2⟩ : ∃ W2, W2 = W1.alloc (.cells #[.string ⟨#[97]⟩, .slice none 0 0] 25 (0, 0)) := ⟨_, rfl⟩
    have Y2 : Hid (DefBox y ⟨#[97]⟩ (.slice none 0 0) W2) := by rw [hW2, hyw]; exact heap_alloc_new W1 _
    have L2 : Hid (Later W1 W2) := by rw [hW2]; exact (Below.refl _ _).alloc (Nat.le_refl _) _
    have X2 : Hid (StepBox x s W2) := (Below.block L2.out x (lt_of_block X1.out)).trans X1.out
    have hwx : w.heap.size ≤ x := by have := HX.out; omega
    have hxy : x < y := by have := lt_of_block X1.out; omega
    have HY := hide hy.symm
    have HW2 := hide hW2.symm
    have BR0 : Hid (BRel w x y s W2 (stepsK 0) (.slice none 0 0)) := ⟨X2.out, Y2.out, World.ownsRow_nil _ _ _ 6, L1.out.trans L2.out⟩
    clear hr hrem hW2 hy hyw hlong
    have hrem := HREM.out
    go_enter Tryd.func7, Tryd.ntmps7
    go_wp2_with (fail)
    have hw := HW1.out
    have hxx := HX.out
    have hw2 := HW2.out
    simp only [hw, hxx]
    have hyy := HY.out
    simp only [hw2, hyy]
    clear hw hxx hw2 hyy hrem
    go_loopw [7] (fun v wr => ∃ (i : Nat) (sv : Value), v = .int .i64 (i : Int) ∧ i ≤ 1 + r ∧ BRel w x y s wr (stepsK i) sv) (fun v _ => 1 + r - (intOf v).toNat)
    case atStart => exact ⟨0, _, rfl, by omega, BR0.out⟩
    case round =>
      obtain ⟨i, sv, rfl, hi, hbr⟩ := hrel
      have HB := hide hbr
      obtain ⟨A, cv, rfl, hcv1, hcv2, _⟩ := FlatAt.shape hbr.row.flat
      have OWR : Hid (wr.ownsRow (y + 1) 41 6 (.slice A i cv) i ((stepsK i).flatMap StepD.cells)) := by have := hbr.row; unfold StepRow at this; rw [stepsK_len] at this; exact this
      rw [stepsK_len] at HB hcv1
      obtain ⟨b0, b1, bf⟩ := HB.out.db.cells
      have hyr : y < wr.heap.size := lt_of_block HB.out.db
      have hxr : x < wr.heap.size := lt_of_block HB.out.sb
      clear hbr BR0 hcv1 hcv2
      by_cases hlt : i < 1 + r
      · have hlt' : (i : Int) < 1 + (r : Int) := by omega
        have hcv := rune_b i (by omega)
        obtain ⟨NB, hNB⟩ : ∃ NB : ByteArray, ⟨#[UInt8.ofNat (98 + i)]⟩ = NB := ⟨_, rfl⟩
        rw [hNB] at hcv
        have hst : stepOf i = ⟨NB, 1, 0, 1, true, false⟩ := by rw [← hNB]; rfl
        have HST := hide hst
        clear hNB hst
        have hw32 : IntKind.i32.wrap (98 + (i : Int)) = 98 + (i : Int) := by
          have := wrap32 (98 + i) (by omega)
          simpa using this
        obtain ⟨W5, hW5⟩ : ∃ W5, W5 = wr.alloc (.cells (StepD.mk NB 1 0 1 true false).cells.toArray 41 (0, 0)) := ⟨_, rfl⟩
        have M5 : Hid (Later wr W5) := by rw [hW5]; exact (Below.refl _ _).alloc (Nat.le_refl _) _
        have F5 : Hid (FlatAt (fun _ => True) W5 6 (.slice (some ⟨wr.heap.size, 0, none⟩) 1 1) 1 (StepD.mk NB 1 0 1 true false).cells) := by rw [hW5]; exact flat_one wr 41 6 (StepD.mk NB 1 0 1 true false).cells.toArray (by rfl) (by simpa using (StepD.mk NB 1 0 1 true false).one) _ trivial
        have OW5 := hide (own_later OWR.out M5.out)
        have B5 := hide (HB.out.later M5.out)
        have HONE : Hid (∀ u ∈ (stepsK i).flatMap StepD.cells ++ (StepD.mk NB 1 0 1 true false).cells, u.oneCell' = true) := by
          intro u hu
          rcases List.mem_append.1 hu with hu | hu
          · obtain ⟨t, _, ht⟩ := List.mem_flatMap.1 hu
            exact t.one u ht
          · exact (StepD.mk NB 1 0 1 true false).one u hu
        unfold StepD.cells at hW5
        have HW5 := hide hW5.symm
        clear hW5
        go_wp2_with (first
          | (refine wpList_buildSlice_one (by rfl) 23 41 _ (by rfl) i0 _ 6 Tryd.underlying23 HI.out HZ0.out HZ1.out (by omega) (by omega) (StepD.mk NB 1 0 1 true false).cells.toArray (by rfl) (by rfl) ?_; rw [show wr.alloc (.cells (StepD.mk NB 1 0 1 true false).cells.toArray 41 (0, 0)) = W5 from HW5.out])
          | (at_builtin; refine wpList_append_flat _ (by rfl) (.tmp 29) (.tmp 35) 23 (by rfl) (y + 1) 41 i0 _ 6 48 Tryd.underlying23 HI.out HZ0.out HZ1.out HZ2.out (by rfl) (by omega) (.slice A i cv) i ((stepsK i).flatMap StepD.cells) (by rfl) OW5.out (fun _ => True) _ 1 1 (StepD.mk NB 1 0 1 true false).cells (by rfl) F5.out (by unfold maxLen; omega) (by omega) (by have := Below.size M5.out; omega) ?_; intro v6 w6 o6 g6; obtain ⟨A6, c6, rfl, hk6, hk7, _⟩ := FlatAt.shape (FlatAt.of_own o6 HONE.out); have BM := hide (B5.out.more hwx hxy o6 (stepsK_len i) g6); have hy6 : y < w6.heap.size := Nat.lt_of_lt_of_le (lt_of_block B5.out.db) g6.size; have hf6 : w6.frozen? ⟨y, 1, none⟩ = false := (DefBox.cells (v := .slice A i cv) (name := ⟨#[97]⟩) (y := y) (w := w6) (((later_own B5.out.row (lt_of_block B5.out.db) g6).block y (by omega)).trans B5.out.db)).2.2; have hc6 : w6.cell? ⟨y, 1, none⟩ = some (.slice A i cv) := (DefBox.cells (v := .slice A i cv) (name := ⟨#[97]⟩) (y := y) (w := w6) (((later_own B5.out.row (lt_of_block B5.out.db) g6).block y (by omega)).trans B5.out.db)).2.1; clear b0 b1 bf hk6 hk7 o6 g6))
        go_roundw
        case rel => exact ⟨i + 1, _, by go_num, by omega, by rw [stepsK_next, HST.out]; exact BM.out⟩
        case measure => simp [intOf]; omega
      · have hie : i = 1 + r := by omega
        subst hie
        have hlt' : ¬ (((1 + r : Nat)) : Int) < 1 + (r : Int) := by omega
        obtain ⟨k, hk⟩ : ∃ k, 1 + r = k := ⟨_, rfl⟩
        rw [hk] at hlt' HB OWR b1 ⊢
        have hkr : (1 : Int) + (r : Int) = (k : Int) := by omega
        have hk1 : 1 ≤ k := by omega
        have hk10 : k ≤ 10 := by omega
        rw [hkr] at hlt' ⊢
        have CK := hide (check_any (w := wr) (name := ⟨#[97]⟩) HB.out.row.flat)
        have hc2 := check_k k hk1 hk10
        obtain ⟨c1, hc1⟩ : ∃ c1, (checkF ⟨#[97]⟩ (stepsK k)).1 = c1 := ⟨_, rfl⟩
        obtain ⟨c2, hc2'⟩ : ∃ c2, (checkF ⟨#[97]⟩ (stepsK k)).2 = c2 := ⟨_, rfl⟩
        rw [hc1, hc2'] at CK
        rw [hc2'] at hc2
        have DB := hide HB.out.db
        clear hk hkr hc1 hc2' hlt b0 b1 bf
        go_wp2_with (refine wpList_load_box (by rfl) 25 (.tmp 6) (by rfl) y 0 (by rfl) 25 _ DB.out 2 _ Tryd.underlying25 (by rfl) (by kernel_rfl) [.string ⟨#[97]⟩, .slice A k cv] (by rfl) (by rfl) ?_)
        refine CK.out.mono ?_
        rintro e w7 ⟨rfl, hl7⟩
        have B7 := hide (HB.out.later hl7)
        have OW7 := hide (own_later OWR.out hl7)
        clear hl7 CK HB OWR DB
        have LAT7 := hide B7.out.lat
        by_cases hk8 : 8 < k
        · rw [if_neg (by omega)] at hc2
          subst hc2
          have hk8' : ¬ (k : Int) ≤ 8 := by omega
          have hk7' : (7 : Int) < (k : Int) := by omega
          have hbb : ((2 : Int) == 0) = false := rfl
          go_wp2_with (fail)
          refine (CLV.out _ LAT7.out).mono ?_
          rintro e w99 ⟨rfl, hl99⟩
          have L99 := hide (LAT7.out.trans hl99)
          clear hl99
          go_wp2_with (fail)
          go_ret
          exact ⟨rfl, L99.out⟩
        · rw [if_pos (by omega)] at hc2
          subst hc2
          have hk8' : (k : Int) ≤ 8 := by omega
          by_cases hk7 : 7 < k
          · have hk7' : (7 : Int) < (k : Int) := by omega
            go_wp2_with (fail)
            refine (CLV.out _ LAT7.out).mono ?_
            rintro e w99 ⟨rfl, hl99⟩
            have L99 := hide (LAT7.out.trans hl99)
            clear hl99
            go_wp2_with (fail)
            go_ret
            exact ⟨rfl, L99.out⟩
          · have hk7' : ¬ (7 : Int) < (k : Int) := by omega
            obtain ⟨b0, b1, b2, b3, b4, b5, bf⟩ := B7.out.sb.cells
            obtain ⟨d0, d1, df⟩ := B7.out.db.cells
            have bf0 := bf 0
            have hx7 : x < w7.heap.size := lt_of_block B7.out.sb
            have hy7 : y < w7.heap.size := lt_of_block B7.out.db
            obtain ⟨W8, hW8⟩ : ∃ W8, W8 = w7.setCell ⟨x, 0, none⟩ (.string ⟨#[97]⟩) := ⟨_, rfl⟩
            have hgc : w7.grownBy W8 (some x) := by rw [hW8]; exact grown_cell w7 ⟨x, 0, none⟩ _
            have B8 : Hid (BRel w x y { s with name := ⟨#[97]⟩ } W8 (stepsK k) (.slice A k cv)) := by
              refine ⟨by rw [hW8]; exact B7.out.sb.set (by simp [StepD.cells]), (hgc.block y hy7 (by intro e; have := Option.some.inj e; omega)).trans B7.out.db, ?_, B7.out.lat.grown hgc (Below.size B7.out.lat) fun j e => by have := Option.some.inj e; omega⟩
              exact own_stays B7.out.row fun q hq => hgc.block q (B7.out.row.lt q hq).2 (by intro e; have h1 := (B7.out.row.lt q hq).1; have := Option.some.inj e; omega)
            have OW8 : Hid (W8.ownsRow (y + 1) 41 6 (.slice A k cv) k ((stepsK k).flatMap StepD.cells)) := own_stays OW7.out fun q hq => hgc.block q (OW7.out.lt q hq).2 (by intro e; have h1 := (OW7.out.lt q hq).1; have := Option.some.inj e; omega)
            have hmore := check_more k hk1 (by omega) { s with name := ⟨#[97]⟩ } rfl
            obtain ⟨sa, hsa⟩ : ∃ sa, StepD.mk ⟨#[97]⟩ s.stub s.retry s.wait s.undo s.pivot = sa := ⟨_, rfl⟩
            have hsa2 : { s with name := ⟨#[97]⟩ } = sa := hsa
            obtain ⟨W9, hW9⟩ : ∃ W9, W9 = W8.alloc (.cells #[.string ⟨#[97]⟩, .int .i64 s.stub, .int .i64 s.retry, .int .i64 s.wait, .bool s.undo, .bool s.pivot] 41 (0, 0)) := ⟨_, rfl⟩
            have M9 : Hid (Later W8 W9) := by rw [hW9]; exact (Below.refl _ _).alloc (Nat.le_refl _) _
            have F9 : Hid (FlatAt (fun _ => True) W9 6 (.slice (some ⟨W8.heap.size, 0, none⟩) 1 1) 1 [.string ⟨#[97]⟩, .int .i64 s.stub, .int .i64 s.retry, .int .i64 s.wait, .bool s.undo, .bool s.pivot]) := by rw [hW9]; exact flat_one W8 41 6 #[.string ⟨#[97]⟩, .int .i64 s.stub, .int .i64 s.retry, .int .i64 s.wait, .bool s.undo, .bool s.pivot] (by rfl) (by simp [Value.oneCell']) _ trivial
            have OW9 := hide (own_later OW8.out M9.out)
            have B9 := hide (B8.out.later M9.out)
            have HW8 := hide hW8.symm
            have HW9 := hide hW9.symm
            obtain ⟨e0, e1, e2, e3, e4, e5, ef⟩ := B8.out.sb.cells
            have hdc := B8.out.db.cells
            have f1 := hdc.2.1
            have f1w : (w7.setCell ⟨x, 0, none⟩ (.string ⟨#[97]⟩)).cell? ⟨y, 1, none⟩ = some (.slice A k cv) := by rw [HW8.out]; exact f1
            have hx8 : x < W8.heap.size := lt_of_block B8.out.sb
            have hy8 : y < W8.heap.size := lt_of_block B8.out.db
            have HONE : Hid (∀ u ∈ (stepsK k).flatMap StepD.cells ++ [.string ⟨#[97]⟩, .int .i64 s.stub, .int .i64 s.retry, .int .i64 s.wait, .bool s.undo, .bool s.pivot], u.oneCell' = true) := by
              intro u hu
              rcases List.mem_append.1 hu with hu | hu
              · obtain ⟨t, _, ht⟩ := List.mem_flatMap.1 hu
                exact t.one u ht
              · exact (StepD.mk ⟨#[97]⟩ s.stub s.retry s.wait s.undo s.pivot).one u hu
            have HMORE := hide hmore
            clear hW8 hW9 hgc hmore hsa hsa2 ef hdc bf b1 b2 b3 b4 b5 d0 df
            go_wp2_with (first
              | (rw [HW8.out]; refine wpList_load_box (by rfl) 41 (.tmp 2) (by rfl) x 0 (by rfl) 41 _ B8.out.sb 6 _ Tryd.underlying41 (by rfl) (by kernel_rfl) [.string ⟨#[97]⟩, .int .i64 s.stub, .int .i64 s.retry, .int .i64 s.wait, .bool s.undo, .bool s.pivot] (by rfl) (by rfl) ?_)
              | (refine wpList_buildSlice_one (by rfl) 23 41 _ (by rfl) i0 _ 6 Tryd.underlying23 HI.out HZ0.out HZ1.out (by omega) (by omega) #[.string ⟨#[97]⟩, .int .i64 s.stub, .int .i64 s.retry, .int .i64 s.wait, .bool s.undo, .bool s.pivot] (by rfl) (by rfl) ?_; rw [HW9.out])
              | (at_builtin; refine wpList_append_flat _ (by rfl) (.tmp 53) (.tmp 55) 23 (by rfl) (y + 1) 41 i0 _ 6 48 Tryd.underlying23 HI.out HZ0.out HZ1.out HZ2.out (by rfl) (by omega) (.slice A k cv) k ((stepsK k).flatMap StepD.cells) (by rfl) OW9.out (fun _ => True) _ 1 1 [.string ⟨#[97]⟩, .int .i64 s.stub, .int .i64 s.retry, .int .i64 s.wait, .bool s.undo, .bool s.pivot] (by rfl) F9.out (by unfold maxLen; omega) (by omega) (by have := Below.size M9.out; omega) ?_; intro v6 w6 o6 g6; obtain ⟨A6, c6, rfl, hk6, hk7, _⟩ := FlatAt.shape (FlatAt.of_own o6 HONE.out); have BM := hide (B9.out.more (t := { s with name := ⟨#[97]⟩ }) hwx hxy o6 (stepsK_len k) g6); have hy6 : y < w6.heap.size := Nat.lt_of_lt_of_le (lt_of_block B9.out.db) g6.size; have hdb6 := DefBox.cells (v := .slice A k cv) (name := ⟨#[97]⟩) (y := y) (w := w6) (((later_own B9.out.row (lt_of_block B9.out.db) g6).block y (by omega)).trans B9.out.db); have hf6 : w6.frozen? ⟨y, 1, none⟩ = false := hdb6.2.2; have hc6 : w6.cell? ⟨y, 1, none⟩ = some (.slice A k cv) := hdb6.2.1; clear hdb6 hk6 hk7 o6 g6)
              | (refine wpList_load_box (by rfl) 25 (.tmp 6) (by rfl) y 0 (by rfl) 25 _ BM.out.db 2 _ Tryd.underlying25 (by rfl) (by kernel_rfl) [.string ⟨#[97]⟩, .slice A6 (k + 1) c6] (by rfl) (by rfl) ?_))
            have CK2 := hide (check_any (w := w6.setCell ⟨y, 1, none⟩ (.slice A6 (k + 1) c6)) (name := ⟨#[97]⟩) BM.out.row.flat)
            have hmore := HMORE.out
            obtain ⟨R, hR⟩ : ∃ R, checkF ⟨#[97]⟩ (stepsK k ++ [{ s with name := ⟨#[97]⟩ }]) = R := ⟨_, rfl⟩
            rw [hR] at hmore CK2
            obtain ⟨p1, hp1⟩ : ∃ p1, R.1 = p1 := ⟨_, rfl⟩
            obtain ⟨p2, hp2⟩ : ∃ p2, R.2 = p2 := ⟨_, rfl⟩
            rw [hp1, hp2] at CK2
            clear hR
            refine CK2.out.mono ?_
            rintro e w9 ⟨rfl, hl9⟩
            have BM9 := hide (BM.out.later hl9)
            have LAT9 := hide BM9.out.lat
            obtain ⟨b0, b1, b2, b3, b4, b5, _⟩ := BM9.out.sb.cells
            simp only at b1 b2 b3 b4 b5
            clear CK2 hl9 e0 e1 e2 e3 e4 e5 f1 f1w hc6 hf6 hy6 b0
            cases hq : outB s.stub 1 4 || (outB s.retry 0 9 || outB s.wait 1 99) with
            | true =>
              rw [hq, if_pos rfl] at hmore
              have hpp : p1 = k + 1 ∧ p2 = 2 := by rw [← hp1, ← hp2, hmore]; exact ⟨rfl, rfl⟩
              obtain ⟨rfl, rfl⟩ := hpp
              simp only [outB, Bool.or_eq_true, decide_eq_true_eq] at hq
              have hk1e : ((k + 1 : Nat) : Int) = (k : Int) + 1 := by omega
              clear hp1 hp2 hmore HMORE
              by_cases g1 : 1 ≤ s.stub
              · by_cases g2 : s.stub ≤ 4
                · by_cases g3 : 0 ≤ s.retry
                  · by_cases g4 : s.retry ≤ 9
                    · by_cases g5 : 1 ≤ s.wait
                      · have g6 : decide (s.wait ≤ 99) = false := by rw [decide_eq_false_iff_not]; omega
                        clear hq
                        go_wp2_with (fail)
                        refine (CLV.out _ LAT9.out).mono ?_
                        rintro e w99 ⟨rfl, hl99⟩
                        have L99 := hide (LAT9.out.trans hl99)
                        clear hl99
                        go_wp2_with (fail)
                        go_ret
                        exact ⟨rfl, L99.out⟩
                      · clear hq
                        go_wp2_with (fail)
                        refine (CLV.out _ LAT9.out).mono ?_
                        rintro e w99 ⟨rfl, hl99⟩
                        have L99 := hide (LAT9.out.trans hl99)
                        clear hl99
                        go_wp2_with (fail)
                        go_ret
                        exact ⟨rfl, L99.out⟩
                    · clear hq
                      go_wp2_with (fail)
                      refine (CLV.out _ LAT9.out).mono ?_
                      rintro e w99 ⟨rfl, hl99⟩
                      have L99 := hide (LAT9.out.trans hl99)
                      clear hl99
                      go_wp2_with (fail)
                      go_ret
                      exact ⟨rfl, L99.out⟩
                  · clear hq
                    go_wp2_with (fail)
                    refine (CLV.out _ LAT9.out).mono ?_
                    rintro e w99 ⟨rfl, hl99⟩
                    have L99 := hide (LAT9.out.trans hl99)
                    clear hl99
                    go_wp2_with (fail)
                    go_ret
                    exact ⟨rfl, L99.out⟩
                · clear hq
                  go_wp2_with (fail)
                  refine (CLV.out _ LAT9.out).mono ?_
                  rintro e w99 ⟨rfl, hl99⟩
                  have L99 := hide (LAT9.out.trans hl99)
                  clear hl99
                  go_wp2_with (fail)
                  go_ret
                  exact ⟨rfl, L99.out⟩
              · clear hq
                go_wp2_with (fail)
                refine (CLV.out _ LAT9.out).mono ?_
                rintro e w99 ⟨rfl, hl99⟩
                have L99 := hide (LAT9.out.trans hl99)
                clear hl99
                go_wp2_with (fail)
                go_ret
                exact ⟨rfl, L99.out⟩
            | false =>
              rw [hq, if_neg (by simp)] at hmore
              simp only [outB, Bool.or_eq_false_iff, decide_eq_false_iff_not] at hq
              obtain ⟨⟨g1, g2⟩, ⟨g3, g4⟩, g5, g6⟩ := hq
              have g1' : 1 ≤ s.stub := by omega
              have g2' : s.stub ≤ 4 := by omega
              have g3' : 0 ≤ s.retry := by omega
              have g4' : s.retry ≤ 9 := by omega
              have g5' : 1 ≤ s.wait := by omega
              have g6' : s.wait ≤ 99 := by omega
              obtain ⟨un, hun⟩ : ∃ un, s.undo = un := ⟨_, rfl⟩
              obtain ⟨pv, hpv⟩ : ∃ pv, s.pivot = pv := ⟨_, rfl⟩
              rw [hun, hpv] at hmore
              rw [hun] at b4
              rw [hpv] at b5
              have hk1e : ((k + 1 : Nat) : Int) = (k : Int) + 1 := by omega
              clear g1 g2 g3 g4 g5 g6 hun hpv HMORE
              cases hup : un == pv with
              | true =>
                rw [hup, if_pos rfl] at hmore
                have hpp : p1 = k + 1 ∧ p2 = 10 := by rw [← hp1, ← hp2, hmore]; exact ⟨rfl, rfl⟩
                obtain ⟨rfl, rfl⟩ := hpp
                have hup2 : pv = un := by simpa using (beq_iff_eq.1 hup).symm
                subst hup2
                clear hp1 hp2 hmore hup
                go_wp2_with (fail)
                refine (CLV.out _ LAT9.out).mono ?_
                rintro e w99 ⟨rfl, hl99⟩
                have L99 := hide (LAT9.out.trans hl99)
                clear hl99
                go_wp2_with (fail)
                go_ret
                exact ⟨rfl, L99.out⟩
              | false =>
                rw [hup, if_neg (by simp)] at hmore
                have hpp : p1 = 0 ∧ p2 = 0 := by rw [← hp1, ← hp2, hmore]; exact ⟨rfl, rfl⟩
                obtain ⟨rfl, rfl⟩ := hpp
                clear hp1 hp2 hmore
                go_wp2_with (fail)
                refine (CLV.out _ LAT9.out).mono ?_
                rintro e w99 ⟨rfl, hl99⟩
                have L99 := hide (LAT9.out.trans hl99)
                clear hl99
                go_wp2_with (fail)
                go_ret
                exact ⟨rfl, L99.out⟩
end
end Go.Proofs.YtdahnjcoflifbaaDoor
/- DefBounds, as the claim asks it. -/
namespace Go.Proofs.YtdahnjcoflifbaaDoor
open Go.RowKit
theorem law_boundsW (s : StepD) (V : Nat) (w : World) (hs : s.wf) (hV : V < 18446744073709551616) (ho : OptAt w) :
    Calls Tryd.prog 7 #[.agg s.cells.toArray, .int .u64 (V : Int)] w fun e w' => e = .returned (.bool true) ∧ Later w w' := law_bounds hV ho hs.1
end Go.Proofs.YtdahnjcoflifbaaDoor
namespace Go.Proofs.YtdahnjcoflifbaaDoor
open Go.ChangeShapes Go.WideShapes Go.ChangeAt Go.RowKit

theorem defBounds_lawKnobs : ownKnob Tryd.prog.godebug = none := by kernel_rfl
theorem defBounds_allLaid : laidOutB Tryd.prog = true := by kernel_rfl

set_option maxRecDepth 100000 in
set_option maxHeartbeats 1000000 in
theorem defBounds_lifted (os : Os) (started : os.Started) (H : Type) (enc : TypeId × Value → H) :
    ReturnsInHanded {} Tryd.checked os 7 .any (fun w args => (Rows.defBoundsSpec.pre enc Tryd.prog Tryd.f7 Rows.defBoundsRow.domain false w args ∧ laidMetH Tryd.prog Rows.defBoundsRow.laid w) ∧ sizedMet enc Tryd.prog Tryd.f7 (OpenSpec.ofChange Rows.defBoundsSpec) false w args)
      (Rows.defBoundsSpec.post enc Tryd.prog Tryd.f7 false true false false) := by
  refine returnsInHanded_of_change_and (C := Tryd.checked) (X := fun w _ => laidMetH Tryd.prog Rows.defBoundsRow.laid w) (fun _ _ _ hh h => h.of_heap hh) defBounds_lawKnobs started (by kernel_rfl) Tryd.func7
    (ChangeSpec.witness_shaped (enc := enc) (C := Tryd.checked) (os := os) (X := fun w _ => laidMetH Tryd.prog Rows.defBoundsRow.laid w) false (World.doorLaid Tryd.prog 400 os) #[.agg #[.string ⟨#[]⟩, .int .i64 0, .int .i64 0, .int .i64 0, .bool false, .bool false], .int .u64 0] 8 rfl (World.shaped_of_RefB (by kernel_rfl) (by kernel_rfl)) (by kernel_rfl) (by kernel_rfl) (by kernel_rfl) (tab_start1 os _)) ?_
  intro W base args ds gs before hval0 hW hcnd hsz0 hL _
  have hTab := opt1 hL
  have hval : ∀ (j : Nat) t v, Tryd.f7.params[j]? = some t → args[j]? = some v → Value.okWide Tryd.prog W .any base t v := hval0
  have hW' := hW
  obtain ⟨p, q, hA0, hV, rfl, _, _⟩ := hW
  have hA : DataW.TrodAll enc Tryd.prog W 0 (fun _ => true) true Tryd.f7.params.toList args.toList ds p := hA0
  have hsz : (DataW.weightsEach Tryd.prog (Tryd.f7.params.toList ++ Rows.defBoundsSpec.plain.varTypes Tryd.prog) (ds ++ gs)).all (· ≤ reachBytes) = true := hsz0
  rw [Tryd.params7] at hA hval hsz
  obtain ⟨v0, vs0, d0, ds0, p0, q0, hargs, rfl, rfl, h0, r0⟩ := trodAll_cons hA
  obtain ⟨v1, vs1, d1, ds1, p1, q1, rfl, rfl, rfl, h1, r1⟩ := trodAll_cons r0
  obtain ⟨rfl, rfl, rfl⟩ := trodAll_nil r1
  obtain rfl : args = #[v0, v1] := by cases args; simp_all
  obtain ⟨rfl, rfl⟩ := trodVars_none hV
  have k0 := h0
  have lt0 : ∀ x ∈ p0, x.block < W.heap.size := by obtain ⟨m, hm⟩ := k0; exact DataW.trod_lt m _ _ _ hm
  have s0 : Sm 41 d0 := sm_of hsz (j := 0) rfl rfl
  obtain ⟨cs0, rfl, _⟩ := okWide_struct Tryd.underlying41 (hval 0 41 v0 rfl rfl)
  obtain ⟨x0, rfl, wf0⟩ := arg_step h0 s0
  have k1 := h1
  obtain ⟨a1, rfl, rfl, rfl, w1⟩ := open_int Tryd.underlying42 (hval 1 42 v1 rfl rfl) h1
  have b1 := bounds_u64 w1
  obtain ⟨V1, rfl⟩ := Int.eq_ofNat_of_zero_le b1.1
  clear hA0 hval0 hL
  refine (law_boundsW x0 V1 W wf0 (by omega) hTab).mono fun e W' ⟨he, bel0⟩ => ?_
  have bel : Below W.heap.size W W' := bel0
  subst he
  exact ⟨_, rfl, _, _, _, [], _, [], hW', trodAll_mk1 (shut_bool Tryd.underlying4 _), (trodAll_cons_mk (Below.trod defBounds_allLaid (by kernel_rfl) (of_decide_eq_true (by kernel_rfl)) k0 bel lt0) (trodAll_cons_mk (shut_int Tryd.underlying42 w1) trodAll_mk0)), rfl, bel.frame _, fun h => by cases h⟩

theorem defBounds_over : Rows.defBoundsRow.holds Tryd.pinned (OpenSpec.ofChange Rows.defBoundsSpec) :=
  OpenClaim.holds_of_wide 7 Tryd.f7 rfl rfl rfl rfl rfl rfl rfl ⟨rfl, rfl, rfl, rfl, rfl⟩ rfl rfl rfl rfl rfl (by kernel_rfl) Tryd.func7 (by kernel_rfl)
    (of_decide_eq_true (by kernel_rfl)) (by unfold Func.isWrapper; first | (rw [if_pos (by decide +kernel)]; kernel_rfl) | (rw [if_neg (by decide +kernel)]; exact ⟨rfl, rfl⟩))
    (fun os started H enc _ => defBounds_lifted os started H enc)

theorem defBounds_card : Rows.DefBoundsCardSaid :=
  Claim7.holds_tied_plain_at .later [] _ true _ false defBounds_over (fun _ h => by cases h) (by kernel_rfl) (fun _ h => by cases h) defBounds_row_tie rfl ⟨rfl, rfl⟩ (by kernel_rfl) rfl
    (fun f fn hf hfn => by
      obtain rfl : f = 7 := Option.some.inj ((show Tryd.prog.funcNamed "drover/droverlaw13.DefBounds" = some 7 by kernel_rfl).symm.trans hf) |>.symm
      obtain rfl : fn = Tryd.f7 := (Option.some.inj (Tryd.func7.symm.trans hfn)).symm
      exact ⟨by kernel_rfl, fun j t ht => by
        rw [Tryd.params7] at ht
        have hm : t ∈ [41, 42] := by simpa using Array.mem_of_getElem? ht
        have hall : ([41, 42].all fun u => !Tryd.prog.wantsStandIn u) = true := by kernel_rfl
        exact (show Tryd.prog.wantsStandIn t = false by simpa using List.all_eq_true.1 hall t hm)⟩)
    (by kernel_rfl)
#print axioms defBounds_card
end Go.Proofs.YtdahnjcoflifbaaDoor
