/- The walk over droverlaw10.VrTells: a node that recovers goes on with the greatest view that was told, by its leader, and by none too few tell. -/
import Derived.Test.YtflphpjfmbkeiaaLives10
import Derived.Test.YtflphpjfmbkeiaaTolds
import Derived.Test.YtflphpjfmbkeiaaTellsM
import Derived.Test.YtflphpjfmbkeiaaFresh
import Derived.Test.YtflphpjfmbkeiaaArg10
import Derived.Deep.QuietTactic
import Derived.BigQuiet
namespace Go.Proofs.Ytflphpjfmbkeiaa
open Go.RowKit

section
variable {P : Program} {w : World}
/-- The literal of an answer, whatever its flag is. -/
theorem wpList_build_tell {ops : Array Oper} {rest : List Oper} {op : Oper} {a : Act} {Q : Exit → Act → World → Prop} (hgd : op.guard = none) (xs : Array (Nat × Operand)) (ho : op.op = .build 40 xs) (i v : Int)
    (hp : ∃ b : Bool, xs.toList.map (fun q => (q.1, a.eval q.2)) = [(0, .int .i64 10), (1, .int .i64 i), (3, .int .i64 v), (7, .int .i64 9), (9, .bool b)])
    (h : ∀ b, wpList Try.prog ops Q rest (a.put op.dst (.agg ((tellD i v b).cells (.slice none 0 0) (.slice none 0 0) (.slice none 0 0)).toArray)) w) : wpList Try.prog ops Q (op :: rest) a w :=
  let ⟨b, e⟩ := hp
  wpList_build_parts hgd _ xs ho _ (by rw [Array.toList_map]; exact e) _ (built_tell i v b) (h b)
end
theorem tell_lists (F : Nat → Prop) (w : World) (i v : Int) (b : Bool) : Lists F w (tellD i v b) (.slice none 0 0) (.slice none 0 0) (.slice none 0 0) := ⟨StepsAt.nil_ _ _, OpsAt.nil_ _ _, IncsAt.nil_ _ _⟩
theorem later_box {w w2 : World} {X : Obj} (hg : (w.alloc X).grownBy w2 (some w.heap.size)) : Later w w2 := ((Below.refl _ _).alloc (Nat.le_refl _) _).grown hg (by simp) (fun k hk => by have := Option.some.inj hk; omega)

set_option maxHeartbeats 8000000 in
set_option maxRecDepth 100000 in
theorem law_tells5 (n x0 x1 x2 x3 x4 lead : Nat) (w : World) (hn : n < 18446744073709551616) (hx : ∀ x ∈ [x0, x1, x2, x3, x4], x < 18446744073709551616) (_hl : lead < 18446744073709551616) :
    Calls Try.prog 6 #[.int .u64 n, .agg #[.int .u64 x0, .int .u64 x1, .int .u64 x2, .int .u64 x3, .int .u64 x4], .int .u64 lead] w fun e w' => e = .returned (.bool true) ∧ Below w.heap.size w w' := by
  have LV := hide lives_any
  obtain ⟨i0, hi, hz0, hz1, hz2⟩ := info_parts Try.infoMsg
  obtain ⟨l, hl⟩ : ∃ l, [x0, x1, x2, x3, x4] = l := ⟨_, rfl⟩
  have hlen : l.length = 5 := by rw [← hl]; rfl
  have HX0 : Hid (∀ w', Later (w.alloc (.cells #[.int .u64 x0, .int .u64 x1, .int .u64 x2, .int .u64 x3, .int .u64 x4] 46 (0, 0))) w' → ∀ (i x : Nat), l[i]? = some x → w'.cell? ⟨w.heap.size, i, none⟩ = some (.int .u64 (x : Int))) := fun w' h i x hix => by
    have h1 := (Below.block h w.heap.size (by simp)).trans (heap_alloc_new _ _)
    rw [cell_of_row _ _ i _ _ _ h1]
    rw [← hl] at hix
    match i, hix with
    | 0, hix =>
      obtain rfl : x0 = x := by simpa using hix
      rfl
    | 1, hix =>
      obtain rfl : x1 = x := by simpa using hix
      rfl
    | 2, hix =>
      obtain rfl : x2 = x := by simpa using hix
      rfl
    | 3, hix =>
      obtain rfl : x3 = x := by simpa using hix
      rfl
    | 4, hix =>
      obtain rfl : x4 = x := by simpa using hix
      rfl
  have HXL : Hid (∀ x ∈ l, x < 18446744073709551616) := by rw [← hl]; exact hx
  have HL0 : Hid (Later w (w.alloc (.cells #[.int .u64 x0, .int .u64 x1, .int .u64 x2, .int .u64 x3, .int .u64 x4] 46 (0, 0)))) := (Below.refl _ _).alloc (Nat.le_refl _) _
  obtain ⟨V, hV⟩ : ∃ V : Nat → Nat, V = fun j => l.getD j 0 % 20 := ⟨_, rfl⟩
  have HV : Hid (∀ j, V j = l.getD j 0 % 20) := fun j => by rw [hV]
  obtain ⟨q, hq⟩ : ∃ q, q = n % 4 := ⟨_, rfl⟩
  have e1 : (n : Int) % 4 = (q : Int) := by omega
  have hq4 : q < 4 := by omega
  have hok : okN (2 + (q : Int)) = true := okN_iff.2 ⟨by omega, by omega⟩
  obtain ⟨f, hf, hf0, hf2⟩ : ∃ f, faulI (2 + (q : Int)) = f ∧ 0 ≤ f ∧ f ≤ 2 := ⟨_, rfl, faul_fit _⟩
  have FA : Hid (∀ w, Calls Try.prog 22 #[.int .i64 (2 + (q : Int))] w fun e w' => e = .returned (.int .i64 f) ∧ w = w') := fun w => by rw [← hf]; exact reffaults_any _ w
  have HF := hide hf
  have HLEN := hide hlen
  clear hq hl hx hlen hok hV hf
  go_enter Try.func6, Try.ntmps6
  go_wp2
  simp only [e1]
  go_loopw [8, 9, 10] (fun r0 s j wr => ∃ (i best : Nat) (qs : List MsgV) (r : Value), r = r0 ∧ j = .int .i64 ((i : Int) + 1) ∧ i ≤ 2 + q ∧ s = .int .i64 (best : Int) ∧ best < 20 ∧ Best V i best ∧ MRow wr (w.heap.size + 1) r qs ∧ Telling V (qs.map MsgV.m) i ∧ Later (w.alloc (.cells #[.int .u64 x0, .int .u64 x1, .int .u64 x2, .int .u64 x3, .int .u64 x4] 46 (0, 0))) wr) (fun _ _ j _ => 3 + q - (Go.RowKit.intOf j).toNat)
  case atStart => exact ⟨0, 0, [], _, rfl, by go_num, by omega, rfl, by omega, Best.start V, MRow.nil _ _, ⟨rfl, fun j h => by omega⟩, Below.refl _ _⟩
  case round =>
    obtain ⟨i, best, qs, r, rfl, rfl, hik, rfl, hb20, hbest, hrow, htell, hb⟩ := hrel
    have HBEST := hide hbest
    have HROW := hide hrow
    have HTELL := hide htell
    have HB := hide hb
    have hqi : qs.length = i := by have := htell.1; rw [List.length_map] at this; exact this
    have HQI := hide hqi
    have hws : w.heap.size + 1 ≤ wr.heap.size := by have h := Below.size hb; rw [World.size_alloc] at h; exact h
    clear hbest hrow htell hb hqi
    by_cases hi2 : i < 2 + q
    · obtain ⟨x, hix⟩ : ∃ x, l[i]? = some x := ⟨_, List.getElem?_eq_getElem (by have := HLEN.out; omega)⟩
      have hc := HX0.out wr HB.out i x hix
      have hxl := HXL.out x (List.mem_of_getElem? hix)
      have hVi : V i = x % 20 := by rw [HV.out, show l.getD i 0 = x from by simp [List.getD, hix]]
      obtain ⟨y, hy⟩ : ∃ y, V i = y := ⟨_, rfl⟩
      have e3 : (x : Int) % 20 = (y : Int) := by omega
      have hy2 : y < 20 := by omega
      have HY := hide hy
      obtain ⟨L, hL, hL0, hL5⟩ : ∃ L, leadI (y : Int) (2 + (q : Int)) = L ∧ 0 ≤ L ∧ L ≤ 5 := ⟨_, rfl, lead_fit _ _⟩
      have LA : Hid (∀ w, Calls Try.prog 20 #[.int .i64 (y : Int), .int .i64 (2 + (q : Int))] w fun e w' => e = .returned (.int .i64 L) ∧ w = w') := fun w => by rw [← hL]; exact refleader_any _ _ w
      have HZ : Hid ((wr.alloc (.cells zcells 40 (0, 0))).heap[wr.heap.size]? = some (.cells zcells 40 (0, 0))) := heap_alloc_new _ _
      clear hix hVi hy hL
      by_cases hLi : L = (i : Int) + 1
      · have hdl : (L == (i : Int) + 1) = true := by simpa using hLi
        clear hLi
        go_wp2_with (fail)
        refine (LA.out _).mono ?_
        rintro e w1 ⟨rfl, rfl⟩
        go_wp2_with (first
          | (refine wpList_build_tell (by rfl) _ (by rfl) ((i : Int) + 1) (y : Int) ⟨_, rfl⟩ ?_; intro ld)
          | (refine wpList_store_box (by rfl) 40 _ _ (by rfl) (wr.heap.size) 0 (((tellD ((i : Int) + 1) (y : Int) ld).cells (.slice none 0 0) (.slice none 0 0) (.slice none 0 0)).toArray) (by rfl) (by rfl) 40 (zcells) (HZ.out) (by kernel_rfl) (by exact Nat.le_of_ble_eq_true rfl) (by exact MsgD.one _ rfl rfl rfl) ?_; intro w2 hb2 hg2; rw [put_zmsg] at hb2)
          | (refine wpList_load_box (by rfl) 40 _ (by rfl) (wr.heap.size) 0 (by rfl) 40 _ (hb2) 34 _ Try.underlying40 (by rfl) (by kernel_rfl) (((tellD ((i : Int) + 1) (y : Int) ld).cells (.slice none 0 0) (.slice none 0 0) (.slice none 0 0))) (by rfl) (by rfl) ?_)
          | (refine wpList_buildSlice_one (by rfl) 23 40 _ (by rfl) i0 _ 34 Try.underlying23 hi hz0 hz1 (by decide) (by decide) (((tellD ((i : Int) + 1) (y : Int) ld).cells (.slice none 0 0) (.slice none 0 0) (.slice none 0 0)).toArray) (by rfl) (by rfl) ?_)
          | (at_builtin; refine wpList_append_flat_to (by rfl) _ _ 23 (by rfl) (w.heap.size + 1) 40 i0 _ 34 304 Try.underlying23 hi hz0 hz1 hz2 (by rfl) (by decide) r qs.length (qs.flatMap MsgV.cells) (by rfl) ((HROW.out.later (later_box hg2)).own.alloc _) w2.heap.size 1 1 (((tellD ((i : Int) + 1) (y : Int) ld).cells (.slice none 0 0) (.slice none 0 0) (.slice none 0 0))) (by rfl) (fun _ => True) (flat_one w2 40 34 ((tellD ((i : Int) + 1) (y : Int) ld).cells (.slice none 0 0) (.slice none 0 0) (.slice none 0 0)).toArray (by rfl) (by exact MsgD.one _ rfl rfl rfl) (fun _ => True) trivial) (by decide) (by have := HQI.out; unfold maxLen; omega) (by have := HQI.out; omega) (by have := Below.size (later_box hg2); simp; omega) ?_; intro v5 w5 o5 g5 e5))
        have HL2 : Hid (Later wr w2) := later_box hg2
        have R5 := hide (MRow.next (p := ⟨tellD ((i : Int) + 1) (y : Int) ld, .slice none 0 0, .slice none 0 0, .slice none 0 0⟩) (HROW.out.later HL2.out) (tell_lists _ _ _ _ _) o5 g5 e5)
        have L5 : Hid (Later (w.alloc (.cells #[.int .u64 x0, .int .u64 x1, .int .u64 x2, .int .u64 x3, .int .u64 x4] 46 (0, 0))) w5) := Below.grown (Below.alloc (HB.out.trans HL2.out) (by have := Below.size HL2.out; rw [World.size_alloc]; omega) _) g5 (by have := Below.size HL2.out; simp; omega) (fun k hk => by have := (HROW.out.own.lt k hk).1; rw [World.size_alloc]; omega)
        have T5 : Hid (Telling V ((qs ++ [(⟨tellD ((i : Int) + 1) (y : Int) ld, .slice none 0 0, .slice none 0 0, .slice none 0 0⟩ : MsgV)]).map MsgV.m) (i + 1)) := by
          show Telling _ _ _
          rw [List.map_append, ← HY.out]
          exact HTELL.out.next ld
        generalize hqs : qs ++ [(⟨tellD ((i : Int) + 1) (y : Int) ld, .slice none 0 0, .slice none 0 0, .slice none 0 0⟩ : MsgV)] = qs5 at R5 T5
        have hq5 : qs5.length = i + 1 := by have := T5.out.1; rw [List.length_map] at this; exact this
        have HQ5 := hide hq5
        have hsr : ∀ p ∈ qs5, I64 p.m.src := fun p hp => by
          obtain ⟨j, hj⟩ := List.mem_iff_getElem?.1 hp
          have hj1 : j < qs5.length := (List.getElem?_eq_some_iff.1 hj).1
          obtain ⟨b, hb⟩ := T5.out.2 j (by omega)
          rw [List.getElem?_map, hj] at hb
          have hm : p.m = tellD ((j : Int) + 1) (V j : Int) b := by simpa using hb
          rw [hm]
          exact ⟨by simp only [tellD]; omega, by simp only [tellD]; omega⟩
        have C9 := hide (recovered_any (nonce := 9) (n := 2 + (q : Int)) R5.out.msgs (by omega) hsr)
        have C8 : Hid (∀ w', Later w5 w' → Calls Try.prog 21 #[v5, .int .i64 8, .int .i64 (2 + (q : Int))] w' fun e w'' => e = .returned (.tuple #[.int .i64 0, .bool false]) ∧ Later w' w'') := fun w' hl => by
          have h := recovered_any (nonce := 8) (n := 2 + (q : Int)) (MsgsIn.kept R5.out.msgs (Kept.of_below hl _)) (by omega) hsr
          rw [rec_other T5.out (by rw [HF.out]; exact hf0)] at h
          exact h
        have HFEW : Hid (((i + 1 : Nat) : Int) ≤ f → recV (qs5.map MsgV.m) 9 (2 + (q : Int)) = (0, false)) := fun h => rec_few T5.out (by rw [HF.out]; exact h)
        have HTOLD : Hid (∀ b', Best V (i + 1) b' → ∀ a, recV (qs5.map MsgV.m) 9 (2 + (q : Int)) = (a, true) → ∃ j : Nat, a = (j : Int) ∧ j < i + 1 ∧ V j = b' ∧ (qs5.map MsgV.m)[j]? = some (tellD ((j : Int) + 1) (b' : Int) true) ∧ leadI (b' : Int) (2 + (q : Int)) = (j : Int) + 1) := fun b' hb a ha => rec_told T5.out hb (by omega) ha
        obtain ⟨⟨a, ok⟩, hrec⟩ : ∃ z, recV (qs5.map MsgV.m) 9 (2 + (q : Int)) = z := ⟨_, rfl⟩
        rw [hrec] at C9 HFEW HTOLD
        clear hb2 hg2 o5 g5 e5 hqs hq5 hsr hrec LA HZ e3 hc hxl
        by_cases hby : best < y
        · have HBB := hide (HBEST.out.up (by rw [HY.out]; exact hby))
          rw [HY.out] at HBB
          have hdb : decide (best < y) = true := by simpa using hby
          cases ok with
          | false =>
            by_cases hif : (i : Int) + 1 ≤ f
            · have hdf : decide ((i : Int) + 1 ≤ f) = true := by simpa using hif
              clear HFEW HTOLD hif
              go_wp2_with (fail)
              refine C9.out.mono ?_
              rintro e w6 ⟨rfl, hl6⟩
              have L6 := hide hl6
              clear hl6 C9
              go_wp2_with (fail)
              refine (FA.out _).mono ?_
              rintro e w7 ⟨rfl, rfl⟩
              go_wp2
              go_quiet (fail)
              go_wp2_with (fail)
              refine (C8.out _ (L6.out.trans (below_drewN _ _ _))).mono ?_
              rintro e w8 ⟨rfl, hl8⟩
              have LX : Hid (Later w5 w8) := (L6.out.trans (below_drewN _ _ _)).trans hl8
              clear hl8
              go_wp2
              go_roundw
              case rel => exact ⟨i + 1, y, qs5, _, rfl, by go_num, by omega, rfl, by omega, HBB.out, R5.out.later LX.out, T5.out, L5.out.trans LX.out⟩
              case measure => simp [Go.RowKit.intOf]; omega
            · have hdf : decide ((i : Int) + 1 ≤ f) = false := by simpa using hif
              clear HFEW HTOLD hif
              go_wp2_with (fail)
              refine C9.out.mono ?_
              rintro e w6 ⟨rfl, hl6⟩
              have L6 := hide hl6
              clear hl6 C9
              go_wp2_with (fail)
              refine (FA.out _).mono ?_
              rintro e w7 ⟨rfl, rfl⟩
              go_wp2
              go_quiet (fail)
              go_wp2_with (fail)
              refine (C8.out _ (L6.out.trans (below_drewN _ _ _))).mono ?_
              rintro e w8 ⟨rfl, hl8⟩
              have LX : Hid (Later w5 w8) := (L6.out.trans (below_drewN _ _ _)).trans hl8
              clear hl8
              go_wp2
              go_roundw
              case rel => exact ⟨i + 1, y, qs5, _, rfl, by go_num, by omega, rfl, by omega, HBB.out, R5.out.later LX.out, T5.out, L5.out.trans LX.out⟩
              case measure => simp [Go.RowKit.intOf]; omega
          | true =>
            have hif : ¬ (i : Int) + 1 ≤ f := fun h => by have := HFEW.out (by omega); simp at this
            obtain ⟨j, rfl, hji, hvj, hmj, hlj⟩ := HTOLD.out _ HBB.out a rfl
            have hdf : decide ((i : Int) + 1 ≤ f) = false := by simpa using hif
            have LB : Hid (∀ w, Calls Try.prog 20 #[.int .i64 (y : Int), .int .i64 (2 + (q : Int))] w fun e w' => e = .returned (.int .i64 ((j : Int) + 1)) ∧ w' = w) := fun w => by rw [← hlj]; exact (refleader_any _ _ w).mono fun _ _ ⟨h1, h2⟩ => ⟨h1, h2.symm⟩
            have HMJ := hide hmj
            clear HFEW HTOLD hif hvj hlj hmj
            go_wp2_with (fail)
            refine C9.out.mono ?_
            rintro e w6 ⟨rfl, hl6⟩
            have L6 := hide hl6
            clear hl6 C9
            obtain ⟨p, b, off, cp, hx, hv, hcp, _, _, hr, _⟩ := MsgsIn.at_ (R5.out.later L6.out).msgs (k := j) (by have := HQ5.out; omega)
            have hpm : p.m = tellD ((j : Int) + 1) (y : Int) true := by
              have h := HMJ.out
              rw [List.getElem?_map, hx] at h
              simpa using h
            have r1 := hr 1 (.int .i64 ((j : Int) + 1)) (by unfold MsgV.cells; rw [hpm]; rfl)
            have r3 := hr 3 (.int .i64 (y : Int)) (by unfold MsgV.cells; rw [hpm]; rfl)
            have r9 := hr 9 (.bool true) (by unfold MsgV.cells; rw [hpm]; rfl)
            obtain ⟨N, hN⟩ : ∃ N, i + 1 = N := ⟨_, rfl⟩
            rw [HQ5.out, hN] at hv hcp
            have hjN : j < N := by omega
            have t1 : ((y : Int) != (y : Int)) = false := by simp
            have t2 : ((j : Int) + 1 != (j : Int) + 1) = false := by simp
            have t3 : decide ((N : Int) ≤ (j : Int)) = false := by simp; omega
            have t4 : decide ((j : Int) < 0) = false := by simp
            subst hv
            clear hx hpm hr hN
            go_wp2_with (fail)
            refine (FA.out _).mono ?_
            rintro e w7 ⟨rfl, rfl⟩
            go_wp2
            go_quiet ((go_at_call 20; exact Calls.quiet_of_same (LB.out _)))
            go_wp2_with (fail)
            refine (C8.out _ (L6.out.trans (below_drewN _ _ _))).mono ?_
            rintro e w8 ⟨rfl, hl8⟩
            have LX : Hid (Later w5 w8) := (L6.out.trans (below_drewN _ _ _)).trans hl8
            clear hl8
            go_wp2
            go_roundw
            case rel => exact ⟨i + 1, y, qs5, _, rfl, by go_num, by omega, rfl, by omega, HBB.out, R5.out.later LX.out, T5.out, L5.out.trans LX.out⟩
            case measure => simp [Go.RowKit.intOf]; omega
        · have HBB := hide (HBEST.out.stay (by rw [HY.out]; exact hby))
          have hdb : decide (best < y) = false := by simpa using hby
          cases ok with
          | false =>
            by_cases hif : (i : Int) + 1 ≤ f
            · have hdf : decide ((i : Int) + 1 ≤ f) = true := by simpa using hif
              clear HFEW HTOLD hif
              go_wp2_with (fail)
              refine C9.out.mono ?_
              rintro e w6 ⟨rfl, hl6⟩
              have L6 := hide hl6
              clear hl6 C9
              go_wp2_with (fail)
              refine (FA.out _).mono ?_
              rintro e w7 ⟨rfl, rfl⟩
              go_wp2
              go_quiet (fail)
              go_wp2_with (fail)
              refine (C8.out _ (L6.out.trans (below_drewN _ _ _))).mono ?_
              rintro e w8 ⟨rfl, hl8⟩
              have LX : Hid (Later w5 w8) := (L6.out.trans (below_drewN _ _ _)).trans hl8
              clear hl8
              go_wp2
              go_roundw
              case rel => exact ⟨i + 1, best, qs5, _, rfl, by go_num, by omega, rfl, by omega, HBB.out, R5.out.later LX.out, T5.out, L5.out.trans LX.out⟩
              case measure => simp [Go.RowKit.intOf]; omega
            · have hdf : decide ((i : Int) + 1 ≤ f) = false := by simpa using hif
              clear HFEW HTOLD hif
              go_wp2_with (fail)
              refine C9.out.mono ?_
              rintro e w6 ⟨rfl, hl6⟩
              have L6 := hide hl6
              clear hl6 C9
              go_wp2_with (fail)
              refine (FA.out _).mono ?_
              rintro e w7 ⟨rfl, rfl⟩
              go_wp2
              go_quiet (fail)
              go_wp2_with (fail)
              refine (C8.out _ (L6.out.trans (below_drewN _ _ _))).mono ?_
              rintro e w8 ⟨rfl, hl8⟩
              have LX : Hid (Later w5 w8) := (L6.out.trans (below_drewN _ _ _)).trans hl8
              clear hl8
              go_wp2
              go_roundw
              case rel => exact ⟨i + 1, best, qs5, _, rfl, by go_num, by omega, rfl, by omega, HBB.out, R5.out.later LX.out, T5.out, L5.out.trans LX.out⟩
              case measure => simp [Go.RowKit.intOf]; omega
          | true =>
            have hif : ¬ (i : Int) + 1 ≤ f := fun h => by have := HFEW.out (by omega); simp at this
            obtain ⟨j, rfl, hji, hvj, hmj, hlj⟩ := HTOLD.out _ HBB.out a rfl
            have hdf : decide ((i : Int) + 1 ≤ f) = false := by simpa using hif
            have LB : Hid (∀ w, Calls Try.prog 20 #[.int .i64 (best : Int), .int .i64 (2 + (q : Int))] w fun e w' => e = .returned (.int .i64 ((j : Int) + 1)) ∧ w' = w) := fun w => by rw [← hlj]; exact (refleader_any _ _ w).mono fun _ _ ⟨h1, h2⟩ => ⟨h1, h2.symm⟩
            have HMJ := hide hmj
            clear HFEW HTOLD hif hvj hlj hmj
            go_wp2_with (fail)
            refine C9.out.mono ?_
            rintro e w6 ⟨rfl, hl6⟩
            have L6 := hide hl6
            clear hl6 C9
            obtain ⟨p, b, off, cp, hx, hv, hcp, _, _, hr, _⟩ := MsgsIn.at_ (R5.out.later L6.out).msgs (k := j) (by have := HQ5.out; omega)
            have hpm : p.m = tellD ((j : Int) + 1) (best : Int) true := by
              have h := HMJ.out
              rw [List.getElem?_map, hx] at h
              simpa using h
            have r1 := hr 1 (.int .i64 ((j : Int) + 1)) (by unfold MsgV.cells; rw [hpm]; rfl)
            have r3 := hr 3 (.int .i64 (best : Int)) (by unfold MsgV.cells; rw [hpm]; rfl)
            have r9 := hr 9 (.bool true) (by unfold MsgV.cells; rw [hpm]; rfl)
            obtain ⟨N, hN⟩ : ∃ N, i + 1 = N := ⟨_, rfl⟩
            rw [HQ5.out, hN] at hv hcp
            have hjN : j < N := by omega
            have t1 : ((best : Int) != (best : Int)) = false := by simp
            have t2 : ((j : Int) + 1 != (j : Int) + 1) = false := by simp
            have t3 : decide ((N : Int) ≤ (j : Int)) = false := by simp; omega
            have t4 : decide ((j : Int) < 0) = false := by simp
            subst hv
            clear hx hpm hr hN
            go_wp2_with (fail)
            refine (FA.out _).mono ?_
            rintro e w7 ⟨rfl, rfl⟩
            go_wp2
            go_quiet ((go_at_call 20; exact Calls.quiet_of_same (LB.out _)))
            go_wp2_with (fail)
            refine (C8.out _ (L6.out.trans (below_drewN _ _ _))).mono ?_
            rintro e w8 ⟨rfl, hl8⟩
            have LX : Hid (Later w5 w8) := (L6.out.trans (below_drewN _ _ _)).trans hl8
            clear hl8
            go_wp2
            go_roundw
            case rel => exact ⟨i + 1, best, qs5, _, rfl, by go_num, by omega, rfl, by omega, HBB.out, R5.out.later LX.out, T5.out, L5.out.trans LX.out⟩
            case measure => simp [Go.RowKit.intOf]; omega
      · have hdl : (L == (i : Int) + 1) = false := by simpa using hLi
        clear hLi
        go_wp2_with (fail)
        refine (LA.out _).mono ?_
        rintro e w1 ⟨rfl, rfl⟩
        go_wp2_with (first
          | (refine wpList_build_tell (by rfl) _ (by rfl) ((i : Int) + 1) (y : Int) ⟨_, rfl⟩ ?_; intro ld)
          | (refine wpList_store_box (by rfl) 40 _ _ (by rfl) (wr.heap.size) 0 (((tellD ((i : Int) + 1) (y : Int) ld).cells (.slice none 0 0) (.slice none 0 0) (.slice none 0 0)).toArray) (by rfl) (by rfl) 40 (zcells) (HZ.out) (by kernel_rfl) (by exact Nat.le_of_ble_eq_true rfl) (by exact MsgD.one _ rfl rfl rfl) ?_; intro w2 hb2 hg2; rw [put_zmsg] at hb2)
          | (refine wpList_load_box (by rfl) 40 _ (by rfl) (wr.heap.size) 0 (by rfl) 40 _ (hb2) 34 _ Try.underlying40 (by rfl) (by kernel_rfl) (((tellD ((i : Int) + 1) (y : Int) ld).cells (.slice none 0 0) (.slice none 0 0) (.slice none 0 0))) (by rfl) (by rfl) ?_)
          | (refine wpList_buildSlice_one (by rfl) 23 40 _ (by rfl) i0 _ 34 Try.underlying23 hi hz0 hz1 (by decide) (by decide) (((tellD ((i : Int) + 1) (y : Int) ld).cells (.slice none 0 0) (.slice none 0 0) (.slice none 0 0)).toArray) (by rfl) (by rfl) ?_)
          | (at_builtin; refine wpList_append_flat_to (by rfl) _ _ 23 (by rfl) (w.heap.size + 1) 40 i0 _ 34 304 Try.underlying23 hi hz0 hz1 hz2 (by rfl) (by decide) r qs.length (qs.flatMap MsgV.cells) (by rfl) ((HROW.out.later (later_box hg2)).own.alloc _) w2.heap.size 1 1 (((tellD ((i : Int) + 1) (y : Int) ld).cells (.slice none 0 0) (.slice none 0 0) (.slice none 0 0))) (by rfl) (fun _ => True) (flat_one w2 40 34 ((tellD ((i : Int) + 1) (y : Int) ld).cells (.slice none 0 0) (.slice none 0 0) (.slice none 0 0)).toArray (by rfl) (by exact MsgD.one _ rfl rfl rfl) (fun _ => True) trivial) (by decide) (by have := HQI.out; unfold maxLen; omega) (by have := HQI.out; omega) (by have := Below.size (later_box hg2); simp; omega) ?_; intro v5 w5 o5 g5 e5))
        have HL2 : Hid (Later wr w2) := later_box hg2
        have R5 := hide (MRow.next (p := ⟨tellD ((i : Int) + 1) (y : Int) ld, .slice none 0 0, .slice none 0 0, .slice none 0 0⟩) (HROW.out.later HL2.out) (tell_lists _ _ _ _ _) o5 g5 e5)
        have L5 : Hid (Later (w.alloc (.cells #[.int .u64 x0, .int .u64 x1, .int .u64 x2, .int .u64 x3, .int .u64 x4] 46 (0, 0))) w5) := Below.grown (Below.alloc (HB.out.trans HL2.out) (by have := Below.size HL2.out; rw [World.size_alloc]; omega) _) g5 (by have := Below.size HL2.out; simp; omega) (fun k hk => by have := (HROW.out.own.lt k hk).1; rw [World.size_alloc]; omega)
        have T5 : Hid (Telling V ((qs ++ [(⟨tellD ((i : Int) + 1) (y : Int) ld, .slice none 0 0, .slice none 0 0, .slice none 0 0⟩ : MsgV)]).map MsgV.m) (i + 1)) := by
          show Telling _ _ _
          rw [List.map_append, ← HY.out]
          exact HTELL.out.next ld
        generalize hqs : qs ++ [(⟨tellD ((i : Int) + 1) (y : Int) ld, .slice none 0 0, .slice none 0 0, .slice none 0 0⟩ : MsgV)] = qs5 at R5 T5
        have hq5 : qs5.length = i + 1 := by have := T5.out.1; rw [List.length_map] at this; exact this
        have HQ5 := hide hq5
        have hsr : ∀ p ∈ qs5, I64 p.m.src := fun p hp => by
          obtain ⟨j, hj⟩ := List.mem_iff_getElem?.1 hp
          have hj1 : j < qs5.length := (List.getElem?_eq_some_iff.1 hj).1
          obtain ⟨b, hb⟩ := T5.out.2 j (by omega)
          rw [List.getElem?_map, hj] at hb
          have hm : p.m = tellD ((j : Int) + 1) (V j : Int) b := by simpa using hb
          rw [hm]
          exact ⟨by simp only [tellD]; omega, by simp only [tellD]; omega⟩
        have C9 := hide (recovered_any (nonce := 9) (n := 2 + (q : Int)) R5.out.msgs (by omega) hsr)
        have C8 : Hid (∀ w', Later w5 w' → Calls Try.prog 21 #[v5, .int .i64 8, .int .i64 (2 + (q : Int))] w' fun e w'' => e = .returned (.tuple #[.int .i64 0, .bool false]) ∧ Later w' w'') := fun w' hl => by
          have h := recovered_any (nonce := 8) (n := 2 + (q : Int)) (MsgsIn.kept R5.out.msgs (Kept.of_below hl _)) (by omega) hsr
          rw [rec_other T5.out (by rw [HF.out]; exact hf0)] at h
          exact h
        have HFEW : Hid (((i + 1 : Nat) : Int) ≤ f → recV (qs5.map MsgV.m) 9 (2 + (q : Int)) = (0, false)) := fun h => rec_few T5.out (by rw [HF.out]; exact h)
        have HTOLD : Hid (∀ b', Best V (i + 1) b' → ∀ a, recV (qs5.map MsgV.m) 9 (2 + (q : Int)) = (a, true) → ∃ j : Nat, a = (j : Int) ∧ j < i + 1 ∧ V j = b' ∧ (qs5.map MsgV.m)[j]? = some (tellD ((j : Int) + 1) (b' : Int) true) ∧ leadI (b' : Int) (2 + (q : Int)) = (j : Int) + 1) := fun b' hb a ha => rec_told T5.out hb (by omega) ha
        obtain ⟨⟨a, ok⟩, hrec⟩ : ∃ z, recV (qs5.map MsgV.m) 9 (2 + (q : Int)) = z := ⟨_, rfl⟩
        rw [hrec] at C9 HFEW HTOLD
        clear hb2 hg2 o5 g5 e5 hqs hq5 hsr hrec LA HZ e3 hc hxl
        by_cases hby : best < y
        · have HBB := hide (HBEST.out.up (by rw [HY.out]; exact hby))
          rw [HY.out] at HBB
          have hdb : decide (best < y) = true := by simpa using hby
          cases ok with
          | false =>
            by_cases hif : (i : Int) + 1 ≤ f
            · have hdf : decide ((i : Int) + 1 ≤ f) = true := by simpa using hif
              clear HFEW HTOLD hif
              go_wp2_with (fail)
              refine C9.out.mono ?_
              rintro e w6 ⟨rfl, hl6⟩
              have L6 := hide hl6
              clear hl6 C9
              go_wp2_with (fail)
              refine (FA.out _).mono ?_
              rintro e w7 ⟨rfl, rfl⟩
              go_wp2
              go_quiet (fail)
              go_wp2_with (fail)
              refine (C8.out _ (L6.out.trans (below_drewN _ _ _))).mono ?_
              rintro e w8 ⟨rfl, hl8⟩
              have LX : Hid (Later w5 w8) := (L6.out.trans (below_drewN _ _ _)).trans hl8
              clear hl8
              go_wp2
              go_roundw
              case rel => exact ⟨i + 1, y, qs5, _, rfl, by go_num, by omega, rfl, by omega, HBB.out, R5.out.later LX.out, T5.out, L5.out.trans LX.out⟩
              case measure => simp [Go.RowKit.intOf]; omega
            · have hdf : decide ((i : Int) + 1 ≤ f) = false := by simpa using hif
              clear HFEW HTOLD hif
              go_wp2_with (fail)
              refine C9.out.mono ?_
              rintro e w6 ⟨rfl, hl6⟩
              have L6 := hide hl6
              clear hl6 C9
              go_wp2_with (fail)
              refine (FA.out _).mono ?_
              rintro e w7 ⟨rfl, rfl⟩
              go_wp2
              go_quiet (fail)
              go_wp2_with (fail)
              refine (C8.out _ (L6.out.trans (below_drewN _ _ _))).mono ?_
              rintro e w8 ⟨rfl, hl8⟩
              have LX : Hid (Later w5 w8) := (L6.out.trans (below_drewN _ _ _)).trans hl8
              clear hl8
              go_wp2
              go_roundw
              case rel => exact ⟨i + 1, y, qs5, _, rfl, by go_num, by omega, rfl, by omega, HBB.out, R5.out.later LX.out, T5.out, L5.out.trans LX.out⟩
              case measure => simp [Go.RowKit.intOf]; omega
          | true =>
            have hif : ¬ (i : Int) + 1 ≤ f := fun h => by have := HFEW.out (by omega); simp at this
            obtain ⟨j, rfl, hji, hvj, hmj, hlj⟩ := HTOLD.out _ HBB.out a rfl
            have hdf : decide ((i : Int) + 1 ≤ f) = false := by simpa using hif
            have LB : Hid (∀ w, Calls Try.prog 20 #[.int .i64 (y : Int), .int .i64 (2 + (q : Int))] w fun e w' => e = .returned (.int .i64 ((j : Int) + 1)) ∧ w' = w) := fun w => by rw [← hlj]; exact (refleader_any _ _ w).mono fun _ _ ⟨h1, h2⟩ => ⟨h1, h2.symm⟩
            have HMJ := hide hmj
            clear HFEW HTOLD hif hvj hlj hmj
            go_wp2_with (fail)
            refine C9.out.mono ?_
            rintro e w6 ⟨rfl, hl6⟩
            have L6 := hide hl6
            clear hl6 C9
            obtain ⟨p, b, off, cp, hx, hv, hcp, _, _, hr, _⟩ := MsgsIn.at_ (R5.out.later L6.out).msgs (k := j) (by have := HQ5.out; omega)
            have hpm : p.m = tellD ((j : Int) + 1) (y : Int) true := by
              have h := HMJ.out
              rw [List.getElem?_map, hx] at h
              simpa using h
            have r1 := hr 1 (.int .i64 ((j : Int) + 1)) (by unfold MsgV.cells; rw [hpm]; rfl)
            have r3 := hr 3 (.int .i64 (y : Int)) (by unfold MsgV.cells; rw [hpm]; rfl)
            have r9 := hr 9 (.bool true) (by unfold MsgV.cells; rw [hpm]; rfl)
            obtain ⟨N, hN⟩ : ∃ N, i + 1 = N := ⟨_, rfl⟩
            rw [HQ5.out, hN] at hv hcp
            have hjN : j < N := by omega
            have t1 : ((y : Int) != (y : Int)) = false := by simp
            have t2 : ((j : Int) + 1 != (j : Int) + 1) = false := by simp
            have t3 : decide ((N : Int) ≤ (j : Int)) = false := by simp; omega
            have t4 : decide ((j : Int) < 0) = false := by simp
            subst hv
            clear hx hpm hr hN
            go_wp2_with (fail)
            refine (FA.out _).mono ?_
            rintro e w7 ⟨rfl, rfl⟩
            go_wp2
            go_quiet ((go_at_call 20; exact Calls.quiet_of_same (LB.out _)))
            go_wp2_with (fail)
            refine (C8.out _ (L6.out.trans (below_drewN _ _ _))).mono ?_
            rintro e w8 ⟨rfl, hl8⟩
            have LX : Hid (Later w5 w8) := (L6.out.trans (below_drewN _ _ _)).trans hl8
            clear hl8
            go_wp2
            go_roundw
            case rel => exact ⟨i + 1, y, qs5, _, rfl, by go_num, by omega, rfl, by omega, HBB.out, R5.out.later LX.out, T5.out, L5.out.trans LX.out⟩
            case measure => simp [Go.RowKit.intOf]; omega
        · have HBB := hide (HBEST.out.stay (by rw [HY.out]; exact hby))
          have hdb : decide (best < y) = false := by simpa using hby
          cases ok with
          | false =>
            by_cases hif : (i : Int) + 1 ≤ f
            · have hdf : decide ((i : Int) + 1 ≤ f) = true := by simpa using hif
              clear HFEW HTOLD hif
              go_wp2_with (fail)
              refine C9.out.mono ?_
              rintro e w6 ⟨rfl, hl6⟩
              have L6 := hide hl6
              clear hl6 C9
              go_wp2_with (fail)
              refine (FA.out _).mono ?_
              rintro e w7 ⟨rfl, rfl⟩
              go_wp2
              go_quiet (fail)
              go_wp2_with (fail)
              refine (C8.out _ (L6.out.trans (below_drewN _ _ _))).mono ?_
              rintro e w8 ⟨rfl, hl8⟩
              have LX : Hid (Later w5 w8) := (L6.out.trans (below_drewN _ _ _)).trans hl8
              clear hl8
              go_wp2
              go_roundw
              case rel => exact ⟨i + 1, best, qs5, _, rfl, by go_num, by omega, rfl, by omega, HBB.out, R5.out.later LX.out, T5.out, L5.out.trans LX.out⟩
              case measure => simp [Go.RowKit.intOf]; omega
            · have hdf : decide ((i : Int) + 1 ≤ f) = false := by simpa using hif
              clear HFEW HTOLD hif
              go_wp2_with (fail)
              refine C9.out.mono ?_
              rintro e w6 ⟨rfl, hl6⟩
              have L6 := hide hl6
              clear hl6 C9
              go_wp2_with (fail)
              refine (FA.out _).mono ?_
              rintro e w7 ⟨rfl, rfl⟩
              go_wp2
              go_quiet (fail)
              go_wp2_with (fail)
              refine (C8.out _ (L6.out.trans (below_drewN _ _ _))).mono ?_
              rintro e w8 ⟨rfl, hl8⟩
              have LX : Hid (Later w5 w8) := (L6.out.trans (below_drewN _ _ _)).trans hl8
              clear hl8
              go_wp2
              go_roundw
              case rel => exact ⟨i + 1, best, qs5, _, rfl, by go_num, by omega, rfl, by omega, HBB.out, R5.out.later LX.out, T5.out, L5.out.trans LX.out⟩
              case measure => simp [Go.RowKit.intOf]; omega
          | true =>
            have hif : ¬ (i : Int) + 1 ≤ f := fun h => by have := HFEW.out (by omega); simp at this
            obtain ⟨j, rfl, hji, hvj, hmj, hlj⟩ := HTOLD.out _ HBB.out a rfl
            have hdf : decide ((i : Int) + 1 ≤ f) = false := by simpa using hif
            have LB : Hid (∀ w, Calls Try.prog 20 #[.int .i64 (best : Int), .int .i64 (2 + (q : Int))] w fun e w' => e = .returned (.int .i64 ((j : Int) + 1)) ∧ w' = w) := fun w => by rw [← hlj]; exact (refleader_any _ _ w).mono fun _ _ ⟨h1, h2⟩ => ⟨h1, h2.symm⟩
            have HMJ := hide hmj
            clear HFEW HTOLD hif hvj hlj hmj
            go_wp2_with (fail)
            refine C9.out.mono ?_
            rintro e w6 ⟨rfl, hl6⟩
            have L6 := hide hl6
            clear hl6 C9
            obtain ⟨p, b, off, cp, hx, hv, hcp, _, _, hr, _⟩ := MsgsIn.at_ (R5.out.later L6.out).msgs (k := j) (by have := HQ5.out; omega)
            have hpm : p.m = tellD ((j : Int) + 1) (best : Int) true := by
              have h := HMJ.out
              rw [List.getElem?_map, hx] at h
              simpa using h
            have r1 := hr 1 (.int .i64 ((j : Int) + 1)) (by unfold MsgV.cells; rw [hpm]; rfl)
            have r3 := hr 3 (.int .i64 (best : Int)) (by unfold MsgV.cells; rw [hpm]; rfl)
            have r9 := hr 9 (.bool true) (by unfold MsgV.cells; rw [hpm]; rfl)
            obtain ⟨N, hN⟩ : ∃ N, i + 1 = N := ⟨_, rfl⟩
            rw [HQ5.out, hN] at hv hcp
            have hjN : j < N := by omega
            have t1 : ((best : Int) != (best : Int)) = false := by simp
            have t2 : ((j : Int) + 1 != (j : Int) + 1) = false := by simp
            have t3 : decide ((N : Int) ≤ (j : Int)) = false := by simp; omega
            have t4 : decide ((j : Int) < 0) = false := by simp
            subst hv
            clear hx hpm hr hN
            go_wp2_with (fail)
            refine (FA.out _).mono ?_
            rintro e w7 ⟨rfl, rfl⟩
            go_wp2
            go_quiet ((go_at_call 20; exact Calls.quiet_of_same (LB.out _)))
            go_wp2_with (fail)
            refine (C8.out _ (L6.out.trans (below_drewN _ _ _))).mono ?_
            rintro e w8 ⟨rfl, hl8⟩
            have LX : Hid (Later w5 w8) := (L6.out.trans (below_drewN _ _ _)).trans hl8
            clear hl8
            go_wp2
            go_roundw
            case rel => exact ⟨i + 1, best, qs5, _, rfl, by go_num, by omega, rfl, by omega, HBB.out, R5.out.later LX.out, T5.out, L5.out.trans LX.out⟩
            case measure => simp [Go.RowKit.intOf]; omega
    · obtain rfl : i = 2 + q := by omega
      go_wp2_with (fail)
      refine (LV.out _).mono ?_
      rintro e w1 ⟨rfl, hl⟩
      have HB1 : Hid (Below w.heap.size w w1) := Later.trans HL0.out (Later.trans HB.out hl)
      clear hl
      go_wp2
      go_ret
      exact ⟨rfl, HB1.out⟩
theorem law_tells (n : Nat) (l : List Nat) (lead : Nat) (w : World) (hn : n < 18446744073709551616) (hl : l.length = 5) (hx : ∀ x ∈ l, x < 18446744073709551616) (hd : lead < 18446744073709551616) :
    Calls Try.prog 6 #[.int .u64 n, five l, .int .u64 lead] w fun e w' => e = .returned (.bool true) ∧ Below w.heap.size w w' := by
  match l, hl with
  | [x0, x1, x2, x3, x4], _ => exact law_tells5 n x0 x1 x2 x3 x4 lead w hn hx hd
end Go.Proofs.Ytflphpjfmbkeiaa
