/- Whatever message and bytes come in: NoteBack returns true and changes no argument. Conditions: the package-level table of package envelope starts as the program's text lays it; each argument takes up what the row allows. -/
import Derived.Test.YtehiaeihkdfclaaDoorBaseN1
import Derived.Test.YtehiaeihkdfclaaDoorBaseN2
import Derived.Test.YtehiaeihkdfclaaDoorBaseN3
import Derived.Test.YtehiaeihkdfclaaDoorBaseN4
import Derived.Test.YtehiaeihkdfclaaDoorBaseN5
import Derived.Test.YtehiaeihkdfclaaDoorCards
import Derived.Test.YtehiaeihkdfclaaDoorTie
import Derived.SevenTiedAt
import Derived.ShutString
import Derived.ChangeOld
/- The walk over droverlaw09.NoteBack: a good message comes back; bytes that are read are its bytes. -/
namespace Go.Proofs.YtehiaeihkdfclaaDoor
open Go.RowKit

set_option maxHeartbeats 8000000 in
set_option maxRecDepth 100000 in
theorem law_back (m : MsgD) (sv ov iv : Value) (A : Option Addr) (n c : Nat) (l : List Nat) (w : World) (hm : Lists (· < w.heap.size) w m sv ov iv) (hwf : m.wf) (hl : Holds w w.heap.size A n l) (hn : n ≤ 140737488355328) (hc : n ≤ c) (hT : Tab w) :
    Calls Tryd.prog 3 #[.agg (m.cells sv ov iv).toArray, .slice A n c] w fun e w' => e = .returned (.bool true) ∧ Later w w' := by
  have hL0 : Later w (w.alloc (.cells (m.cells sv ov iv).toArray 35 (0, 0))) := Later.alloc _ _
  have x0 : (w.alloc (.cells (m.cells sv ov iv).toArray 35 (0, 0))).heap[w.heap.size]? = some (.cells (m.cells sv ov iv).toArray 35 (0, 0)) := heap_alloc_new _ _
  have HX : Hid (∀ w', Later (w.alloc (.cells (m.cells sv ov iv).toArray 35 (0, 0))) w' → w'.heap[w.heap.size]? = some (.cells (m.cells sv ov iv).toArray 35 (0, 0))) := fun w' h => (Below.block h _ (lt_of_block x0)).trans x0
  have HM : Hid (∀ w', Later w w' → Lists (· < w.heap.size) w' m sv ov iv) := fun w' h => hm.kept (Kept.of_below h _)
  have HB : Hid (∀ w', Later w w' → Holds w' w'.heap.size A n l) := fun w' h => hl.later h
  have HT : Hid (∀ w', Later w w' → Tab w') := fun w' h => hT.later h
  have HLEN : Hid (l.length = n) := hl.1
  have HC := hide hc
  have HL0 := hide hL0
  have X0 := hide x0
  have C1 := hide (small_law hwf (HM.out _ hL0))
  clear hm hwf hl hT hL0 x0 hc
  go_enter Tryd.func3, Tryd.ntmps3
  go_wp2_with (refine wpList_val rfl (by rfl) (exec_load_box 35 _ (by rfl) w.heap.size 0 (by rfl) 35 _ X0.out 34 _ Tryd.underlying35 (by rfl) (by kernel_rfl) (m.cells sv ov iv) (by simp [List.take_of_length_le (Nat.le_of_eq (m.len sv ov iv))]) (m.len sv ov iv)) ?_)
  refine C1.out.mono ?_
  rintro e w1 ⟨t1, rfl, ht1, l1⟩
  have HT1 := hide ht1
  have M1 := hide l1
  have L1 := hide (HL0.out.trans l1)
  have X1 := hide (HX.out w1 l1)
  clear ht1 l1 C1
  cases t1 with
  | false =>
    have E := hide (lives_any (HT.out _ L1.out))
    go_wp2_with (fail)
    refine E.out.mono ?_
    rintro e wc ⟨rfl, lc⟩
    have Lc := hide (L1.out.trans lc)
    clear lc E
    go_wp2
    go_ret
    exact ⟨rfl, Lc.out⟩
  | true =>
    by_cases h3 : n ≤ 3000
    · have H3 := hide h3
      have hops : m.ops.length ≤ 100000 := by have := (HT1.out (by trivial)).1.2.1; omega
      have HOPS := hide hops
      have C2 := hide (bytes_any hops (HM.out _ L1.out) (HT.out _ L1.out))
      clear hops
      go_wp2_with (refine wpList_val rfl (by rfl) (exec_load_box 35 _ (by rfl) w.heap.size 0 (by rfl) 35 _ X1.out 34 _ Tryd.underlying35 (by rfl) (by kernel_rfl) (m.cells sv ov iv) (by simp [List.take_of_length_le (Nat.le_of_eq (m.len sv ov iv))]) (m.len sv ov iv)) ?_)
      refine C2.out.mono ?_
      rintro e w2 ⟨A2, n2, c2, rfl, _, hh2, hc2, l2⟩
      have M2 := hide (M1.out.trans (show Later w1 w2 from l2))
      have L2 := hide (HL0.out.trans M2.out)
      have hn2 : n2 ≤ 90000 := by have h1 := hh2.1; have h2 := bytesM_len m; omega
      have C3 := hide (readmsg_any hh2 hn2 hc2 (HT.out _ L2.out))
      clear hh2 l2 C2 hn2
      go_wp2_with (fail)
      refine C3.out.mono ?_
      rintro e w3 ⟨x, er, sx, ox, ix, hx, her, rfl, hlx, l3⟩
      have M3 := hide (M2.out.trans l3)
      have L3 := hide (HL0.out.trans M3.out)
      have HXE := hide hx
      have HER := hide her
      have HLX := hide hlx
      have HCX := hide hlx.cell
      have R5 : Hid (∀ w', w'.heap[w3.heap.size]? = some (.cells (putAt zMsg 0 (x.cells sx ox ix).toArray.toList) 35 (0, 0)) → (w3.alloc (.cells zMsg 35 (0, 0))).grownBy w' (some w3.heap.size) →
          w'.heap[w3.heap.size]? = some (.cells (x.cells sx ox ix).toArray 35 (0, 0)) ∧ w'.heap[w.heap.size]? = some (.cells (m.cells sv ov iv).toArray 35 (0, 0)) ∧ Hid (Later w3 w')) := fun w' hb hg => by
        have hl3 : Later w3 w' := (show Below w3.heap.size w3 (w3.alloc (.cells zMsg 35 (0, 0))) from Later.alloc _ _).grown hg (Below.size (Later.alloc _ _)) fun k hk => by have := Option.some.inj hk; omega
        exact ⟨by rw [hb, zMsg_put _ (x.len sx ox ix)], HX.out _ (M3.out.trans hl3), hl3⟩
      clear hx her hlx l3 C3
      go_wp2_with (first | (refine wpList_val rfl (by rfl) (exec_load_box 35 _ (by rfl) w.heap.size 0 (by rfl) 35 _ hm5 34 _ Tryd.underlying35 (by rfl) (by kernel_rfl) (m.cells sv ov iv) (by simp [List.take_of_length_le (Nat.le_of_eq (m.len sv ov iv))]) (m.len sv ov iv)) ?_) | (refine wpList_store_more (by rfl) 35 _ _ (by rfl) w3.heap.size 0 (x.cells sx ox ix).toArray (by rfl) (by rfl) 35 zMsg (heap_alloc_new w3 _) (by kernel_rfl) (by exact Nat.le_of_eq (x.len sx ox ix)) (by exact x.one HCX.out.1 HCX.out.2.1 HCX.out.2.2) _ R5.out ?_; rintro w5 ⟨hx5, hm5, l5⟩))
      have hg5 : Calls Tryd.prog 10 #[.agg (m.cells sv ov iv).toArray] w5 fun e w' => e = .returned (.bool (decide (bytesM m ≠ []))) ∧ Later w5 w' := good_any9 HOPS.out (HM.out _ (L3.out.trans l5.out)) (HT.out _ (L3.out.trans l5.out))
      have XX5 := hide hx5
      have M5 := hide (M3.out.trans l5.out)
      have L5 := hide (HL0.out.trans M5.out)
      have N5 := hide l5.out
      obtain ⟨g, hgg⟩ : ∃ g, decide (bytesM m ≠ []) = g := ⟨_, rfl⟩
      rw [hgg] at hg5
      have HG := hide hgg
      refine hg5.mono ?_
      rintro e w6 ⟨rfl, l6⟩
      have M6 := hide (M5.out.trans l6)
      have L6 := hide (HL0.out.trans M6.out)
      have N6 := hide (N5.out.trans l6)
      have XX6 := hide ((Below.block l6 _ (lt_of_block hx5)).trans hx5)
      have XM6 := hide (HX.out w6 M6.out)
      have R8 := hide (readmsg_any (HB.out _ L6.out) (by omega : n ≤ 90000) HC.out (HT.out _ L6.out))
      clear l6 hg5 hgg hx5 hm5 l5
      cases g with
      | false =>
        have hb0 : bytesM m = [] := by have h := HG.out; exact Decidable.of_not_not (of_decide_eq_false h)
        have he : er = 3 := by have h := HER.out; rw [hb0, readM_nil] at h; exact h
        obtain rfl := he
        have HB0 := hide hb0
        clear hb0
        go_wp2_with (fail)
        refine R8.out.mono ?_
        rintro e w8 ⟨y, dr, sy, oy, iy, hy, hdr, rfl, hly, l8⟩
        have L8 := hide (L6.out.trans l8)
        have HYE := hide hy
        have HDR := hide hdr
        have HLY := hide hly
        have HCY := hide hly.cell
        have R9 : Hid (∀ w', w'.heap[w8.heap.size]? = some (.cells (putAt zMsg 0 (y.cells sy oy iy).toArray.toList) 35 (0, 0)) → (w8.alloc (.cells zMsg 35 (0, 0))).grownBy w' (some w8.heap.size) →
            w'.heap[w8.heap.size]? = some (.cells (y.cells sy oy iy).toArray 35 (0, 0)) ∧ Hid (Later w8 w')) := fun w' hb hg => by
          have hl8 : Later w8 w' := (show Below w8.heap.size w8 (w8.alloc (.cells zMsg 35 (0, 0))) from Later.alloc _ _).grown hg (Below.size (Later.alloc _ _)) fun k hk => by have := Option.some.inj hk; omega
          exact ⟨by rw [hb, zMsg_put _ (y.len sy oy iy)], hl8⟩
        clear hy hdr hly l8 R8
        go_wp2_with (refine wpList_store_more (by rfl) 35 _ _ (by rfl) w8.heap.size 0 (y.cells sy oy iy).toArray (by rfl) (by rfl) 35 zMsg (heap_alloc_new w8 _) (by kernel_rfl) (by exact Nat.le_of_eq (y.len sy oy iy)) (by exact y.one HCY.out.1 HCY.out.2.1 HCY.out.2.2) _ R9.out ?_; rintro w9 ⟨hx9, l9⟩)
        have L9 := hide (L8.out.trans l9.out)
        have D0 : Hid (Later w w9.drew) := L9.out.trans (Later.drew w9)
        have HY9 : Hid (∀ w', Later w9.drew w' → w'.heap[w8.heap.size]? = some (.cells (y.cells sy oy iy).toArray 35 (0, 0))) := fun w' h => (Below.block ((Later.drew w9).trans h) _ (lt_of_block hx9)).trans hx9
        have HLY9 : Hid (∀ w', Later w9.drew w' → Lists (w6.heap.size ≤ ·) w' y sy oy iy) := fun w' h => HLY.out.kept (Kept.of_below (l9.out.trans ((Later.drew w9).trans h)) _)
        clear hx9 l9
        by_cases hdz : dr = 0
        · subst hdz
          have hok := readM_ok (l := l) HDR.out.symm
          rw [← HYE.out] at hok
          have hyo : y.ops.length ≤ 100000 := by have h1 := hok.2.2; have h2 := HLEN.out; have h4 := H3.out; omega
          have HYO := hide hyo
          have HYB : Hid (bytesM y = l) := hok.1
          have HNE : Hid (decide (bytesM y ≠ []) = true) := decide_eq_true (by rw [hok.1]; exact hok.2.1)
          obtain ⟨SL, hSL⟩ : ∃ s, str l = s := ⟨_, rfl⟩
          have HSL := hide hSL
          have ess : (SL.toList == SL.toList) = true := by simp
          have hnz : (((0 : Nat) : Int) != 0) = false := rfl
          clear hok hyo hSL
          go_wp2
          refine wp_region_L (by kernel_rfl) ?_
          refine wpAnyL_take (i := 0) (d := some 44) (v := ?vabw60) rfl rfl (by kernel_rfl) (by kernel_rfl) (by kernel_rfl) (fun _ _ _ h => h) (by rfl) ?yabw60 ?_
          case yabw60 => (intro w' hw'; go_simp; try (with_reducible rfl))
          simp only [Act.put]; try simp only [List.setIfInBounds_toArray]; try simp only [List.set_cons_zero, List.set_cons_succ]
          refine wpAnyL_take (i := 1) (d := some 45) (v := ?vabw61) rfl rfl (by kernel_rfl) (by kernel_rfl) (by kernel_rfl) (fun _ _ _ h => h) (by rfl) ?yabw61 ?_
          case yabw61 => (intro w' hw'; go_simp; try (with_reducible rfl))
          simp only [Act.put]; try simp only [List.setIfInBounds_toArray]; try simp only [List.set_cons_zero, List.set_cons_succ]
          refine wpAnyL_take (i := 2) (d := some 46) (v := ?vabw62) rfl rfl (by kernel_rfl) (by kernel_rfl) (by kernel_rfl) (fun _ _ _ h => h) (by rfl) ?yabw62 ?_
          case yabw62 => (intro w' hw'; go_simp; try (with_reducible rfl))
          simp only [Act.put]; try simp only [List.setIfInBounds_toArray]; try simp only [List.set_cons_zero, List.set_cons_succ]
          refine wpAnyL_take (i := 3) (d := some 47) (v := .agg (y.cells sy oy iy).toArray) rfl rfl (by kernel_rfl) (by kernel_rfl) (by kernel_rfl) (fun _ _ _ h => h) (by rfl) ?yabw63 ?_
          case yabw63 => (intro w' hw'; exact exec_load_box 35 _ (by rfl) w8.heap.size 0 (by rfl) 35 _ (HY9.out w' (hw')) 34 _ Tryd.underlying35 (by rfl) (by kernel_rfl) (y.cells sy oy iy) (by simp [List.take_of_length_le (Nat.le_of_eq (y.len sy oy iy))]) (y.len sy oy iy))
          simp only [Act.put]; try simp only [List.setIfInBounds_toArray]; try simp only [List.set_cons_zero, List.set_cons_succ]
          refine wpAnyL_only (i := 4) rfl (by kernel_rfl) (by rfl) fun K hK => ?_
          go_simp
          have S := good_any9 (F := (w6.heap.size ≤ ·)) HYO.out (HLY9.out _ (Later.refl _)) (HT.out _ D0.out)
          rw [HNE.out] at S
          refine S.mono ?_
          rintro e v1 ⟨rfl, lb⟩
          have G1 := hide (show Later w9.drew v1 from lb)
          refine hK.out _ _ lb ?_
          clear lb
          clear hK K
          try (simp only [Act.put]; try simp only [List.setIfInBounds_toArray]; try simp only [List.set_cons_zero, List.set_cons_succ])
          refine wpAnyL_take (i := 5) (d := some 49) (v := ?vabw65) rfl rfl (by kernel_rfl) (by kernel_rfl) (by kernel_rfl) (fun _ _ _ h => h) (by rfl) ?yabw65 ?_
          case yabw65 => (intro w' hw'; go_simp; try (with_reducible rfl))
          simp only [Act.put]; try simp only [List.setIfInBounds_toArray]; try simp only [List.set_cons_zero, List.set_cons_succ]
          refine wpAnyL_take (i := 6) (d := some 50) (v := .agg (y.cells sy oy iy).toArray) rfl rfl (by kernel_rfl) (by kernel_rfl) (by kernel_rfl) (fun _ _ _ h => h) (by rfl) ?yabw66 ?_
          case yabw66 => (intro w' hw'; exact exec_load_box 35 _ (by rfl) w8.heap.size 0 (by rfl) 35 _ (HY9.out w' (G1.out.trans hw')) 34 _ Tryd.underlying35 (by rfl) (by kernel_rfl) (y.cells sy oy iy) (by simp [List.take_of_length_le (Nat.le_of_eq (y.len sy oy iy))]) (y.len sy oy iy))
          simp only [Act.put]; try simp only [List.setIfInBounds_toArray]; try simp only [List.set_cons_zero, List.set_cons_succ]
          refine wpAnyL_take (i := 9) (d := some 53) (v := ?vabw69) rfl rfl (by kernel_rfl) (by kernel_rfl) (by kernel_rfl) (fun _ _ _ h => h) (by rfl) ?yabw69 ?_
          case yabw69 => (intro w' hw'; go_simp; try (with_reducible rfl))
          simp only [Act.put]; try simp only [List.setIfInBounds_toArray]; try simp only [List.set_cons_zero, List.set_cons_succ]
          refine wpAnyL_take (i := 10) (d := some 54) (v := .string SL) rfl rfl (by kernel_rfl) (by kernel_rfl) (by kernel_rfl) (fun _ _ _ h => h) (by rfl) ?yabw610 ?_
          case yabw610 => (intro w' hw'; have d1 := run_str w' w'.heap.size A n c l (HB.out w' (D0.out.trans (G1.out.trans hw'))); rw [HSL.out] at d1; go_simp; try (with_reducible rfl))
          simp only [Act.put]; try simp only [List.setIfInBounds_toArray]; try simp only [List.set_cons_zero, List.set_cons_succ]
          refine wpAnyL_only (i := 7) rfl (by kernel_rfl) (by rfl) fun K hK => ?_
          go_simp
          refine (bytes_any HYO.out (HLY9.out _ G1.out) (HT.out _ (D0.out.trans G1.out))).mono ?_
          rintro e v2 ⟨B0, n0, c0, rfl, _, hh, _, lb⟩
          have G2 := hide (G1.out.trans (show Later v1 v2 from lb))
          have HH0 : Hid (∀ w', Later v2 w' → Holds w' w'.heap.size B0 n0 (bytesM y)) := fun w' h => hh.later h
          refine hK.out _ _ (show Later v1 v2 from lb) ?_
          clear hh lb
          clear hK K
          try (simp only [Act.put]; try simp only [List.setIfInBounds_toArray]; try simp only [List.set_cons_zero, List.set_cons_succ])
          refine wpAnyL_take (i := 8) (d := some 52) (v := .string SL) rfl rfl (by kernel_rfl) (by kernel_rfl) (by kernel_rfl) (fun _ _ _ h => h) (by rfl) ?yabw68 ?_
          case yabw68 => (intro w' hw'; have d1 := run_str w' w'.heap.size B0 n0 c0 (bytesM y) (HH0.out w' hw'); rw [HYB.out, HSL.out] at d1; go_simp; try (with_reducible rfl))
          simp only [Act.put]; try simp only [List.setIfInBounds_toArray]; try simp only [List.set_cons_zero, List.set_cons_succ]
          refine wpAnyL_take (i := 11) (d := some 55) (v := .bool true) rfl rfl (by kernel_rfl) (by kernel_rfl) (by kernel_rfl) (fun _ _ _ h => h) (by rfl) ?yabw611 ?_
          case yabw611 => (intro w' hw'; go_simp; try (with_reducible rfl))
          simp only [Act.put]; try simp only [List.setIfInBounds_toArray]; try simp only [List.set_cons_zero, List.set_cons_succ]
          refine wpAnyL_take (i := 12) (d := some 56) (v := ?vabw612) rfl rfl (by kernel_rfl) (by kernel_rfl) (by kernel_rfl) (fun _ _ _ h => h) (by rfl) ?yabw612 ?_
          case yabw612 => (intro w' hw'; go_simp; try (with_reducible rfl))
          simp only [Act.put]; try simp only [List.setIfInBounds_toArray]; try simp only [List.set_cons_zero, List.set_cons_succ]
          refine wpAnyL_take (i := 13) (d := some 57) (v := ?vabw613) rfl rfl (by kernel_rfl) (by kernel_rfl) (by kernel_rfl) (fun _ _ _ h => h) (by rfl) ?yabw613 ?_
          case yabw613 => (intro w' hw'; go_simp; try (with_reducible rfl))
          simp only [Act.put]; try simp only [List.setIfInBounds_toArray]; try simp only [List.set_cons_zero, List.set_cons_succ]
          refine wpAnyL_take (i := 14) (d := some 58) (v := ?vabw614) rfl rfl (by kernel_rfl) (by kernel_rfl) (by kernel_rfl) (fun _ _ _ h => h) (by rfl) ?yabw614 ?_
          case yabw614 => (intro w' hw'; go_simp; try (with_reducible rfl))
          simp only [Act.put]; try simp only [List.setIfInBounds_toArray]; try simp only [List.set_cons_zero, List.set_cons_succ]
          refine wpAnyL_only (i := 15) rfl (by kernel_rfl) (by rfl) fun K hK => ?_
          go_simp
          refine (lives_any (HT.out _ (D0.out.trans G2.out))).mono ?_
          rintro e v3 ⟨rfl, lb⟩
          have LF := hide ((D0.out.trans G2.out).trans lb)
          refine hK.out _ _ lb ?_
          clear lb
          clear hK K
          try (simp only [Act.put]; try simp only [List.setIfInBounds_toArray]; try simp only [List.set_cons_zero, List.set_cons_succ])
          refine wpAnyL_take (i := 16) (d := some 60) (v := ?vabw616) rfl rfl (by kernel_rfl) (by kernel_rfl) (by kernel_rfl) (fun _ _ _ h => h) (by rfl) ?yabw616 ?_
          case yabw616 => (intro w' hw'; go_simp; try (with_reducible rfl))
          simp only [Act.put]; try simp only [List.setIfInBounds_toArray]; try simp only [List.set_cons_zero, List.set_cons_succ]
          refine wpAnyL_take (i := 17) (d := some 4) (v := ?vabw617) rfl rfl (by kernel_rfl) (by kernel_rfl) (by kernel_rfl) (fun _ _ _ h => h) (by rfl) ?yabw617 ?_
          case yabw617 => (intro w' hw'; go_simp; try (with_reducible rfl))
          simp only [Act.put]; try simp only [List.setIfInBounds_toArray]; try simp only [List.set_cons_zero, List.set_cons_succ]
          refine wpAnyL_done (by kernel_rfl) ?_ _
          go_wp2
          go_ret
          exact ⟨rfl, LF.out⟩
        · have hnz : ((dr : Int) != 0) = true := by simp; omega
          clear hdz
          go_wp2
          refine wp_region_L (by kernel_rfl) ?_
          refine wpAnyL_take (i := 0) (d := some 44) (v := ?vaaw60) rfl rfl (by kernel_rfl) (by kernel_rfl) (by kernel_rfl) (fun _ _ _ h => h) (by rfl) ?yaaw60 ?_
          case yaaw60 => (intro w' hw'; go_simp; try (with_reducible rfl))
          simp only [Act.put]; try simp only [List.setIfInBounds_toArray]; try simp only [List.set_cons_zero, List.set_cons_succ]
          refine wpAnyL_take (i := 1) (d := some 45) (v := ?vaaw61) rfl rfl (by kernel_rfl) (by kernel_rfl) (by kernel_rfl) (fun _ _ _ h => h) (by rfl) ?yaaw61 ?_
          case yaaw61 => (intro w' hw'; go_simp; try (with_reducible rfl))
          simp only [Act.put]; try simp only [List.setIfInBounds_toArray]; try simp only [List.set_cons_zero, List.set_cons_succ]
          refine wpAnyL_take (i := 2) (d := some 46) (v := ?vaaw62) rfl rfl (by kernel_rfl) (by kernel_rfl) (by kernel_rfl) (fun _ _ _ h => h) (by rfl) ?yaaw62 ?_
          case yaaw62 => (intro w' hw'; go_simp; try (with_reducible rfl))
          simp only [Act.put]; try simp only [List.setIfInBounds_toArray]; try simp only [List.set_cons_zero, List.set_cons_succ]
          refine wpAnyL_pass (i := 3) (d := some 47) rfl rfl (by kernel_rfl) (by kernel_rfl) (by kernel_rfl) (fun _ _ _ h => h) (by rfl) ?_
          try (simp only [Act.put]; try simp only [List.setIfInBounds_toArray]; try simp only [List.set_cons_zero, List.set_cons_succ])
          refine wpAnyL_pass (i := 4) (d := some 48) rfl rfl (by kernel_rfl) (by kernel_rfl) (by kernel_rfl) (fun _ _ _ h => h) (by rfl) ?_
          try (simp only [Act.put]; try simp only [List.setIfInBounds_toArray]; try simp only [List.set_cons_zero, List.set_cons_succ])
          refine wpAnyL_pass (i := 5) (d := some 49) rfl rfl (by kernel_rfl) (by kernel_rfl) (by kernel_rfl) (fun _ _ _ h => h) (by rfl) ?_
          try (simp only [Act.put]; try simp only [List.setIfInBounds_toArray]; try simp only [List.set_cons_zero, List.set_cons_succ])
          refine wpAnyL_pass (i := 6) (d := some 50) rfl rfl (by kernel_rfl) (by kernel_rfl) (by kernel_rfl) (fun _ _ _ h => h) (by rfl) ?_
          try (simp only [Act.put]; try simp only [List.setIfInBounds_toArray]; try simp only [List.set_cons_zero, List.set_cons_succ])
          refine wpAnyL_pass (i := 9) (d := some 53) rfl rfl (by kernel_rfl) (by kernel_rfl) (by kernel_rfl) (fun _ _ _ h => h) (by rfl) ?_
          try (simp only [Act.put]; try simp only [List.setIfInBounds_toArray]; try simp only [List.set_cons_zero, List.set_cons_succ])
          refine wpAnyL_pass (i := 10) (d := some 54) rfl rfl (by kernel_rfl) (by kernel_rfl) (by kernel_rfl) (fun _ _ _ h => h) (by rfl) ?_
          try (simp only [Act.put]; try simp only [List.setIfInBounds_toArray]; try simp only [List.set_cons_zero, List.set_cons_succ])
          refine wpAnyL_pass (i := 7) (d := some 51) rfl rfl (by kernel_rfl) (by kernel_rfl) (by kernel_rfl) (fun _ _ _ h => h) (by rfl) ?_
          try (simp only [Act.put]; try simp only [List.setIfInBounds_toArray]; try simp only [List.set_cons_zero, List.set_cons_succ])
          refine wpAnyL_pass (i := 8) (d := some 52) rfl rfl (by kernel_rfl) (by kernel_rfl) (by kernel_rfl) (fun _ _ _ h => h) (by rfl) ?_
          try (simp only [Act.put]; try simp only [List.setIfInBounds_toArray]; try simp only [List.set_cons_zero, List.set_cons_succ])
          refine wpAnyL_pass (i := 11) (d := some 55) rfl rfl (by kernel_rfl) (by kernel_rfl) (by kernel_rfl) (fun _ _ _ h => h) (by rfl) ?_
          try (simp only [Act.put]; try simp only [List.setIfInBounds_toArray]; try simp only [List.set_cons_zero, List.set_cons_succ])
          refine wpAnyL_pass (i := 12) (d := some 56) rfl rfl (by kernel_rfl) (by kernel_rfl) (by kernel_rfl) (fun _ _ _ h => h) (by rfl) ?_
          try (simp only [Act.put]; try simp only [List.setIfInBounds_toArray]; try simp only [List.set_cons_zero, List.set_cons_succ])
          refine wpAnyL_take (i := 13) (d := some 57) (v := ?vaaw613) rfl rfl (by kernel_rfl) (by kernel_rfl) (by kernel_rfl) (fun _ _ _ h => h) (by rfl) ?yaaw613 ?_
          case yaaw613 => (intro w' hw'; go_simp; try (with_reducible rfl))
          simp only [Act.put]; try simp only [List.setIfInBounds_toArray]; try simp only [List.set_cons_zero, List.set_cons_succ]
          refine wpAnyL_take (i := 14) (d := some 58) (v := ?vaaw614) rfl rfl (by kernel_rfl) (by kernel_rfl) (by kernel_rfl) (fun _ _ _ h => h) (by rfl) ?yaaw614 ?_
          case yaaw614 => (intro w' hw'; go_simp; try (with_reducible rfl))
          simp only [Act.put]; try simp only [List.setIfInBounds_toArray]; try simp only [List.set_cons_zero, List.set_cons_succ]
          refine wpAnyL_only (i := 15) rfl (by kernel_rfl) (by rfl) fun K hK => ?_
          go_simp
          refine (lives_any (HT.out _ D0.out)).mono ?_
          rintro e v3 ⟨rfl, lb⟩
          have LF := hide (D0.out.trans lb)
          refine hK.out _ _ lb ?_
          clear lb
          clear hK K
          try (simp only [Act.put]; try simp only [List.setIfInBounds_toArray]; try simp only [List.set_cons_zero, List.set_cons_succ])
          refine wpAnyL_take (i := 16) (d := some 60) (v := ?vaaw616) rfl rfl (by kernel_rfl) (by kernel_rfl) (by kernel_rfl) (fun _ _ _ h => h) (by rfl) ?yaaw616 ?_
          case yaaw616 => (intro w' hw'; go_simp; try (with_reducible rfl))
          simp only [Act.put]; try simp only [List.setIfInBounds_toArray]; try simp only [List.set_cons_zero, List.set_cons_succ]
          refine wpAnyL_take (i := 17) (d := some 4) (v := ?vaaw617) rfl rfl (by kernel_rfl) (by kernel_rfl) (by kernel_rfl) (fun _ _ _ h => h) (by rfl) ?yaaw617 ?_
          case yaaw617 => (intro w' hw'; go_simp; try (with_reducible rfl))
          simp only [Act.put]; try simp only [List.setIfInBounds_toArray]; try simp only [List.set_cons_zero, List.set_cons_succ]
          refine wpAnyL_done (by kernel_rfl) ?_ _
          go_wp2
          go_ret
          exact ⟨rfl, LF.out⟩
      | true =>
        have hb0 : bytesM m ≠ [] := of_decide_eq_true HG.out
        have hrr := readM_B hb0 HOPS.out
        have he : er = 0 := by have h := HER.out; rw [hrr] at h; exact h
        have hxm : x = m := by have h := HXE.out; rw [hrr] at h; exact h
        obtain rfl := he
        have S := hide (refsame_any _ _ sx ox ix sv ov iv x m w6 (HLX.out.kept (Kept.of_below N6.out _)) (HM.out _ L6.out))
        have exm : decide (x = m) = true := decide_eq_true hxm
        rw [exm] at S
        clear hb0 hrr hxm exm R8
        go_wp2_with (first | (refine wpList_val rfl (by rfl) (exec_load_box 35 _ (by rfl) w3.heap.size 0 (by rfl) 35 _ XX6.out 34 _ Tryd.underlying35 (by rfl) (by kernel_rfl) (x.cells sx ox ix) (by simp [List.take_of_length_le (Nat.le_of_eq (x.len sx ox ix))]) (x.len sx ox ix)) ?_) | (refine wpList_val rfl (by rfl) (exec_load_box 35 _ (by rfl) w.heap.size 0 (by rfl) 35 _ XM6.out 34 _ Tryd.underlying35 (by rfl) (by kernel_rfl) (m.cells sv ov iv) (by simp [List.take_of_length_le (Nat.le_of_eq (m.len sv ov iv))]) (m.len sv ov iv)) ?_))
        refine S.out.mono ?_
        rintro e w7 ⟨rfl, l7⟩
        have L7 := hide (L6.out.trans (show Later w6 w7 from l7))
        have R8 := hide (readmsg_any (HB.out _ L7.out) (by have := H3.out; omega : n ≤ 90000) HC.out (HT.out _ L7.out))
        clear l7 S
        go_wp2_with (fail)
        refine R8.out.mono ?_
        rintro e w8 ⟨y, dr, sy, oy, iy, hy, hdr, rfl, hly, l8⟩
        have L8 := hide (L7.out.trans l8)
        have HYE := hide hy
        have HDR := hide hdr
        have HLY := hide hly
        have HCY := hide hly.cell
        have R9 : Hid (∀ w', w'.heap[w8.heap.size]? = some (.cells (putAt zMsg 0 (y.cells sy oy iy).toArray.toList) 35 (0, 0)) → (w8.alloc (.cells zMsg 35 (0, 0))).grownBy w' (some w8.heap.size) →
            w'.heap[w8.heap.size]? = some (.cells (y.cells sy oy iy).toArray 35 (0, 0)) ∧ Hid (Later w8 w')) := fun w' hb hg => by
          have hl8 : Later w8 w' := (show Below w8.heap.size w8 (w8.alloc (.cells zMsg 35 (0, 0))) from Later.alloc _ _).grown hg (Below.size (Later.alloc _ _)) fun k hk => by have := Option.some.inj hk; omega
          exact ⟨by rw [hb, zMsg_put _ (y.len sy oy iy)], hl8⟩
        clear hy hdr hly l8 R8
        go_wp2_with (refine wpList_store_more (by rfl) 35 _ _ (by rfl) w8.heap.size 0 (y.cells sy oy iy).toArray (by rfl) (by rfl) 35 zMsg (heap_alloc_new w8 _) (by kernel_rfl) (by exact Nat.le_of_eq (y.len sy oy iy)) (by exact y.one HCY.out.1 HCY.out.2.1 HCY.out.2.2) _ R9.out ?_; rintro w9 ⟨hx9, l9⟩)
        have L9 := hide (L8.out.trans l9.out)
        have D0 : Hid (Later w w9.drew) := L9.out.trans (Later.drew w9)
        have HY9 : Hid (∀ w', Later w9.drew w' → w'.heap[w8.heap.size]? = some (.cells (y.cells sy oy iy).toArray 35 (0, 0))) := fun w' h => (Below.block ((Later.drew w9).trans h) _ (lt_of_block hx9)).trans hx9
        have HLY9 : Hid (∀ w', Later w9.drew w' → Lists (w7.heap.size ≤ ·) w' y sy oy iy) := fun w' h => HLY.out.kept (Kept.of_below (l9.out.trans ((Later.drew w9).trans h)) _)
        clear hx9 l9
        by_cases hdz : dr = 0
        · subst hdz
          have hok := readM_ok (l := l) HDR.out.symm
          rw [← HYE.out] at hok
          have hyo : y.ops.length ≤ 100000 := by have h1 := hok.2.2; have h2 := HLEN.out; have h4 := H3.out; omega
          have HYO := hide hyo
          have HYB : Hid (bytesM y = l) := hok.1
          have HNE : Hid (decide (bytesM y ≠ []) = true) := decide_eq_true (by rw [hok.1]; exact hok.2.1)
          obtain ⟨SL, hSL⟩ : ∃ s, str l = s := ⟨_, rfl⟩
          have HSL := hide hSL
          have ess : (SL.toList == SL.toList) = true := by simp
          have hnz : (((0 : Nat) : Int) != 0) = false := rfl
          clear hok hyo hSL
          go_wp2
          refine wp_region_L (by kernel_rfl) ?_
          refine wpAnyL_take (i := 0) (d := some 44) (v := ?vabw70) rfl rfl (by kernel_rfl) (by kernel_rfl) (by kernel_rfl) (fun _ _ _ h => h) (by rfl) ?yabw70 ?_
          case yabw70 => (intro w' hw'; go_simp; try (with_reducible rfl))
          simp only [Act.put]; try simp only [List.setIfInBounds_toArray]; try simp only [List.set_cons_zero, List.set_cons_succ]
          refine wpAnyL_take (i := 1) (d := some 45) (v := ?vabw71) rfl rfl (by kernel_rfl) (by kernel_rfl) (by kernel_rfl) (fun _ _ _ h => h) (by rfl) ?yabw71 ?_
          case yabw71 => (intro w' hw'; go_simp; try (with_reducible rfl))
          simp only [Act.put]; try simp only [List.setIfInBounds_toArray]; try simp only [List.set_cons_zero, List.set_cons_succ]
          refine wpAnyL_take (i := 2) (d := some 46) (v := ?vabw72) rfl rfl (by kernel_rfl) (by kernel_rfl) (by kernel_rfl) (fun _ _ _ h => h) (by rfl) ?yabw72 ?_
          case yabw72 => (intro w' hw'; go_simp; try (with_reducible rfl))
          simp only [Act.put]; try simp only [List.setIfInBounds_toArray]; try simp only [List.set_cons_zero, List.set_cons_succ]
          refine wpAnyL_take (i := 3) (d := some 47) (v := .agg (y.cells sy oy iy).toArray) rfl rfl (by kernel_rfl) (by kernel_rfl) (by kernel_rfl) (fun _ _ _ h => h) (by rfl) ?yabw73 ?_
          case yabw73 => (intro w' hw'; exact exec_load_box 35 _ (by rfl) w8.heap.size 0 (by rfl) 35 _ (HY9.out w' (hw')) 34 _ Tryd.underlying35 (by rfl) (by kernel_rfl) (y.cells sy oy iy) (by simp [List.take_of_length_le (Nat.le_of_eq (y.len sy oy iy))]) (y.len sy oy iy))
          simp only [Act.put]; try simp only [List.setIfInBounds_toArray]; try simp only [List.set_cons_zero, List.set_cons_succ]
          refine wpAnyL_only (i := 4) rfl (by kernel_rfl) (by rfl) fun K hK => ?_
          go_simp
          have S := good_any9 (F := (w7.heap.size ≤ ·)) HYO.out (HLY9.out _ (Later.refl _)) (HT.out _ D0.out)
          rw [HNE.out] at S
          refine S.mono ?_
          rintro e v1 ⟨rfl, lb⟩
          have G1 := hide (show Later w9.drew v1 from lb)
          refine hK.out _ _ lb ?_
          clear lb
          clear hK K
          try (simp only [Act.put]; try simp only [List.setIfInBounds_toArray]; try simp only [List.set_cons_zero, List.set_cons_succ])
          refine wpAnyL_take (i := 5) (d := some 49) (v := ?vabw75) rfl rfl (by kernel_rfl) (by kernel_rfl) (by kernel_rfl) (fun _ _ _ h => h) (by rfl) ?yabw75 ?_
          case yabw75 => (intro w' hw'; go_simp; try (with_reducible rfl))
          simp only [Act.put]; try simp only [List.setIfInBounds_toArray]; try simp only [List.set_cons_zero, List.set_cons_succ]
          refine wpAnyL_take (i := 6) (d := some 50) (v := .agg (y.cells sy oy iy).toArray) rfl rfl (by kernel_rfl) (by kernel_rfl) (by kernel_rfl) (fun _ _ _ h => h) (by rfl) ?yabw76 ?_
          case yabw76 => (intro w' hw'; exact exec_load_box 35 _ (by rfl) w8.heap.size 0 (by rfl) 35 _ (HY9.out w' (G1.out.trans hw')) 34 _ Tryd.underlying35 (by rfl) (by kernel_rfl) (y.cells sy oy iy) (by simp [List.take_of_length_le (Nat.le_of_eq (y.len sy oy iy))]) (y.len sy oy iy))
          simp only [Act.put]; try simp only [List.setIfInBounds_toArray]; try simp only [List.set_cons_zero, List.set_cons_succ]
          refine wpAnyL_take (i := 9) (d := some 53) (v := ?vabw79) rfl rfl (by kernel_rfl) (by kernel_rfl) (by kernel_rfl) (fun _ _ _ h => h) (by rfl) ?yabw79 ?_
          case yabw79 => (intro w' hw'; go_simp; try (with_reducible rfl))
          simp only [Act.put]; try simp only [List.setIfInBounds_toArray]; try simp only [List.set_cons_zero, List.set_cons_succ]
          refine wpAnyL_take (i := 10) (d := some 54) (v := .string SL) rfl rfl (by kernel_rfl) (by kernel_rfl) (by kernel_rfl) (fun _ _ _ h => h) (by rfl) ?yabw710 ?_
          case yabw710 => (intro w' hw'; have d1 := run_str w' w'.heap.size A n c l (HB.out w' (D0.out.trans (G1.out.trans hw'))); rw [HSL.out] at d1; go_simp; try (with_reducible rfl))
          simp only [Act.put]; try simp only [List.setIfInBounds_toArray]; try simp only [List.set_cons_zero, List.set_cons_succ]
          refine wpAnyL_only (i := 7) rfl (by kernel_rfl) (by rfl) fun K hK => ?_
          go_simp
          refine (bytes_any HYO.out (HLY9.out _ G1.out) (HT.out _ (D0.out.trans G1.out))).mono ?_
          rintro e v2 ⟨B0, n0, c0, rfl, _, hh, _, lb⟩
          have G2 := hide (G1.out.trans (show Later v1 v2 from lb))
          have HH0 : Hid (∀ w', Later v2 w' → Holds w' w'.heap.size B0 n0 (bytesM y)) := fun w' h => hh.later h
          refine hK.out _ _ (show Later v1 v2 from lb) ?_
          clear hh lb
          clear hK K
          try (simp only [Act.put]; try simp only [List.setIfInBounds_toArray]; try simp only [List.set_cons_zero, List.set_cons_succ])
          refine wpAnyL_take (i := 8) (d := some 52) (v := .string SL) rfl rfl (by kernel_rfl) (by kernel_rfl) (by kernel_rfl) (fun _ _ _ h => h) (by rfl) ?yabw78 ?_
          case yabw78 => (intro w' hw'; have d1 := run_str w' w'.heap.size B0 n0 c0 (bytesM y) (HH0.out w' hw'); rw [HYB.out, HSL.out] at d1; go_simp; try (with_reducible rfl))
          simp only [Act.put]; try simp only [List.setIfInBounds_toArray]; try simp only [List.set_cons_zero, List.set_cons_succ]
          refine wpAnyL_take (i := 11) (d := some 55) (v := .bool true) rfl rfl (by kernel_rfl) (by kernel_rfl) (by kernel_rfl) (fun _ _ _ h => h) (by rfl) ?yabw711 ?_
          case yabw711 => (intro w' hw'; go_simp; try (with_reducible rfl))
          simp only [Act.put]; try simp only [List.setIfInBounds_toArray]; try simp only [List.set_cons_zero, List.set_cons_succ]
          refine wpAnyL_take (i := 12) (d := some 56) (v := ?vabw712) rfl rfl (by kernel_rfl) (by kernel_rfl) (by kernel_rfl) (fun _ _ _ h => h) (by rfl) ?yabw712 ?_
          case yabw712 => (intro w' hw'; go_simp; try (with_reducible rfl))
          simp only [Act.put]; try simp only [List.setIfInBounds_toArray]; try simp only [List.set_cons_zero, List.set_cons_succ]
          refine wpAnyL_take (i := 13) (d := some 57) (v := ?vabw713) rfl rfl (by kernel_rfl) (by kernel_rfl) (by kernel_rfl) (fun _ _ _ h => h) (by rfl) ?yabw713 ?_
          case yabw713 => (intro w' hw'; go_simp; try (with_reducible rfl))
          simp only [Act.put]; try simp only [List.setIfInBounds_toArray]; try simp only [List.set_cons_zero, List.set_cons_succ]
          refine wpAnyL_take (i := 14) (d := some 58) (v := ?vabw714) rfl rfl (by kernel_rfl) (by kernel_rfl) (by kernel_rfl) (fun _ _ _ h => h) (by rfl) ?yabw714 ?_
          case yabw714 => (intro w' hw'; go_simp; try (with_reducible rfl))
          simp only [Act.put]; try simp only [List.setIfInBounds_toArray]; try simp only [List.set_cons_zero, List.set_cons_succ]
          refine wpAnyL_only (i := 15) rfl (by kernel_rfl) (by rfl) fun K hK => ?_
          go_simp
          refine (lives_any (HT.out _ (D0.out.trans G2.out))).mono ?_
          rintro e v3 ⟨rfl, lb⟩
          have LF := hide ((D0.out.trans G2.out).trans lb)
          refine hK.out _ _ lb ?_
          clear lb
          clear hK K
          try (simp only [Act.put]; try simp only [List.setIfInBounds_toArray]; try simp only [List.set_cons_zero, List.set_cons_succ])
          refine wpAnyL_take (i := 16) (d := some 60) (v := ?vabw716) rfl rfl (by kernel_rfl) (by kernel_rfl) (by kernel_rfl) (fun _ _ _ h => h) (by rfl) ?yabw716 ?_
          case yabw716 => (intro w' hw'; go_simp; try (with_reducible rfl))
          simp only [Act.put]; try simp only [List.setIfInBounds_toArray]; try simp only [List.set_cons_zero, List.set_cons_succ]
          refine wpAnyL_take (i := 17) (d := some 4) (v := ?vabw717) rfl rfl (by kernel_rfl) (by kernel_rfl) (by kernel_rfl) (fun _ _ _ h => h) (by rfl) ?yabw717 ?_
          case yabw717 => (intro w' hw'; go_simp; try (with_reducible rfl))
          simp only [Act.put]; try simp only [List.setIfInBounds_toArray]; try simp only [List.set_cons_zero, List.set_cons_succ]
          refine wpAnyL_done (by kernel_rfl) ?_ _
          go_wp2
          go_ret
          exact ⟨rfl, LF.out⟩
        · have hnz : ((dr : Int) != 0) = true := by simp; omega
          clear hdz
          go_wp2
          refine wp_region_L (by kernel_rfl) ?_
          refine wpAnyL_take (i := 0) (d := some 44) (v := ?vaaw70) rfl rfl (by kernel_rfl) (by kernel_rfl) (by kernel_rfl) (fun _ _ _ h => h) (by rfl) ?yaaw70 ?_
          case yaaw70 => (intro w' hw'; go_simp; try (with_reducible rfl))
          simp only [Act.put]; try simp only [List.setIfInBounds_toArray]; try simp only [List.set_cons_zero, List.set_cons_succ]
          refine wpAnyL_take (i := 1) (d := some 45) (v := ?vaaw71) rfl rfl (by kernel_rfl) (by kernel_rfl) (by kernel_rfl) (fun _ _ _ h => h) (by rfl) ?yaaw71 ?_
          case yaaw71 => (intro w' hw'; go_simp; try (with_reducible rfl))
          simp only [Act.put]; try simp only [List.setIfInBounds_toArray]; try simp only [List.set_cons_zero, List.set_cons_succ]
          refine wpAnyL_take (i := 2) (d := some 46) (v := ?vaaw72) rfl rfl (by kernel_rfl) (by kernel_rfl) (by kernel_rfl) (fun _ _ _ h => h) (by rfl) ?yaaw72 ?_
          case yaaw72 => (intro w' hw'; go_simp; try (with_reducible rfl))
          simp only [Act.put]; try simp only [List.setIfInBounds_toArray]; try simp only [List.set_cons_zero, List.set_cons_succ]
          refine wpAnyL_pass (i := 3) (d := some 47) rfl rfl (by kernel_rfl) (by kernel_rfl) (by kernel_rfl) (fun _ _ _ h => h) (by rfl) ?_
          try (simp only [Act.put]; try simp only [List.setIfInBounds_toArray]; try simp only [List.set_cons_zero, List.set_cons_succ])
          refine wpAnyL_pass (i := 4) (d := some 48) rfl rfl (by kernel_rfl) (by kernel_rfl) (by kernel_rfl) (fun _ _ _ h => h) (by rfl) ?_
          try (simp only [Act.put]; try simp only [List.setIfInBounds_toArray]; try simp only [List.set_cons_zero, List.set_cons_succ])
          refine wpAnyL_pass (i := 5) (d := some 49) rfl rfl (by kernel_rfl) (by kernel_rfl) (by kernel_rfl) (fun _ _ _ h => h) (by rfl) ?_
          try (simp only [Act.put]; try simp only [List.setIfInBounds_toArray]; try simp only [List.set_cons_zero, List.set_cons_succ])
          refine wpAnyL_pass (i := 6) (d := some 50) rfl rfl (by kernel_rfl) (by kernel_rfl) (by kernel_rfl) (fun _ _ _ h => h) (by rfl) ?_
          try (simp only [Act.put]; try simp only [List.setIfInBounds_toArray]; try simp only [List.set_cons_zero, List.set_cons_succ])
          refine wpAnyL_pass (i := 9) (d := some 53) rfl rfl (by kernel_rfl) (by kernel_rfl) (by kernel_rfl) (fun _ _ _ h => h) (by rfl) ?_
          try (simp only [Act.put]; try simp only [List.setIfInBounds_toArray]; try simp only [List.set_cons_zero, List.set_cons_succ])
          refine wpAnyL_pass (i := 10) (d := some 54) rfl rfl (by kernel_rfl) (by kernel_rfl) (by kernel_rfl) (fun _ _ _ h => h) (by rfl) ?_
          try (simp only [Act.put]; try simp only [List.setIfInBounds_toArray]; try simp only [List.set_cons_zero, List.set_cons_succ])
          refine wpAnyL_pass (i := 7) (d := some 51) rfl rfl (by kernel_rfl) (by kernel_rfl) (by kernel_rfl) (fun _ _ _ h => h) (by rfl) ?_
          try (simp only [Act.put]; try simp only [List.setIfInBounds_toArray]; try simp only [List.set_cons_zero, List.set_cons_succ])
          refine wpAnyL_pass (i := 8) (d := some 52) rfl rfl (by kernel_rfl) (by kernel_rfl) (by kernel_rfl) (fun _ _ _ h => h) (by rfl) ?_
          try (simp only [Act.put]; try simp only [List.setIfInBounds_toArray]; try simp only [List.set_cons_zero, List.set_cons_succ])
          refine wpAnyL_pass (i := 11) (d := some 55) rfl rfl (by kernel_rfl) (by kernel_rfl) (by kernel_rfl) (fun _ _ _ h => h) (by rfl) ?_
          try (simp only [Act.put]; try simp only [List.setIfInBounds_toArray]; try simp only [List.set_cons_zero, List.set_cons_succ])
          refine wpAnyL_pass (i := 12) (d := some 56) rfl rfl (by kernel_rfl) (by kernel_rfl) (by kernel_rfl) (fun _ _ _ h => h) (by rfl) ?_
          try (simp only [Act.put]; try simp only [List.setIfInBounds_toArray]; try simp only [List.set_cons_zero, List.set_cons_succ])
          refine wpAnyL_take (i := 13) (d := some 57) (v := ?vaaw713) rfl rfl (by kernel_rfl) (by kernel_rfl) (by kernel_rfl) (fun _ _ _ h => h) (by rfl) ?yaaw713 ?_
          case yaaw713 => (intro w' hw'; go_simp; try (with_reducible rfl))
          simp only [Act.put]; try simp only [List.setIfInBounds_toArray]; try simp only [List.set_cons_zero, List.set_cons_succ]
          refine wpAnyL_take (i := 14) (d := some 58) (v := ?vaaw714) rfl rfl (by kernel_rfl) (by kernel_rfl) (by kernel_rfl) (fun _ _ _ h => h) (by rfl) ?yaaw714 ?_
          case yaaw714 => (intro w' hw'; go_simp; try (with_reducible rfl))
          simp only [Act.put]; try simp only [List.setIfInBounds_toArray]; try simp only [List.set_cons_zero, List.set_cons_succ]
          refine wpAnyL_only (i := 15) rfl (by kernel_rfl) (by rfl) fun K hK => ?_
          go_simp
          refine (lives_any (HT.out _ D0.out)).mono ?_
          rintro e v3 ⟨rfl, lb⟩
          have LF := hide (D0.out.trans lb)
          refine hK.out _ _ lb ?_
          clear lb
          clear hK K
          try (simp only [Act.put]; try simp only [List.setIfInBounds_toArray]; try simp only [List.set_cons_zero, List.set_cons_succ])
          refine wpAnyL_take (i := 16) (d := some 60) (v := ?vaaw716) rfl rfl (by kernel_rfl) (by kernel_rfl) (by kernel_rfl) (fun _ _ _ h => h) (by rfl) ?yaaw716 ?_
          case yaaw716 => (intro w' hw'; go_simp; try (with_reducible rfl))
          simp only [Act.put]; try simp only [List.setIfInBounds_toArray]; try simp only [List.set_cons_zero, List.set_cons_succ]
          refine wpAnyL_take (i := 17) (d := some 4) (v := ?vaaw717) rfl rfl (by kernel_rfl) (by kernel_rfl) (by kernel_rfl) (fun _ _ _ h => h) (by rfl) ?yaaw717 ?_
          case yaaw717 => (intro w' hw'; go_simp; try (with_reducible rfl))
          simp only [Act.put]; try simp only [List.setIfInBounds_toArray]; try simp only [List.set_cons_zero, List.set_cons_succ]
          refine wpAnyL_done (by kernel_rfl) ?_ _
          go_wp2
          go_ret
          exact ⟨rfl, LF.out⟩
    · have hgt : ¬ n ≤ 3000 := h3
      have E := hide (lives_any (HT.out _ L1.out))
      go_wp2_with (fail)
      refine E.out.mono ?_
      rintro e wc ⟨rfl, lc⟩
      have Lc := hide (L1.out.trans lc)
      clear lc E
      go_wp2
      go_ret
      exact ⟨rfl, Lc.out⟩
end Go.Proofs.YtehiaeihkdfclaaDoor
namespace Go.Proofs.YtehiaeihkdfclaaDoor
open Go.ChangeShapes Go.WideShapes Go.ChangeAt Go.RowKit

theorem noteBack_lawKnobs : ownKnob Tryd.prog.godebug = none := by kernel_rfl
theorem noteBack_allLaid : laidOutB Tryd.prog = true := by kernel_rfl

set_option maxRecDepth 100000 in
set_option maxHeartbeats 1000000 in
theorem noteBack_lifted (os : Os) (started : os.Started) (H : Type) (enc : TypeId × Value → H) :
    ReturnsInHanded {} Tryd.checked os 3 .any (fun w args => (Rows.noteBackSpec.pre enc Tryd.prog Tryd.f3 Rows.noteBackRow.domain false w args ∧ laidMetH Tryd.prog Rows.noteBackRow.laid w) ∧ sizedMet enc Tryd.prog Tryd.f3 (OpenSpec.ofChange Rows.noteBackSpec) false w args)
      (Rows.noteBackSpec.post enc Tryd.prog Tryd.f3 false true false false) := by
  refine returnsInHanded_of_change_and (C := Tryd.checked) (X := fun w _ => laidMetH Tryd.prog Rows.noteBackRow.laid w) (fun _ _ _ hh h => h.of_heap hh) noteBack_lawKnobs started (by kernel_rfl) Tryd.func3
    (ChangeSpec.witness_shaped (enc := enc) (C := Tryd.checked) (os := os) (X := fun w _ => laidMetH Tryd.prog Rows.noteBackRow.laid w) false (World.doorLaid Tryd.prog 400 os) #[.agg #[.int .i64 0, .int .i64 0, .int .i64 0, .int .i64 0, .int .i64 0, .int .i64 0, .int .i64 0, .int .i64 0, .int .i64 0, .bool false, .bool false, .bool false, .int .i64 0, .int .i64 0, .int .i64 0, .string ⟨#[]⟩, .slice none 0 0, .int .i64 0, .int .i64 0, .int .i64 0, .bool false, .bool false, .int .i64 0, .int .i64 0, .int .i64 0, .int .i64 0, .int .i64 0, .int .i64 0, .int .i64 0, .int .i64 0, .int .i64 0, .bool false, .slice none 0 0, .slice none 0 0], .slice none 0 0] 8 rfl (World.shaped_of_RefB (by kernel_rfl) (by kernel_rfl)) (by kernel_rfl) (by kernel_rfl) (by kernel_rfl) (tab_start os _)) ?_
  intro W base args ds gs before hval0 hW hcnd hsz0 hL _
  have hTab := tab_of_laid hL
  have hval : ∀ (j : Nat) t v, Tryd.f3.params[j]? = some t → args[j]? = some v → Value.okWide Tryd.prog W .any base t v := hval0
  have hW' := hW
  obtain ⟨p, q, hA0, hV, rfl, _, _⟩ := hW
  have hA : DataW.TrodAll enc Tryd.prog W 0 (fun _ => true) true Tryd.f3.params.toList args.toList ds p := hA0
  have hsz : (DataW.weightsEach Tryd.prog (Tryd.f3.params.toList ++ Rows.noteBackSpec.plain.varTypes Tryd.prog) (ds ++ gs)).all (· ≤ reachBytes) = true := hsz0
  rw [Tryd.params3] at hA hval hsz
  obtain ⟨v0, vs0, d0, ds0, p0, q0, hargs, rfl, rfl, h0, r0⟩ := trodAll_cons hA
  obtain ⟨v1, vs1, d1, ds1, p1, q1, rfl, rfl, rfl, h1, r1⟩ := trodAll_cons r0
  obtain ⟨rfl, rfl, rfl⟩ := trodAll_nil r1
  obtain rfl : args = #[v0, v1] := by cases args; simp_all
  obtain ⟨rfl, rfl⟩ := trodVars_none hV
  have k0 := h0
  have lt0 : ∀ x ∈ p0, x.block < W.heap.size := by obtain ⟨m, hm⟩ := k0; exact DataW.trod_lt m _ _ _ hm
  have s0 : Sm 35 d0 := sm_of hsz (j := 0) rfl rfl
  obtain ⟨cs0, rfl, _⟩ := okWide_struct Tryd.underlying35 (hval 0 35 v0 rfl rfl)
  obtain ⟨x0, sv0, ov0, iv0, rfl, hs0, wf0⟩ := arg_msg h0 s0
  have k1 := h1
  have lt1 : ∀ x ∈ p1, x.block < W.heap.size := by obtain ⟨m, hm⟩ := k1; exact DataW.trod_lt m _ _ _ hm
  obtain ⟨a1, len1, cap1, rfl⟩ := okWide_slice Tryd.underlying36 (hval 1 36 v1 rfl rfl)
  obtain ⟨l1, hl1, hmax1⟩ := bytes_of_arg h1
  clear hA0 hval0 hL
  refine (law_back x0 sv0 ov0 iv0 a1 len1 cap1 l1 W hs0 wf0 hl1 (reach_of_arg (j := 1) hsz Tryd.underlying36 (of_decide_eq_true (by kernel_rfl)) k1 rfl rfl) (cap_of_arg Tryd.underlying36 k1).1 hTab).mono fun e W' ⟨he, bel0⟩ => ?_
  have bel : Below W.heap.size W W' := bel0
  subst he
  exact ⟨_, rfl, _, _, _, [], _, [], hW', trodAll_mk1 (shut_bool Tryd.underlying4 _), (trodAll_cons_mk (Below.trod noteBack_allLaid (by kernel_rfl) (of_decide_eq_true (by kernel_rfl)) k0 bel lt0) (trodAll_cons_mk (Below.trod noteBack_allLaid (by kernel_rfl) (of_decide_eq_true (by kernel_rfl)) k1 bel lt1) trodAll_mk0)), rfl, bel.frame _, fun h => by cases h⟩

theorem noteBack_over : Rows.noteBackRow.holds Tryd.pinned (OpenSpec.ofChange Rows.noteBackSpec) :=
  OpenClaim.holds_of_wide 3 Tryd.f3 rfl rfl rfl rfl rfl rfl rfl ⟨rfl, rfl, rfl, rfl, rfl⟩ rfl rfl rfl rfl rfl (by kernel_rfl) Tryd.func3 (by kernel_rfl)
    (of_decide_eq_true (by kernel_rfl)) (by unfold Func.isWrapper; first | (rw [if_pos (by decide +kernel)]; kernel_rfl) | (rw [if_neg (by decide +kernel)]; exact ⟨rfl, rfl⟩))
    (fun os started H enc _ => noteBack_lifted os started H enc)

theorem noteBack_card : Rows.NoteBackCardSaid :=
  Claim7.holds_tied_plain_at .later [] _ true _ false noteBack_over (fun _ h => by cases h) (by kernel_rfl) (fun _ h => by cases h) noteBack_row_tie rfl ⟨rfl, rfl⟩ (by kernel_rfl) rfl
    (fun f fn hf hfn => by
      obtain rfl : f = 3 := Option.some.inj ((show Tryd.prog.funcNamed "drover/droverlaw09.NoteBack" = some 3 by kernel_rfl).symm.trans hf) |>.symm
      obtain rfl : fn = Tryd.f3 := (Option.some.inj (Tryd.func3.symm.trans hfn)).symm
      exact ⟨by kernel_rfl, fun j t ht => by
        rw [Tryd.params3] at ht
        have hm : t ∈ [35, 36] := by simpa using Array.mem_of_getElem? ht
        have hall : ([35, 36].all fun u => !Tryd.prog.wantsStandIn u) = true := by kernel_rfl
        exact (show Tryd.prog.wantsStandIn t = false by simpa using List.all_eq_true.1 hall t hm)⟩)
    (by kernel_rfl)
#print axioms noteBack_card
end Go.Proofs.YtehiaeihkdfclaaDoor
