/- Texts merged: RefRD, Ref2, RefOpen, Ints, RefRM, RefInn, RefGoodM. -/
import Derived.Test.YtehiaeihkdfclaaGreatDoorBaseN1
import Derived.Test.YtehiaeihkdfclaaGreatDoorBaseN2
import Derived.Test.YtehiaeihkdfclaaGreatDoorBaseN3
import Derived.Test.YtehiaeihkdfclaaGreatDoorBaseN4
import Derived.Test.YtehiaeihkdfclaaGreatDoorBaseN5
import Derived.Test.YtehiaeihkdfclaaGreatDoorReC1
import Derived.Test.YtehiaeihkdfclaaGreatDoorRows
import Derived.Laws.CopyOwn
/- The walks over droverref09.ReadDef and ReadOp: definitions and operations out of bytes, or the error, as the document reads them. -/
namespace Go.Proofs.YtehiaeihkdfclaaGreatDoor
open Go.RowKit

def zdef : Array Value := #[.string ⟨#[]⟩, .slice none 0 0]
theorem put_zdef (a b : Value) : putAt zdef 0 [a, b] = #[a, b] := by simp [zdef, putAt]
theorem built_def0 : Tryz.prog.built 24 [] = some zdef := by kernel_rfl
theorem built_op0 : Tryz.prog.built 26 [] = some zop := by kernel_rfl
theorem built_opdef (s : ByteArray) (v : Value) : Tryz.prog.built 26 [(3, .agg #[.string s, v])] = some #[.int .i64 0, .int .i64 0, .int .i64 0, .string s, v, .int .i64 0, .int .i64 0, .int .i64 0, .bool false, .bool false] := by kernel_rfl
theorem defG_opz (d : DefD) : opG { OpD.zero with name := d.name, steps := d.steps } = defG d := by
  have h := defG_op { OpD.zero with name := d.name, steps := d.steps }
  simpa [OpD.defn] using h

set_option maxHeartbeats 4000000 in
set_option maxRecDepth 100000 in
theorem rreaddef_any {A : Option Addr} {n c : Nat} {l : List Nat} {w : World} (hl : Holds w w.heap.size A n l) (hn : n ≤ 5000) (hc : n ≤ c) :
    Calls Tryz.prog 22 #[.slice A n c] w fun e w' => ∃ sv, e = .returned (.tuple #[.agg #[.string (readDefQ l).2.name, sv], .int .i64 ((readDefQ l).1 : Nat)]) ∧ StepsAt (w.heap.size ≤ ·) w' sv (readDefQ l).2.steps ∧ Later w w' := by
  obtain ⟨W0, hW0⟩ : ∃ W0, W0 = w.alloc (.cells zdef 24 (0, 0)) := ⟨_, rfl⟩
  have HB0 : Hid (Later w W0) := by rw [hW0]; exact Later.alloc _ _
  have HZ0 : Hid (W0.heap[w.heap.size]? = some (.cells zdef 24 (0, 0))) := by rw [hW0]; exact heap_alloc_new _ _
  have HSZ : Hid (w.heap.size < W0.heap.size) := lt_of_block HZ0.out
  have CR := hide (rread_any A n c l _ (hl.later HB0.out) (by omega) hc)
  have HIN0 : Hid (∀ w', Later w w' → Holds w' w'.heap.size A n l) := fun w' h => hl.later h
  have HS := hide hl.2.1
  have hln := hl.1
  have HW0 := hide hW0
  have HQ1 : Hid ((pread l).1 ≠ 0 → readDefQ l = ((pread l).1, .zero)) := fun h => by unfold readDefQ; rw [if_pos h]
  have HQ2 : Hid ((pread l).1 = 0 → ¬ (defB (defQ l) = l ∧ defG (defQ l) = true) → readDefQ l = (4, .zero)) := fun h h2 => by unfold readDefQ; rw [if_neg (by simpa using h), if_neg h2]
  have HQ3 : Hid ((pread l).1 = 0 → defB (defQ l) = l → defG (defQ l) = true → readDefQ l = (0, defQ l)) := fun h h2 h3 => by unfold readDefQ; rw [if_neg (by simpa using h), if_pos ⟨h2, h3⟩]
  clear hl
  go_enter Tryz.func22, Tryz.ntmps22
  go_wp2_with (fail)
  rw [show w.alloc (.cells #[.string ⟨#[]⟩, .slice none 0 0] 24 (0, 0)) = W0 from HW0.out.symm]
  refine CR.out.mono ?_
  rintro e w1 ⟨A1, n1, c1, fs, rfl, _, _, _, hb1⟩
  have HL1 : Hid (Later W0 w1) := hb1
  clear hb1 CR hW0
  obtain ⟨er, her⟩ : ∃ er, (pread l).1 = er := ⟨_, rfl⟩
  rw [her] at HQ1 HQ2 HQ3 ⊢
  clear her
  by_cases he : er = 0
  · subst he
    go_wp2_with (fail)
    refine (rdef_any (HIN0.out _ (Later.trans HB0.out HL1.out)) hn hc).mono ?_
    rintro e w2 ⟨sv, rfl, hst, hl2⟩
    obtain ⟨As, cs, rfl, _, _, _⟩ := FlatAt.shape hst
    obtain ⟨ms, hms⟩ : ∃ ms, (defQ l).steps.length = ms := ⟨_, rfl⟩
    rw [hms] at hst ⊢
    have HMS : Hid (ms = (defQ l).steps.length) := hms.symm
    obtain ⟨B6, hB6⟩ : ∃ B6, w2.heap.size = B6 := ⟨_, rfl⟩
    have HL2 : Hid (Later W0 w2) := HL1.out.trans hl2
    have HZ2 : Hid ((w2.alloc (.cells zdef 24 (0, 0))).heap[w2.heap.size]? = some (.cells zdef 24 (0, 0))) := heap_alloc_new _ _
    have HB6' := hide hB6
    clear hB6
    go_wp2_with (refine wpList_store_box (by rfl) 24 _ _ (by rfl) w2.heap.size 0 #[.string (defQ l).name, (.slice As ms cs)] (by rfl) (by rfl) 24 zdef HZ2.out (by kernel_rfl) (by exact Nat.le_of_ble_eq_true rfl) (by intro u hu; simp at hu; rcases hu with rfl | rfl <;> rfl) ?_; intro w25 hb25 hg25; rw [put_zdef] at hb25)
    have hB6 := HB6'.out
    obtain ⟨w3, hw3⟩ : ∃ w3, w3 = w25.drew := ⟨_, rfl⟩
    have HL3 : Hid (Later w2 w3) := by rw [hw3]; exact (Below.grown ((Below.refl _ _).alloc (Nat.le_refl _) _) hg25 (by simp) (fun k hk => by have := Option.some.inj hk; omega)).trans (Below.mono (Later.drew _) (by have := hg25.size; simp at this; omega))
    have HB6 : Hid (w3.heap[B6]? = some (.cells #[.string (defQ l).name, (.slice As ms cs)] 24 (0, 0))) := by rw [hw3, ← hB6]; exact hb25
    have HBS : Hid (B6 < w3.heap.size) := lt_of_block HB6.out
    have HST : Hid (∀ w', Later w3 w' → StepsAt (fun b => w.heap.size < b) w' (.slice As ms cs) (defQ l).steps) := fun w' h => (hst.kept (Kept.of_below (HL3.out.trans h) _)).mono (fun b _ hb => by have h1 := HL1.out.size; have h2 := HSZ.out; have h3 : w1.heap.size ≤ b := hb; show w.heap.size < b; omega)
    have HIN : Hid (∀ w', Later w3 w' → Holds w' w'.heap.size A n l) := fun w' h => HIN0.out w' (Later.trans HB0.out (Later.trans HL2.out (HL3.out.trans h)))
    have HZ : Hid (∀ w', Later w3 w' → w'.heap[w.heap.size]? = some (.cells zdef 24 (0, 0))) := fun w' h => (Below.block (Later.trans HL2.out (HL3.out.trans h)) w.heap.size HSZ.out).trans HZ0.out
    have HLW : Hid (∀ w', Later w3 w' → Later w w') := fun w' h => Later.trans HB0.out (Later.trans HL2.out (HL3.out.trans h))
    have HSM := hide ((defQ_sm HS.out).mono (show l.length ≤ 5000 by omega))
    have HLEN : Hid (5000 ≤ 5000) := Nat.le_refl _
    have HR1 : Hid (proom (defF (defQ l)) ≤ 1000000) := Nat.le_trans (defQ_room HS.out) (by omega)
    have HD0 : Hid (Later w3 w3) := Below.refl _ _
    have HW3 := hide hw3
    clear hw3
    clear hst hms hl2 hb25 hg25
    by_cases heq : defB (defQ l) = l
    · have HEQ : Hid (((str (defB (defQ l))).toList == (str l).toList) = true) := by rw [heq]; exact str_beq l
      obtain ⟨g, hg⟩ : ∃ g, defG (defQ l) = g := ⟨_, rfl⟩
      have HGD := hide hg
      have HE2 := hide heq
      clear hg heq
      cases g with
      | true =>
        have HRS := hide (HQ3.out (by trivial) HE2.out HGD.out)
        try rw [hB6]
        refine wp_region_L (by kernel_rfl) ?_
        rw [← HW3.out]
        refine wpAnyL_take (i := 0) (d := some 18) (v := .agg #[.string (defQ l).name, (.slice As ms cs)]) rfl rfl (by kernel_rfl) (by kernel_rfl) (by kernel_rfl) (fun _ _ _ h => h) (by rfl) ?yaaeg0 ?_
        case yaaeg0 => (intro w' hw'; exact exec_load_box 24 _ (by rfl) B6 0 (by rfl) 24 _ ((Below.block (HD0.out.trans hw') B6 HBS.out).trans HB6.out) 2 _ Tryz.underlying24 (by rfl) (by kernel_rfl) [.string (defQ l).name, (.slice As ms cs)] (by rfl) (by rfl))
        simp only [Act.put]; try simp only [List.setIfInBounds_toArray]; try simp only [List.set_cons_zero, List.set_cons_succ]
        refine wpAnyL_take (i := 3) (d := some 21) (v := ?vaaeg3) rfl rfl (by kernel_rfl) (by kernel_rfl) (by kernel_rfl) (fun _ _ _ h => h) (by rfl) ?yaaeg3 ?_
        case yaaeg3 => (intro w' hw'; go_simp; try (with_reducible rfl))
        simp only [Act.put]; try simp only [List.setIfInBounds_toArray]; try simp only [List.set_cons_zero, List.set_cons_succ]
        refine wpAnyL_take (i := 4) (d := some 22) (v := .string (str l)) rfl rfl (by kernel_rfl) (by kernel_rfl) (by kernel_rfl) (fun _ _ _ h => h) (by rfl) ?yaaeg4 ?_
        case yaaeg4 => (intro w' hw'; have d1 := run_str w' w'.heap.size A n c l (HIN.out _ (HD0.out.trans hw')); go_simp)
        simp only [Act.put]; try simp only [List.setIfInBounds_toArray]; try simp only [List.set_cons_zero, List.set_cons_succ]
        refine wpAnyL_only (i := 1) rfl (by kernel_rfl) (by rfl) fun K hK => ?_
        go_simp
        refine (rdefb_any (HST.out _ HD0.out) HMS.out HSM.out HLEN.out HR1.out).mono ?_
        rintro e w5 ⟨A5, n5, c5, rfl, _, hh5, _, hl5⟩
        have HH5 := hide hh5
        have HD5 : Hid (Later w3 w5) := HD0.out.trans hl5
        refine hK.out _ _ hl5 ?_
        clear hh5 hl5
        clear hK K
        try (simp only [Act.put]; try simp only [List.setIfInBounds_toArray]; try simp only [List.set_cons_zero, List.set_cons_succ])
        refine wpAnyL_take (i := 2) (d := some 20) (v := .string (str (defB (defQ l)))) rfl rfl (by kernel_rfl) (by kernel_rfl) (by kernel_rfl) (fun _ _ _ h => h) (by rfl) ?yaaeg2 ?_
        case yaaeg2 => (intro w' hw'; have d1 := run_str w' w'.heap.size A5 n5 c5 (defB (defQ l)) (HH5.out.later hw'); go_simp)
        simp only [Act.put]; try simp only [List.setIfInBounds_toArray]; try simp only [List.set_cons_zero, List.set_cons_succ]
        refine wpAnyL_take (i := 5) (d := some 23) (v := .bool false) rfl rfl (by kernel_rfl) (by kernel_rfl) (by kernel_rfl) (fun _ _ _ h => h) (by rfl) ?yaaeg5 ?_
        case yaaeg5 => (intro w' hw'; have e1 := HEQ.out; go_simp; try (with_reducible rfl))
        simp only [Act.put]; try simp only [List.setIfInBounds_toArray]; try simp only [List.set_cons_zero, List.set_cons_succ]
        refine wpAnyL_take (i := 6) (d := some 24) (v := ?vaaeg6) rfl rfl (by kernel_rfl) (by kernel_rfl) (by kernel_rfl) (fun _ _ _ h => h) (by rfl) ?yaaeg6 ?_
        case yaaeg6 => (intro w' hw'; go_simp; try (with_reducible rfl))
        simp only [Act.put]; try simp only [List.setIfInBounds_toArray]; try simp only [List.set_cons_zero, List.set_cons_succ]
        refine wpAnyL_take (i := 7) (d := some 25) (v := .agg #[.string (defQ l).name, (.slice As ms cs)]) rfl rfl (by kernel_rfl) (by kernel_rfl) (by kernel_rfl) (fun _ _ _ h => h) (by rfl) ?yaaeg7 ?_
        case yaaeg7 => (intro w' hw'; exact exec_load_box 24 _ (by rfl) B6 0 (by rfl) 24 _ ((Below.block (HD5.out.trans hw') B6 HBS.out).trans HB6.out) 2 _ Tryz.underlying24 (by rfl) (by kernel_rfl) [.string (defQ l).name, (.slice As ms cs)] (by rfl) (by rfl))
        simp only [Act.put]; try simp only [List.setIfInBounds_toArray]; try simp only [List.set_cons_zero, List.set_cons_succ]
        refine wpAnyL_take (i := 8) (d := some 26) (v := .agg #[.int .i64 0, .int .i64 0, .int .i64 0, .string (defQ l).name, (.slice As ms cs), .int .i64 0, .int .i64 0, .int .i64 0, .bool false, .bool false]) rfl rfl (by kernel_rfl) (by kernel_rfl) (by kernel_rfl) (fun _ _ _ h => h) (by rfl) ?yaaeg8 ?_
        case yaaeg8 => (intro w' hw'; exact exec_build_parts 26 _ (by rfl) _ (by rfl) _ (built_opdef _ _))
        simp only [Act.put]; try simp only [List.setIfInBounds_toArray]; try simp only [List.set_cons_zero, List.set_cons_succ]
        refine wpAnyL_only (i := 9) rfl (by kernel_rfl) (by rfl) fun K hK => ?_
        go_simp
        have CG := (show Calls Tryz.prog 12 _ _ _ from rgoodop_any (x := { OpD.zero with name := (defQ l).name, steps := (defQ l).steps }) (HST.out _ HD5.out) HMS.out)
        rw [defG_opz] at CG
        rw [HGD.out] at CG
        refine CG.mono ?_
        rintro e w6 ⟨rfl, hl6⟩
        have HD6 : Hid (Later w3 w6) := HD5.out.trans hl6
        refine hK.out _ _ hl6 ?_
        clear hl6 CG
        clear hK K
        try (simp only [Act.put]; try simp only [List.setIfInBounds_toArray]; try simp only [List.set_cons_zero, List.set_cons_succ])
        refine wpAnyL_take (i := 10) (d := some 28) (v := ?vaaeg10) rfl rfl (by kernel_rfl) (by kernel_rfl) (by kernel_rfl) (fun _ _ _ h => h) (by rfl) ?yaaeg10 ?_
        case yaaeg10 => (intro w' hw'; go_simp; try (with_reducible rfl))
        simp only [Act.put]; try simp only [List.setIfInBounds_toArray]; try simp only [List.set_cons_zero, List.set_cons_succ]
        refine wpAnyL_take (i := 11) (d := some 29) (v := ?vaaeg11) rfl rfl (by kernel_rfl) (by kernel_rfl) (by kernel_rfl) (fun _ _ _ h => h) (by rfl) ?yaaeg11 ?_
        case yaaeg11 => (intro w' hw'; go_simp; try (with_reducible rfl))
        simp only [Act.put]; try simp only [List.setIfInBounds_toArray]; try simp only [List.set_cons_zero, List.set_cons_succ]
        refine wpAnyL_done (by kernel_rfl) ?_ _
        have HZ6 := hide (HZ.out _ HD6.out)
        go_wp2_with (first | (refine wpList_load_box (by rfl) 24 _ (by rfl) B6 0 (by rfl) 24 _ ((Below.block HD6.out B6 HBS.out).trans HB6.out) 2 _ Tryz.underlying24 (by rfl) (by kernel_rfl) [.string (defQ l).name, (.slice As ms cs)] (by rfl) (by rfl) ?_) | (refine wpList_store_box (by rfl) 24 _ _ (by rfl) w.heap.size 0 #[.string (defQ l).name, (.slice As ms cs)] (by rfl) (by rfl) 24 zdef HZ6.out (by kernel_rfl) (by exact Nat.le_of_ble_eq_true rfl) (by intro u hu; simp at hu; rcases hu with rfl | rfl <;> rfl) ?_; intro w20 hb20 hg20; rw [put_zdef] at hb20))
        refine bodyPost_ret (results_box2 Tryz.results22 _ _ w.heap.size 24 _ _ (by rfl) hb20 Tryz.underlying24 (by rfl) (by kernel_rfl) _ (by rfl)) (by rfl) ?_
        exact ⟨.slice As ms cs, by rw [HRS.out]; rfl, by rw [HRS.out]; exact ((HST.out _ HD6.out).kept (Kept.of_grown hg20 (fun g e h => by have := Option.some.inj e; have h1 : w.heap.size < g := h; omega))).mono (fun b _ h => Nat.le_of_lt h), Below.grown (HLW.out _ HD6.out) hg20 (HLW.out _ HD6.out).size (fun k hk => by have := Option.some.inj hk; omega)⟩
      | false =>
        have HRS := hide (HQ2.out (by trivial) (fun h => by have h1 := h.2; rw [HGD.out] at h1; cases h1))
        try rw [hB6]
        refine wp_region_L (by kernel_rfl) ?_
        rw [← HW3.out]
        refine wpAnyL_take (i := 0) (d := some 18) (v := .agg #[.string (defQ l).name, (.slice As ms cs)]) rfl rfl (by kernel_rfl) (by kernel_rfl) (by kernel_rfl) (fun _ _ _ h => h) (by rfl) ?yaaeb0 ?_
        case yaaeb0 => (intro w' hw'; exact exec_load_box 24 _ (by rfl) B6 0 (by rfl) 24 _ ((Below.block (HD0.out.trans hw') B6 HBS.out).trans HB6.out) 2 _ Tryz.underlying24 (by rfl) (by kernel_rfl) [.string (defQ l).name, (.slice As ms cs)] (by rfl) (by rfl))
        simp only [Act.put]; try simp only [List.setIfInBounds_toArray]; try simp only [List.set_cons_zero, List.set_cons_succ]
        refine wpAnyL_take (i := 3) (d := some 21) (v := ?vaaeb3) rfl rfl (by kernel_rfl) (by kernel_rfl) (by kernel_rfl) (fun _ _ _ h => h) (by rfl) ?yaaeb3 ?_
        case yaaeb3 => (intro w' hw'; go_simp; try (with_reducible rfl))
        simp only [Act.put]; try simp only [List.setIfInBounds_toArray]; try simp only [List.set_cons_zero, List.set_cons_succ]
        refine wpAnyL_take (i := 4) (d := some 22) (v := .string (str l)) rfl rfl (by kernel_rfl) (by kernel_rfl) (by kernel_rfl) (fun _ _ _ h => h) (by rfl) ?yaaeb4 ?_
        case yaaeb4 => (intro w' hw'; have d1 := run_str w' w'.heap.size A n c l (HIN.out _ (HD0.out.trans hw')); go_simp)
        simp only [Act.put]; try simp only [List.setIfInBounds_toArray]; try simp only [List.set_cons_zero, List.set_cons_succ]
        refine wpAnyL_only (i := 1) rfl (by kernel_rfl) (by rfl) fun K hK => ?_
        go_simp
        refine (rdefb_any (HST.out _ HD0.out) HMS.out HSM.out HLEN.out HR1.out).mono ?_
        rintro e w5 ⟨A5, n5, c5, rfl, _, hh5, _, hl5⟩
        have HH5 := hide hh5
        have HD5 : Hid (Later w3 w5) := HD0.out.trans hl5
        refine hK.out _ _ hl5 ?_
        clear hh5 hl5
        clear hK K
        try (simp only [Act.put]; try simp only [List.setIfInBounds_toArray]; try simp only [List.set_cons_zero, List.set_cons_succ])
        refine wpAnyL_take (i := 2) (d := some 20) (v := .string (str (defB (defQ l)))) rfl rfl (by kernel_rfl) (by kernel_rfl) (by kernel_rfl) (fun _ _ _ h => h) (by rfl) ?yaaeb2 ?_
        case yaaeb2 => (intro w' hw'; have d1 := run_str w' w'.heap.size A5 n5 c5 (defB (defQ l)) (HH5.out.later hw'); go_simp)
        simp only [Act.put]; try simp only [List.setIfInBounds_toArray]; try simp only [List.set_cons_zero, List.set_cons_succ]
        refine wpAnyL_take (i := 5) (d := some 23) (v := .bool false) rfl rfl (by kernel_rfl) (by kernel_rfl) (by kernel_rfl) (fun _ _ _ h => h) (by rfl) ?yaaeb5 ?_
        case yaaeb5 => (intro w' hw'; have e1 := HEQ.out; go_simp; try (with_reducible rfl))
        simp only [Act.put]; try simp only [List.setIfInBounds_toArray]; try simp only [List.set_cons_zero, List.set_cons_succ]
        refine wpAnyL_take (i := 6) (d := some 24) (v := ?vaaeb6) rfl rfl (by kernel_rfl) (by kernel_rfl) (by kernel_rfl) (fun _ _ _ h => h) (by rfl) ?yaaeb6 ?_
        case yaaeb6 => (intro w' hw'; go_simp; try (with_reducible rfl))
        simp only [Act.put]; try simp only [List.setIfInBounds_toArray]; try simp only [List.set_cons_zero, List.set_cons_succ]
        refine wpAnyL_take (i := 7) (d := some 25) (v := .agg #[.string (defQ l).name, (.slice As ms cs)]) rfl rfl (by kernel_rfl) (by kernel_rfl) (by kernel_rfl) (fun _ _ _ h => h) (by rfl) ?yaaeb7 ?_
        case yaaeb7 => (intro w' hw'; exact exec_load_box 24 _ (by rfl) B6 0 (by rfl) 24 _ ((Below.block (HD5.out.trans hw') B6 HBS.out).trans HB6.out) 2 _ Tryz.underlying24 (by rfl) (by kernel_rfl) [.string (defQ l).name, (.slice As ms cs)] (by rfl) (by rfl))
        simp only [Act.put]; try simp only [List.setIfInBounds_toArray]; try simp only [List.set_cons_zero, List.set_cons_succ]
        refine wpAnyL_take (i := 8) (d := some 26) (v := .agg #[.int .i64 0, .int .i64 0, .int .i64 0, .string (defQ l).name, (.slice As ms cs), .int .i64 0, .int .i64 0, .int .i64 0, .bool false, .bool false]) rfl rfl (by kernel_rfl) (by kernel_rfl) (by kernel_rfl) (fun _ _ _ h => h) (by rfl) ?yaaeb8 ?_
        case yaaeb8 => (intro w' hw'; exact exec_build_parts 26 _ (by rfl) _ (by rfl) _ (built_opdef _ _))
        simp only [Act.put]; try simp only [List.setIfInBounds_toArray]; try simp only [List.set_cons_zero, List.set_cons_succ]
        refine wpAnyL_only (i := 9) rfl (by kernel_rfl) (by rfl) fun K hK => ?_
        go_simp
        have CG := (show Calls Tryz.prog 12 _ _ _ from rgoodop_any (x := { OpD.zero with name := (defQ l).name, steps := (defQ l).steps }) (HST.out _ HD5.out) HMS.out)
        rw [defG_opz] at CG
        rw [HGD.out] at CG
        refine CG.mono ?_
        rintro e w6 ⟨rfl, hl6⟩
        have HD6 : Hid (Later w3 w6) := HD5.out.trans hl6
        refine hK.out _ _ hl6 ?_
        clear hl6 CG
        clear hK K
        try (simp only [Act.put]; try simp only [List.setIfInBounds_toArray]; try simp only [List.set_cons_zero, List.set_cons_succ])
        refine wpAnyL_take (i := 10) (d := some 28) (v := ?vaaeb10) rfl rfl (by kernel_rfl) (by kernel_rfl) (by kernel_rfl) (fun _ _ _ h => h) (by rfl) ?yaaeb10 ?_
        case yaaeb10 => (intro w' hw'; go_simp; try (with_reducible rfl))
        simp only [Act.put]; try simp only [List.setIfInBounds_toArray]; try simp only [List.set_cons_zero, List.set_cons_succ]
        refine wpAnyL_take (i := 11) (d := some 29) (v := ?vaaeb11) rfl rfl (by kernel_rfl) (by kernel_rfl) (by kernel_rfl) (fun _ _ _ h => h) (by rfl) ?yaaeb11 ?_
        case yaaeb11 => (intro w' hw'; go_simp; try (with_reducible rfl))
        simp only [Act.put]; try simp only [List.setIfInBounds_toArray]; try simp only [List.set_cons_zero, List.set_cons_succ]
        refine wpAnyL_done (by kernel_rfl) ?_ _
        have HZ6 := hide (HZ.out _ HD6.out)
        have HLX := hide (HLW.out _ HD6.out)
        go_wp2_with (first | (refine wpList_build_parts (by rfl) 24 _ (by rfl) _ (by rfl) _ built_def0 ?_) | (refine wpList_store_box (by rfl) 24 _ _ (by rfl) w.heap.size 0 zdef (by rfl) (by rfl) 24 zdef HZ6.out (by kernel_rfl) (by exact Nat.le_of_ble_eq_true rfl) (by intro u hu; simp [zdef] at hu; rcases hu with rfl | rfl <;> rfl) ?_; intro w20 hb20 hg20; rw [show putAt zdef 0 zdef.toList = zdef from by simp [zdef, putAt]] at hb20))
        refine bodyPost_ret (results_box2 Tryz.results22 _ _ w.heap.size 24 _ _ (by rfl) hb20 Tryz.underlying24 (by rfl) (by kernel_rfl) _ (by rfl)) (by rfl) ?_
        exact ⟨.slice none 0 0, by rw [HRS.out]; rfl, by rw [HRS.out]; exact StepsAt.nil_ _ _, Below.grown HLX.out hg20 HLX.out.size (fun k hk => by have := Option.some.inj hk; omega)⟩
    · have HEQ : Hid (((str (defB (defQ l))).toList == (str l).toList) = false) := str_bne (defB_small ((defQ_sm HS.out).mono (show l.length ≤ 5000 by omega)) (Nat.le_refl _)) HS.out heq
      have HRS := hide (HQ2.out (by trivial) (fun h => heq h.1))
      clear heq
      try rw [hB6]
      refine wp_region_L (by kernel_rfl) ?_
      rw [← HW3.out]
      refine wpAnyL_take (i := 0) (d := some 18) (v := .agg #[.string (defQ l).name, (.slice As ms cs)]) rfl rfl (by kernel_rfl) (by kernel_rfl) (by kernel_rfl) (fun _ _ _ h => h) (by rfl) ?yaanb0 ?_
      case yaanb0 => (intro w' hw'; exact exec_load_box 24 _ (by rfl) B6 0 (by rfl) 24 _ ((Below.block (HD0.out.trans hw') B6 HBS.out).trans HB6.out) 2 _ Tryz.underlying24 (by rfl) (by kernel_rfl) [.string (defQ l).name, (.slice As ms cs)] (by rfl) (by rfl))
      simp only [Act.put]; try simp only [List.setIfInBounds_toArray]; try simp only [List.set_cons_zero, List.set_cons_succ]
      refine wpAnyL_take (i := 3) (d := some 21) (v := ?vaanb3) rfl rfl (by kernel_rfl) (by kernel_rfl) (by kernel_rfl) (fun _ _ _ h => h) (by rfl) ?yaanb3 ?_
      case yaanb3 => (intro w' hw'; go_simp; try (with_reducible rfl))
      simp only [Act.put]; try simp only [List.setIfInBounds_toArray]; try simp only [List.set_cons_zero, List.set_cons_succ]
      refine wpAnyL_take (i := 4) (d := some 22) (v := .string (str l)) rfl rfl (by kernel_rfl) (by kernel_rfl) (by kernel_rfl) (fun _ _ _ h => h) (by rfl) ?yaanb4 ?_
      case yaanb4 => (intro w' hw'; have d1 := run_str w' w'.heap.size A n c l (HIN.out _ (HD0.out.trans hw')); go_simp)
      simp only [Act.put]; try simp only [List.setIfInBounds_toArray]; try simp only [List.set_cons_zero, List.set_cons_succ]
      refine wpAnyL_only (i := 1) rfl (by kernel_rfl) (by rfl) fun K hK => ?_
      go_simp
      refine (rdefb_any (HST.out _ HD0.out) HMS.out HSM.out HLEN.out HR1.out).mono ?_
      rintro e w5 ⟨A5, n5, c5, rfl, _, hh5, _, hl5⟩
      have HH5 := hide hh5
      have HD5 : Hid (Later w3 w5) := HD0.out.trans hl5
      refine hK.out _ _ hl5 ?_
      clear hh5 hl5
      clear hK K
      try (simp only [Act.put]; try simp only [List.setIfInBounds_toArray]; try simp only [List.set_cons_zero, List.set_cons_succ])
      refine wpAnyL_take (i := 2) (d := some 20) (v := .string (str (defB (defQ l)))) rfl rfl (by kernel_rfl) (by kernel_rfl) (by kernel_rfl) (fun _ _ _ h => h) (by rfl) ?yaanb2 ?_
      case yaanb2 => (intro w' hw'; have d1 := run_str w' w'.heap.size A5 n5 c5 (defB (defQ l)) (HH5.out.later hw'); go_simp)
      simp only [Act.put]; try simp only [List.setIfInBounds_toArray]; try simp only [List.set_cons_zero, List.set_cons_succ]
      refine wpAnyL_take (i := 5) (d := some 23) (v := .bool true) rfl rfl (by kernel_rfl) (by kernel_rfl) (by kernel_rfl) (fun _ _ _ h => h) (by rfl) ?yaanb5 ?_
      case yaanb5 => (intro w' hw'; have e1 := HEQ.out; go_simp; try (with_reducible rfl))
      simp only [Act.put]; try simp only [List.setIfInBounds_toArray]; try simp only [List.set_cons_zero, List.set_cons_succ]
      refine wpAnyL_take (i := 6) (d := some 24) (v := ?vaanb6) rfl rfl (by kernel_rfl) (by kernel_rfl) (by kernel_rfl) (fun _ _ _ h => h) (by rfl) ?yaanb6 ?_
      case yaanb6 => (intro w' hw'; go_simp; try (with_reducible rfl))
      simp only [Act.put]; try simp only [List.setIfInBounds_toArray]; try simp only [List.set_cons_zero, List.set_cons_succ]
      refine wpAnyL_pass (i := 7) (d := some 25) rfl rfl (by kernel_rfl) (by kernel_rfl) (by kernel_rfl) (fun _ _ _ h => h) (by rfl) ?_
      try (simp only [Act.put]; try simp only [List.setIfInBounds_toArray]; try simp only [List.set_cons_zero, List.set_cons_succ])
      refine wpAnyL_pass (i := 8) (d := some 26) rfl rfl (by kernel_rfl) (by kernel_rfl) (by kernel_rfl) (fun _ _ _ h => h) (by rfl) ?_
      try (simp only [Act.put]; try simp only [List.setIfInBounds_toArray]; try simp only [List.set_cons_zero, List.set_cons_succ])
      refine wpAnyL_pass (i := 9) (d := some 27) rfl rfl (by kernel_rfl) (by kernel_rfl) (by kernel_rfl) (fun _ _ _ h => h) (by rfl) ?_
      try (simp only [Act.put]; try simp only [List.setIfInBounds_toArray]; try simp only [List.set_cons_zero, List.set_cons_succ])
      refine wpAnyL_pass (i := 10) (d := some 28) rfl rfl (by kernel_rfl) (by kernel_rfl) (by kernel_rfl) (fun _ _ _ h => h) (by rfl) ?_
      try (simp only [Act.put]; try simp only [List.setIfInBounds_toArray]; try simp only [List.set_cons_zero, List.set_cons_succ])
      refine wpAnyL_take (i := 11) (d := some 29) (v := ?vaanb11) rfl rfl (by kernel_rfl) (by kernel_rfl) (by kernel_rfl) (fun _ _ _ h => h) (by rfl) ?yaanb11 ?_
      case yaanb11 => (intro w' hw'; go_simp; try (with_reducible rfl))
      simp only [Act.put]; try simp only [List.setIfInBounds_toArray]; try simp only [List.set_cons_zero, List.set_cons_succ]
      refine wpAnyL_done (by kernel_rfl) ?_ _
      have HZ6 := hide (HZ.out _ HD5.out)
      have HLX := hide (HLW.out _ HD5.out)
      go_wp2_with (first | (refine wpList_build_parts (by rfl) 24 _ (by rfl) _ (by rfl) _ built_def0 ?_) | (refine wpList_store_box (by rfl) 24 _ _ (by rfl) w.heap.size 0 zdef (by rfl) (by rfl) 24 zdef HZ6.out (by kernel_rfl) (by exact Nat.le_of_ble_eq_true rfl) (by intro u hu; simp [zdef] at hu; rcases hu with rfl | rfl <;> rfl) ?_; intro w20 hb20 hg20; rw [show putAt zdef 0 zdef.toList = zdef from by simp [zdef, putAt]] at hb20))
      refine bodyPost_ret (results_box2 Tryz.results22 _ _ w.heap.size 24 _ _ (by rfl) hb20 Tryz.underlying24 (by rfl) (by kernel_rfl) _ (by rfl)) (by rfl) ?_
      exact ⟨.slice none 0 0, by rw [HRS.out]; rfl, by rw [HRS.out]; exact StepsAt.nil_ _ _, Below.grown HLX.out hg20 HLX.out.size (fun k hk => by have := Option.some.inj hk; omega)⟩
  · have HRS := hide (HQ1.out he)
    have hne : ((er : Int) != 0) = true := by simp; omega
    have HZ6 : Hid (w1.heap[w.heap.size]? = some (.cells zdef 24 (0, 0))) := (Below.block HL1.out w.heap.size HSZ.out).trans HZ0.out
    have HLX : Hid (Later w w1) := Later.trans HB0.out HL1.out
    clear he
    go_wp2_with (first | (refine wpList_build_parts (by rfl) 24 _ (by rfl) _ (by rfl) _ built_def0 ?_) | (refine wpList_store_box (by rfl) 24 _ _ (by rfl) w.heap.size 0 zdef (by rfl) (by rfl) 24 zdef HZ6.out (by kernel_rfl) (by exact Nat.le_of_ble_eq_true rfl) (by intro u hu; simp [zdef] at hu; rcases hu with rfl | rfl <;> rfl) ?_; intro w20 hb20 hg20; rw [show putAt zdef 0 zdef.toList = zdef from by simp [zdef, putAt]] at hb20))
    refine bodyPost_ret (results_box2 Tryz.results22 _ _ w.heap.size 24 _ _ (by rfl) hb20 Tryz.underlying24 (by rfl) (by kernel_rfl) _ (by rfl)) (by rfl) ?_
    exact ⟨.slice none 0 0, by rw [HRS.out]; rfl, by rw [HRS.out]; exact StepsAt.nil_ _ _, Below.grown HLX.out hg20 HLX.out.size (fun k hk => by have := Option.some.inj hk; omega)⟩

set_option maxHeartbeats 4000000 in
set_option maxRecDepth 100000 in
theorem rreadop_any {A : Option Addr} {n c : Nat} {l : List Nat} {w : World} (hl : Holds w w.heap.size A n l) (hn : n ≤ 5000) (hc : n ≤ c) :
    Calls Tryz.prog 20 #[.slice A n c] w fun e w' => ∃ sv, e = .returned (.tuple #[.agg ((readOpQ l).2.cells sv).toArray, .int .i64 ((readOpQ l).1 : Nat)]) ∧ StepsAt (w.heap.size ≤ ·) w' sv (readOpQ l).2.steps ∧ Later w w' := by
  obtain ⟨W0, hW0⟩ : ∃ W0, W0 = w.alloc (.cells zop 26 (0, 0)) := ⟨_, rfl⟩
  have HB0 : Hid (Later w W0) := by rw [hW0]; exact Later.alloc _ _
  have HZ0 : Hid (W0.heap[w.heap.size]? = some (.cells zop 26 (0, 0))) := by rw [hW0]; exact heap_alloc_new _ _
  have HSZ : Hid (w.heap.size < W0.heap.size) := lt_of_block HZ0.out
  have CR := hide (rread_any A n c l _ (hl.later HB0.out) (by omega) hc)
  have HIN0 : Hid (∀ w', Later w w' → Holds w' w'.heap.size A n l) := fun w' h => hl.later h
  have HS := hide hl.2.1
  have hln := hl.1
  have HW0 := hide hW0
  have HQ1 : Hid ((pread l).1 ≠ 0 → readOpQ l = ((pread l).1, .zero)) := fun h => by unfold readOpQ; rw [if_pos h]
  have HQ2 : Hid ((pread l).1 = 0 → ¬ (opB (opQ l) = l ∧ opG (opQ l) = true) → readOpQ l = (4, .zero)) := fun h h2 => by unfold readOpQ; rw [if_neg (by simpa using h), if_neg h2]
  have HQ3 : Hid ((pread l).1 = 0 → opB (opQ l) = l → opG (opQ l) = true → readOpQ l = (0, opQ l)) := fun h h2 h3 => by unfold readOpQ; rw [if_neg (by simpa using h), if_pos ⟨h2, h3⟩]
  clear hl
  go_enter Tryz.func20, Tryz.ntmps20
  go_wp2_with (fail)
  rw [show w.alloc (.cells #[.int .i64 0, .int .i64 0, .int .i64 0, .string ⟨#[]⟩, .slice none 0 0, .int .i64 0, .int .i64 0, .int .i64 0, .bool false, .bool false] 26 (0, 0)) = W0 from HW0.out.symm]
  refine CR.out.mono ?_
  rintro e w1 ⟨A1, n1, c1, fs, rfl, _, _, _, hb1⟩
  have HL1 : Hid (Later W0 w1) := hb1
  clear hb1 CR hW0
  obtain ⟨er, her⟩ : ∃ er, (pread l).1 = er := ⟨_, rfl⟩
  rw [her] at HQ1 HQ2 HQ3 ⊢
  clear her
  by_cases he : er = 0
  · subst he
    go_wp2_with (fail)
    refine (rop_any (HIN0.out _ (Later.trans HB0.out HL1.out)) hn hc).mono ?_
    rintro e w2 ⟨sv, rfl, hst, hl2⟩
    obtain ⟨As, cs, rfl, _, _, _⟩ := FlatAt.shape hst
    obtain ⟨ms, hms⟩ : ∃ ms, (opQ l).steps.length = ms := ⟨_, rfl⟩
    rw [hms] at hst ⊢
    have HMS : Hid (ms = (opQ l).steps.length) := hms.symm
    obtain ⟨B6, hB6⟩ : ∃ B6, w2.heap.size = B6 := ⟨_, rfl⟩
    have HL2 : Hid (Later W0 w2) := HL1.out.trans hl2
    have HZ2 : Hid ((w2.alloc (.cells zop 26 (0, 0))).heap[w2.heap.size]? = some (.cells zop 26 (0, 0))) := heap_alloc_new _ _
    have HB6' := hide hB6
    clear hB6
    go_wp2_with (refine wpList_store_box (by rfl) 26 _ _ (by rfl) w2.heap.size 0 (((opQ l).cells (.slice As ms cs)).toArray) (by rfl) (by rfl) 26 zop HZ2.out (by kernel_rfl) (by exact Nat.le_of_ble_eq_true rfl) ((opQ l).one rfl) ?_; intro w25 hb25 hg25; rw [put_zop] at hb25)
    have hB6 := HB6'.out
    obtain ⟨w3, hw3⟩ : ∃ w3, w3 = w25.drew := ⟨_, rfl⟩
    have HL3 : Hid (Later w2 w3) := by rw [hw3]; exact (Below.grown ((Below.refl _ _).alloc (Nat.le_refl _) _) hg25 (by simp) (fun k hk => by have := Option.some.inj hk; omega)).trans (Below.mono (Later.drew _) (by have := hg25.size; simp at this; omega))
    have HB6 : Hid (w3.heap[B6]? = some (.cells (((opQ l).cells (.slice As ms cs)).toArray) 26 (0, 0))) := by rw [hw3, ← hB6]; exact hb25
    have HBS : Hid (B6 < w3.heap.size) := lt_of_block HB6.out
    have HST : Hid (∀ w', Later w3 w' → StepsAt (fun b => w.heap.size < b) w' (.slice As ms cs) (opQ l).steps) := fun w' h => (hst.kept (Kept.of_below (HL3.out.trans h) _)).mono (fun b _ hb => by have h1 := HL1.out.size; have h2 := HSZ.out; have h3 : w1.heap.size ≤ b := hb; show w.heap.size < b; omega)
    have HIN : Hid (∀ w', Later w3 w' → Holds w' w'.heap.size A n l) := fun w' h => HIN0.out w' (Later.trans HB0.out (Later.trans HL2.out (HL3.out.trans h)))
    have HZ : Hid (∀ w', Later w3 w' → w'.heap[w.heap.size]? = some (.cells zop 26 (0, 0))) := fun w' h => (Below.block (Later.trans HL2.out (HL3.out.trans h)) w.heap.size HSZ.out).trans HZ0.out
    have HLW : Hid (∀ w', Later w3 w' → Later w w') := fun w' h => Later.trans HB0.out (Later.trans HL2.out (HL3.out.trans h))
    have HSM := hide ((opQ_sm HS.out).mono (show l.length ≤ 5000 by omega))
    have HLEN : Hid (5000 ≤ 5000) := Nat.le_refl _
    have HR1 : Hid (proom (defF ((opQ l).defn)) ≤ 1000000) := Nat.le_trans (opQ_def HS.out) (by omega)
    have HR2 : Hid (proom (opF (opQ l)) ≤ 10000000) := Nat.le_trans (opQ_room HS.out) (by omega)
    have HD0 : Hid (Later w3 w3) := Below.refl _ _
    have HW3 := hide hw3
    clear hw3
    clear hst hms hl2 hb25 hg25
    by_cases heq : opB (opQ l) = l
    · have HEQ : Hid (((str (opB (opQ l))).toList == (str l).toList) = true) := by rw [heq]; exact str_beq l
      obtain ⟨g, hg⟩ : ∃ g, opG (opQ l) = g := ⟨_, rfl⟩
      have HGD := hide hg
      have HE2 := hide heq
      clear hg heq
      cases g with
      | true =>
        have HRS := hide (HQ3.out (by trivial) HE2.out HGD.out)
        try rw [hB6]
        refine wp_region_L (by kernel_rfl) ?_
        rw [← HW3.out]
        refine wpAnyL_take (i := 0) (d := some 18) (v := .agg (((opQ l).cells (.slice As ms cs)).toArray)) rfl rfl (by kernel_rfl) (by kernel_rfl) (by kernel_rfl) (fun _ _ _ h => h) (by rfl) ?yaaeg0 ?_
        case yaaeg0 => (intro w' hw'; exact exec_load_box 26 _ (by rfl) B6 0 (by rfl) 26 _ ((Below.block (HD0.out.trans hw') B6 HBS.out).trans HB6.out) 10 _ Tryz.underlying26 (by rfl) (by kernel_rfl) ((opQ l).cells (.slice As ms cs)) (by rfl) (by rfl))
        simp only [Act.put]; try simp only [List.setIfInBounds_toArray]; try simp only [List.set_cons_zero, List.set_cons_succ]
        refine wpAnyL_take (i := 3) (d := some 21) (v := ?vaaeg3) rfl rfl (by kernel_rfl) (by kernel_rfl) (by kernel_rfl) (fun _ _ _ h => h) (by rfl) ?yaaeg3 ?_
        case yaaeg3 => (intro w' hw'; go_simp; try (with_reducible rfl))
        simp only [Act.put]; try simp only [List.setIfInBounds_toArray]; try simp only [List.set_cons_zero, List.set_cons_succ]
        refine wpAnyL_take (i := 4) (d := some 22) (v := .string (str l)) rfl rfl (by kernel_rfl) (by kernel_rfl) (by kernel_rfl) (fun _ _ _ h => h) (by rfl) ?yaaeg4 ?_
        case yaaeg4 => (intro w' hw'; have d1 := run_str w' w'.heap.size A n c l (HIN.out _ (HD0.out.trans hw')); go_simp)
        simp only [Act.put]; try simp only [List.setIfInBounds_toArray]; try simp only [List.set_cons_zero, List.set_cons_succ]
        refine wpAnyL_only (i := 1) rfl (by kernel_rfl) (by rfl) fun K hK => ?_
        go_simp
        refine (ropb_any (HST.out _ HD0.out) HMS.out HSM.out HLEN.out HR1.out HR2.out).mono ?_
        rintro e w5 ⟨A5, n5, c5, rfl, _, hh5, _, hl5⟩
        have HH5 := hide hh5
        have HD5 : Hid (Later w3 w5) := HD0.out.trans hl5
        refine hK.out _ _ hl5 ?_
        clear hh5 hl5
        clear hK K
        try (simp only [Act.put]; try simp only [List.setIfInBounds_toArray]; try simp only [List.set_cons_zero, List.set_cons_succ])
        refine wpAnyL_take (i := 2) (d := some 20) (v := .string (str (opB (opQ l)))) rfl rfl (by kernel_rfl) (by kernel_rfl) (by kernel_rfl) (fun _ _ _ h => h) (by rfl) ?yaaeg2 ?_
        case yaaeg2 => (intro w' hw'; have d1 := run_str w' w'.heap.size A5 n5 c5 (opB (opQ l)) (HH5.out.later hw'); go_simp)
        simp only [Act.put]; try simp only [List.setIfInBounds_toArray]; try simp only [List.set_cons_zero, List.set_cons_succ]
        refine wpAnyL_take (i := 5) (d := some 23) (v := .bool false) rfl rfl (by kernel_rfl) (by kernel_rfl) (by kernel_rfl) (fun _ _ _ h => h) (by rfl) ?yaaeg5 ?_
        case yaaeg5 => (intro w' hw'; have e1 := HEQ.out; go_simp; try (with_reducible rfl))
        simp only [Act.put]; try simp only [List.setIfInBounds_toArray]; try simp only [List.set_cons_zero, List.set_cons_succ]
        refine wpAnyL_take (i := 6) (d := some 24) (v := ?vaaeg6) rfl rfl (by kernel_rfl) (by kernel_rfl) (by kernel_rfl) (fun _ _ _ h => h) (by rfl) ?yaaeg6 ?_
        case yaaeg6 => (intro w' hw'; go_simp; try (with_reducible rfl))
        simp only [Act.put]; try simp only [List.setIfInBounds_toArray]; try simp only [List.set_cons_zero, List.set_cons_succ]
        refine wpAnyL_take (i := 7) (d := some 25) (v := .agg (((opQ l).cells (.slice As ms cs)).toArray)) rfl rfl (by kernel_rfl) (by kernel_rfl) (by kernel_rfl) (fun _ _ _ h => h) (by rfl) ?yaaeg7 ?_
        case yaaeg7 => (intro w' hw'; exact exec_load_box 26 _ (by rfl) B6 0 (by rfl) 26 _ ((Below.block (HD5.out.trans hw') B6 HBS.out).trans HB6.out) 10 _ Tryz.underlying26 (by rfl) (by kernel_rfl) ((opQ l).cells (.slice As ms cs)) (by rfl) (by rfl))
        simp only [Act.put]; try simp only [List.setIfInBounds_toArray]; try simp only [List.set_cons_zero, List.set_cons_succ]
        refine wpAnyL_only (i := 8) rfl (by kernel_rfl) (by rfl) fun K hK => ?_
        go_simp
        have CG := (rgoodop_any (HST.out _ HD5.out) HMS.out)
        rw [HGD.out] at CG
        refine CG.mono ?_
        rintro e w6 ⟨rfl, hl6⟩
        have HD6 : Hid (Later w3 w6) := HD5.out.trans hl6
        refine hK.out _ _ hl6 ?_
        clear hl6 CG
        clear hK K
        try (simp only [Act.put]; try simp only [List.setIfInBounds_toArray]; try simp only [List.set_cons_zero, List.set_cons_succ])
        refine wpAnyL_take (i := 9) (d := some 27) (v := ?vaaeg9) rfl rfl (by kernel_rfl) (by kernel_rfl) (by kernel_rfl) (fun _ _ _ h => h) (by rfl) ?yaaeg9 ?_
        case yaaeg9 => (intro w' hw'; go_simp; try (with_reducible rfl))
        simp only [Act.put]; try simp only [List.setIfInBounds_toArray]; try simp only [List.set_cons_zero, List.set_cons_succ]
        refine wpAnyL_take (i := 10) (d := some 28) (v := ?vaaeg10) rfl rfl (by kernel_rfl) (by kernel_rfl) (by kernel_rfl) (fun _ _ _ h => h) (by rfl) ?yaaeg10 ?_
        case yaaeg10 => (intro w' hw'; go_simp; try (with_reducible rfl))
        simp only [Act.put]; try simp only [List.setIfInBounds_toArray]; try simp only [List.set_cons_zero, List.set_cons_succ]
        refine wpAnyL_done (by kernel_rfl) ?_ _
        have HZ6 := hide (HZ.out _ HD6.out)
        go_wp2_with (first | (refine wpList_load_box (by rfl) 26 _ (by rfl) B6 0 (by rfl) 26 _ ((Below.block HD6.out B6 HBS.out).trans HB6.out) 10 _ Tryz.underlying26 (by rfl) (by kernel_rfl) ((opQ l).cells (.slice As ms cs)) (by rfl) (by rfl) ?_) | (refine wpList_store_box (by rfl) 26 _ _ (by rfl) w.heap.size 0 (((opQ l).cells (.slice As ms cs)).toArray) (by rfl) (by rfl) 26 zop HZ6.out (by kernel_rfl) (by exact Nat.le_of_ble_eq_true rfl) ((opQ l).one rfl) ?_; intro w20 hb20 hg20; rw [put_zop] at hb20))
        refine bodyPost_ret (results_box2 Tryz.results20 _ _ w.heap.size 26 _ _ (by rfl) hb20 Tryz.underlying26 (by rfl) (by kernel_rfl) _ (by rfl)) (by rfl) ?_
        exact ⟨.slice As ms cs, by rw [HRS.out]; rfl, by rw [HRS.out]; exact ((HST.out _ HD6.out).kept (Kept.of_grown hg20 (fun g e h => by have := Option.some.inj e; have h1 : w.heap.size < g := h; omega))).mono (fun b _ h => Nat.le_of_lt h), Below.grown (HLW.out _ HD6.out) hg20 (HLW.out _ HD6.out).size (fun k hk => by have := Option.some.inj hk; omega)⟩
      | false =>
        have HRS := hide (HQ2.out (by trivial) (fun h => by have h1 := h.2; rw [HGD.out] at h1; cases h1))
        try rw [hB6]
        refine wp_region_L (by kernel_rfl) ?_
        rw [← HW3.out]
        refine wpAnyL_take (i := 0) (d := some 18) (v := .agg (((opQ l).cells (.slice As ms cs)).toArray)) rfl rfl (by kernel_rfl) (by kernel_rfl) (by kernel_rfl) (fun _ _ _ h => h) (by rfl) ?yaaeb0 ?_
        case yaaeb0 => (intro w' hw'; exact exec_load_box 26 _ (by rfl) B6 0 (by rfl) 26 _ ((Below.block (HD0.out.trans hw') B6 HBS.out).trans HB6.out) 10 _ Tryz.underlying26 (by rfl) (by kernel_rfl) ((opQ l).cells (.slice As ms cs)) (by rfl) (by rfl))
        simp only [Act.put]; try simp only [List.setIfInBounds_toArray]; try simp only [List.set_cons_zero, List.set_cons_succ]
        refine wpAnyL_take (i := 3) (d := some 21) (v := ?vaaeb3) rfl rfl (by kernel_rfl) (by kernel_rfl) (by kernel_rfl) (fun _ _ _ h => h) (by rfl) ?yaaeb3 ?_
        case yaaeb3 => (intro w' hw'; go_simp; try (with_reducible rfl))
        simp only [Act.put]; try simp only [List.setIfInBounds_toArray]; try simp only [List.set_cons_zero, List.set_cons_succ]
        refine wpAnyL_take (i := 4) (d := some 22) (v := .string (str l)) rfl rfl (by kernel_rfl) (by kernel_rfl) (by kernel_rfl) (fun _ _ _ h => h) (by rfl) ?yaaeb4 ?_
        case yaaeb4 => (intro w' hw'; have d1 := run_str w' w'.heap.size A n c l (HIN.out _ (HD0.out.trans hw')); go_simp)
        simp only [Act.put]; try simp only [List.setIfInBounds_toArray]; try simp only [List.set_cons_zero, List.set_cons_succ]
        refine wpAnyL_only (i := 1) rfl (by kernel_rfl) (by rfl) fun K hK => ?_
        go_simp
        refine (ropb_any (HST.out _ HD0.out) HMS.out HSM.out HLEN.out HR1.out HR2.out).mono ?_
        rintro e w5 ⟨A5, n5, c5, rfl, _, hh5, _, hl5⟩
        have HH5 := hide hh5
        have HD5 : Hid (Later w3 w5) := HD0.out.trans hl5
        refine hK.out _ _ hl5 ?_
        clear hh5 hl5
        clear hK K
        try (simp only [Act.put]; try simp only [List.setIfInBounds_toArray]; try simp only [List.set_cons_zero, List.set_cons_succ])
        refine wpAnyL_take (i := 2) (d := some 20) (v := .string (str (opB (opQ l)))) rfl rfl (by kernel_rfl) (by kernel_rfl) (by kernel_rfl) (fun _ _ _ h => h) (by rfl) ?yaaeb2 ?_
        case yaaeb2 => (intro w' hw'; have d1 := run_str w' w'.heap.size A5 n5 c5 (opB (opQ l)) (HH5.out.later hw'); go_simp)
        simp only [Act.put]; try simp only [List.setIfInBounds_toArray]; try simp only [List.set_cons_zero, List.set_cons_succ]
        refine wpAnyL_take (i := 5) (d := some 23) (v := .bool false) rfl rfl (by kernel_rfl) (by kernel_rfl) (by kernel_rfl) (fun _ _ _ h => h) (by rfl) ?yaaeb5 ?_
        case yaaeb5 => (intro w' hw'; have e1 := HEQ.out; go_simp; try (with_reducible rfl))
        simp only [Act.put]; try simp only [List.setIfInBounds_toArray]; try simp only [List.set_cons_zero, List.set_cons_succ]
        refine wpAnyL_take (i := 6) (d := some 24) (v := ?vaaeb6) rfl rfl (by kernel_rfl) (by kernel_rfl) (by kernel_rfl) (fun _ _ _ h => h) (by rfl) ?yaaeb6 ?_
        case yaaeb6 => (intro w' hw'; go_simp; try (with_reducible rfl))
        simp only [Act.put]; try simp only [List.setIfInBounds_toArray]; try simp only [List.set_cons_zero, List.set_cons_succ]
        refine wpAnyL_take (i := 7) (d := some 25) (v := .agg (((opQ l).cells (.slice As ms cs)).toArray)) rfl rfl (by kernel_rfl) (by kernel_rfl) (by kernel_rfl) (fun _ _ _ h => h) (by rfl) ?yaaeb7 ?_
        case yaaeb7 => (intro w' hw'; exact exec_load_box 26 _ (by rfl) B6 0 (by rfl) 26 _ ((Below.block (HD5.out.trans hw') B6 HBS.out).trans HB6.out) 10 _ Tryz.underlying26 (by rfl) (by kernel_rfl) ((opQ l).cells (.slice As ms cs)) (by rfl) (by rfl))
        simp only [Act.put]; try simp only [List.setIfInBounds_toArray]; try simp only [List.set_cons_zero, List.set_cons_succ]
        refine wpAnyL_only (i := 8) rfl (by kernel_rfl) (by rfl) fun K hK => ?_
        go_simp
        have CG := (rgoodop_any (HST.out _ HD5.out) HMS.out)
        rw [HGD.out] at CG
        refine CG.mono ?_
        rintro e w6 ⟨rfl, hl6⟩
        have HD6 : Hid (Later w3 w6) := HD5.out.trans hl6
        refine hK.out _ _ hl6 ?_
        clear hl6 CG
        clear hK K
        try (simp only [Act.put]; try simp only [List.setIfInBounds_toArray]; try simp only [List.set_cons_zero, List.set_cons_succ])
        refine wpAnyL_take (i := 9) (d := some 27) (v := ?vaaeb9) rfl rfl (by kernel_rfl) (by kernel_rfl) (by kernel_rfl) (fun _ _ _ h => h) (by rfl) ?yaaeb9 ?_
        case yaaeb9 => (intro w' hw'; go_simp; try (with_reducible rfl))
        simp only [Act.put]; try simp only [List.setIfInBounds_toArray]; try simp only [List.set_cons_zero, List.set_cons_succ]
        refine wpAnyL_take (i := 10) (d := some 28) (v := ?vaaeb10) rfl rfl (by kernel_rfl) (by kernel_rfl) (by kernel_rfl) (fun _ _ _ h => h) (by rfl) ?yaaeb10 ?_
        case yaaeb10 => (intro w' hw'; go_simp; try (with_reducible rfl))
        simp only [Act.put]; try simp only [List.setIfInBounds_toArray]; try simp only [List.set_cons_zero, List.set_cons_succ]
        refine wpAnyL_done (by kernel_rfl) ?_ _
        have HZ6 := hide (HZ.out _ HD6.out)
        have HLX := hide (HLW.out _ HD6.out)
        go_wp2_with (first | (refine wpList_build_parts (by rfl) 26 _ (by rfl) _ (by rfl) _ built_op0 ?_) | (refine wpList_store_box (by rfl) 26 _ _ (by rfl) w.heap.size 0 zop (by rfl) (by rfl) 26 zop HZ6.out (by kernel_rfl) (by exact Nat.le_of_ble_eq_true rfl) (by intro u hu; simp [zop, OpD.cells, OpD.zero] at hu; rcases hu with rfl | rfl | rfl | rfl | rfl | rfl | rfl | rfl | rfl | rfl <;> rfl) ?_; intro w20 hb20 hg20; rw [show putAt zop 0 zop.toList = zop from by simp [zop, putAt, OpD.cells, OpD.zero]] at hb20))
        refine bodyPost_ret (results_box2 Tryz.results20 _ _ w.heap.size 26 _ _ (by rfl) hb20 Tryz.underlying26 (by rfl) (by kernel_rfl) _ (by rfl)) (by rfl) ?_
        exact ⟨.slice none 0 0, by rw [HRS.out]; rfl, by rw [HRS.out]; exact StepsAt.nil_ _ _, Below.grown HLX.out hg20 HLX.out.size (fun k hk => by have := Option.some.inj hk; omega)⟩
    · have HEQ : Hid (((str (opB (opQ l))).toList == (str l).toList) = false) := str_bne (opB_small ((opQ_sm HS.out).mono (show l.length ≤ 5000 by omega)) (Nat.le_refl _)) HS.out heq
      have HRS := hide (HQ2.out (by trivial) (fun h => heq h.1))
      clear heq
      try rw [hB6]
      refine wp_region_L (by kernel_rfl) ?_
      rw [← HW3.out]
      refine wpAnyL_take (i := 0) (d := some 18) (v := .agg (((opQ l).cells (.slice As ms cs)).toArray)) rfl rfl (by kernel_rfl) (by kernel_rfl) (by kernel_rfl) (fun _ _ _ h => h) (by rfl) ?yaanb0 ?_
      case yaanb0 => (intro w' hw'; exact exec_load_box 26 _ (by rfl) B6 0 (by rfl) 26 _ ((Below.block (HD0.out.trans hw') B6 HBS.out).trans HB6.out) 10 _ Tryz.underlying26 (by rfl) (by kernel_rfl) ((opQ l).cells (.slice As ms cs)) (by rfl) (by rfl))
      simp only [Act.put]; try simp only [List.setIfInBounds_toArray]; try simp only [List.set_cons_zero, List.set_cons_succ]
      refine wpAnyL_take (i := 3) (d := some 21) (v := ?vaanb3) rfl rfl (by kernel_rfl) (by kernel_rfl) (by kernel_rfl) (fun _ _ _ h => h) (by rfl) ?yaanb3 ?_
      case yaanb3 => (intro w' hw'; go_simp; try (with_reducible rfl))
      simp only [Act.put]; try simp only [List.setIfInBounds_toArray]; try simp only [List.set_cons_zero, List.set_cons_succ]
      refine wpAnyL_take (i := 4) (d := some 22) (v := .string (str l)) rfl rfl (by kernel_rfl) (by kernel_rfl) (by kernel_rfl) (fun _ _ _ h => h) (by rfl) ?yaanb4 ?_
      case yaanb4 => (intro w' hw'; have d1 := run_str w' w'.heap.size A n c l (HIN.out _ (HD0.out.trans hw')); go_simp)
      simp only [Act.put]; try simp only [List.setIfInBounds_toArray]; try simp only [List.set_cons_zero, List.set_cons_succ]
      refine wpAnyL_only (i := 1) rfl (by kernel_rfl) (by rfl) fun K hK => ?_
      go_simp
      refine (ropb_any (HST.out _ HD0.out) HMS.out HSM.out HLEN.out HR1.out HR2.out).mono ?_
      rintro e w5 ⟨A5, n5, c5, rfl, _, hh5, _, hl5⟩
      have HH5 := hide hh5
      have HD5 : Hid (Later w3 w5) := HD0.out.trans hl5
      refine hK.out _ _ hl5 ?_
      clear hh5 hl5
      clear hK K
      try (simp only [Act.put]; try simp only [List.setIfInBounds_toArray]; try simp only [List.set_cons_zero, List.set_cons_succ])
      refine wpAnyL_take (i := 2) (d := some 20) (v := .string (str (opB (opQ l)))) rfl rfl (by kernel_rfl) (by kernel_rfl) (by kernel_rfl) (fun _ _ _ h => h) (by rfl) ?yaanb2 ?_
      case yaanb2 => (intro w' hw'; have d1 := run_str w' w'.heap.size A5 n5 c5 (opB (opQ l)) (HH5.out.later hw'); go_simp)
      simp only [Act.put]; try simp only [List.setIfInBounds_toArray]; try simp only [List.set_cons_zero, List.set_cons_succ]
      refine wpAnyL_take (i := 5) (d := some 23) (v := .bool true) rfl rfl (by kernel_rfl) (by kernel_rfl) (by kernel_rfl) (fun _ _ _ h => h) (by rfl) ?yaanb5 ?_
      case yaanb5 => (intro w' hw'; have e1 := HEQ.out; go_simp; try (with_reducible rfl))
      simp only [Act.put]; try simp only [List.setIfInBounds_toArray]; try simp only [List.set_cons_zero, List.set_cons_succ]
      refine wpAnyL_take (i := 6) (d := some 24) (v := ?vaanb6) rfl rfl (by kernel_rfl) (by kernel_rfl) (by kernel_rfl) (fun _ _ _ h => h) (by rfl) ?yaanb6 ?_
      case yaanb6 => (intro w' hw'; go_simp; try (with_reducible rfl))
      simp only [Act.put]; try simp only [List.setIfInBounds_toArray]; try simp only [List.set_cons_zero, List.set_cons_succ]
      refine wpAnyL_pass (i := 7) (d := some 25) rfl rfl (by kernel_rfl) (by kernel_rfl) (by kernel_rfl) (fun _ _ _ h => h) (by rfl) ?_
      try (simp only [Act.put]; try simp only [List.setIfInBounds_toArray]; try simp only [List.set_cons_zero, List.set_cons_succ])
      refine wpAnyL_pass (i := 8) (d := some 26) rfl rfl (by kernel_rfl) (by kernel_rfl) (by kernel_rfl) (fun _ _ _ h => h) (by rfl) ?_
      try (simp only [Act.put]; try simp only [List.setIfInBounds_toArray]; try simp only [List.set_cons_zero, List.set_cons_succ])
      refine wpAnyL_pass (i := 9) (d := some 27) rfl rfl (by kernel_rfl) (by kernel_rfl) (by kernel_rfl) (fun _ _ _ h => h) (by rfl) ?_
      try (simp only [Act.put]; try simp only [List.setIfInBounds_toArray]; try simp only [List.set_cons_zero, List.set_cons_succ])
      refine wpAnyL_take (i := 10) (d := some 28) (v := ?vaanb10) rfl rfl (by kernel_rfl) (by kernel_rfl) (by kernel_rfl) (fun _ _ _ h => h) (by rfl) ?yaanb10 ?_
      case yaanb10 => (intro w' hw'; go_simp; try (with_reducible rfl))
      simp only [Act.put]; try simp only [List.setIfInBounds_toArray]; try simp only [List.set_cons_zero, List.set_cons_succ]
      refine wpAnyL_done (by kernel_rfl) ?_ _
      have HZ6 := hide (HZ.out _ HD5.out)
      have HLX := hide (HLW.out _ HD5.out)
      go_wp2_with (first | (refine wpList_build_parts (by rfl) 26 _ (by rfl) _ (by rfl) _ built_op0 ?_) | (refine wpList_store_box (by rfl) 26 _ _ (by rfl) w.heap.size 0 zop (by rfl) (by rfl) 26 zop HZ6.out (by kernel_rfl) (by exact Nat.le_of_ble_eq_true rfl) (by intro u hu; simp [zop, OpD.cells, OpD.zero] at hu; rcases hu with rfl | rfl | rfl | rfl | rfl | rfl | rfl | rfl | rfl | rfl <;> rfl) ?_; intro w20 hb20 hg20; rw [show putAt zop 0 zop.toList = zop from by simp [zop, putAt, OpD.cells, OpD.zero]] at hb20))
      refine bodyPost_ret (results_box2 Tryz.results20 _ _ w.heap.size 26 _ _ (by rfl) hb20 Tryz.underlying26 (by rfl) (by kernel_rfl) _ (by rfl)) (by rfl) ?_
      exact ⟨.slice none 0 0, by rw [HRS.out]; rfl, by rw [HRS.out]; exact StepsAt.nil_ _ _, Below.grown HLX.out hg20 HLX.out.size (fun k hk => by have := Option.some.inj hk; omega)⟩
  · have HRS := hide (HQ1.out he)
    have hne : ((er : Int) != 0) = true := by simp; omega
    have HZ6 : Hid (w1.heap[w.heap.size]? = some (.cells zop 26 (0, 0))) := (Below.block HL1.out w.heap.size HSZ.out).trans HZ0.out
    have HLX : Hid (Later w w1) := Later.trans HB0.out HL1.out
    clear he
    go_wp2_with (first | (refine wpList_build_parts (by rfl) 26 _ (by rfl) _ (by rfl) _ built_op0 ?_) | (refine wpList_store_box (by rfl) 26 _ _ (by rfl) w.heap.size 0 zop (by rfl) (by rfl) 26 zop HZ6.out (by kernel_rfl) (by exact Nat.le_of_ble_eq_true rfl) (by intro u hu; simp [zop, OpD.cells, OpD.zero] at hu; rcases hu with rfl | rfl | rfl | rfl | rfl | rfl | rfl | rfl | rfl | rfl <;> rfl) ?_; intro w20 hb20 hg20; rw [show putAt zop 0 zop.toList = zop from by simp [zop, putAt, OpD.cells, OpD.zero]] at hb20))
    refine bodyPost_ret (results_box2 Tryz.results20 _ _ w.heap.size 26 _ _ (by rfl) hb20 Tryz.underlying26 (by rfl) (by kernel_rfl) _ (by rfl)) (by rfl) ?_
    exact ⟨.slice none 0 0, by rw [HRS.out]; rfl, by rw [HRS.out]; exact StepsAt.nil_ _ _, Below.grown HLX.out hg20 HLX.out.size (fun k hk => by have := Option.some.inj hk; omega)⟩
end Go.Proofs.YtehiaeihkdfclaaGreatDoor
/- The walks over droverref02's Sum, four, Seal. -/
namespace Go.Proofs.YtehiaeihkdfclaaGreatDoor
open Go.RowKit

/-- Bit by bit: behind i bits of x the sum stands so. -/
def stN : Nat → Nat → Nat
  | 0, s => s
  | i + 1, s => st (stN i s)
theorem stN_8 (s : Nat) : stN 8 s = st8 s := rfl
def BitAt (s x i r : Nat) : Prop := i ≤ 8 ∧ r < 4294967296 ∧ x < 256 ∧ stN i (s ^^^ x) = r ^^^ x / 2 ^ i
theorem bitAt_start {s x : Nat} (hs : s < 4294967296) (hx : x < 256) : BitAt s x 0 s := ⟨by omega, hs, hx, by simp [stN]⟩
theorem BitAt.small {s x i r : Nat} (h : BitAt s x i r) : i ≤ 8 ∧ r < 4294967296 ∧ x < 256 := ⟨h.1, h.2.1, h.2.2.1⟩
theorem BitAt.all {s x i r : Nat} (h : BitAt s x i r) (hi : ¬ i < 8) : st8 (s ^^^ x) = r := by
  have e : i = 8 := by have := h.1; omega
  have h2 := h.2.2.2
  have : x / 2 ^ 8 = 0 := by have := h.2.2.1; omega
  rw [e, this, Nat.xor_zero] at h2
  exact h2
theorem st_split (r y : Nat) : st (r ^^^ y) = (if r % 2 ^^^ y % 2 = 1 then r / 2 ^^^ 3988292384 else r / 2) ^^^ y / 2 := by
  apply Nat.eq_of_testBit_eq
  intro i
  have hb (a : Nat) : a % 2 = (a.testBit 0).toNat := by rw [Nat.testBit_zero]; rcases Nat.mod_two_eq_zero_or_one a with h | h <;> simp [h]
  rw [st_bit, hb r, hb y, Nat.testBit_xor, Nat.testBit_xor]
  have h1 : r.testBit (i + 1) = (r / 2).testBit i := Nat.testBit_succ _ _
  have h2 : y.testBit (i + 1) = (y / 2).testBit i := Nat.testBit_succ _ _
  cases r.testBit 0 <;> cases y.testBit 0 <;> simp [Nat.testBit_xor, h1, h2] <;> cases (r / 2).testBit i <;> cases (y / 2).testBit i <;> cases Nat.testBit 3988292384 i <;> rfl
theorem BitAt.next {s x i r b : Nat} (h : BitAt s x i r) (hi : i < 8) (hb : b = r % 2 ^^^ x / 2 ^ i % 2) : BitAt s x (i + 1) (if b = 1 then r / 2 ^^^ 3988292384 else r / 2) := by
  have hr := h.2.1
  refine ⟨hi, ?_, h.2.2.1, ?_⟩
  · split
    · exact Nat.xor_lt_two_pow (n := 32) (by omega) (by omega)
    · omega
  · show st (stN i (s ^^^ x)) = _
    rw [h.2.2.2, st_split, ← hb, Nat.div_div_eq_div_mul, ← Nat.pow_succ]
theorem u32_and1 (s : Nat) (h : s < 4294967296) : bits .and .u32 (s : Int) 1 = ((s % 2 : Nat) : Int) := by
  have := u32_and_nat s 1 h (by omega)
  rw [nat_mask1] at this
  exact this

set_option maxHeartbeats 1000000 in
set_option maxRecDepth 100000 in
theorem refsum_any (A : Option Addr) (n c B : Nat) (l : List Nat) (w : World) (hl : Holds w B A n l) (hn : n ≤ 1099511627000) :
    Calls Tryz.prog 75 #[.slice A n c] w fun e w' => e = .returned (.int .u32 (sum l : Nat)) ∧ w = w' := by
  have S0 : SumAt l n 0 4294967295 := ⟨Nat.zero_le _, hl.1, hl.2.1, rfl⟩
  go_enter Tryz.func75, Tryz.ntmps75
  go_wp2
  go_loop [3, 10] (fun vs vk => ∃ k s : Nat, SumAt l n k s ∧ vk = .int .i64 k ∧ vs = .int .u32 s) (fun _ vk => n - (intOf vk).toNat)
  case atStart => exact ⟨0, 4294967295, S0, rfl, rfl⟩
  case round =>
    obtain ⟨k, s, hat, rfl, rfl⟩ := hrel
    have hk := hat.le
    have hs := hat.small
    have Hat := hide hat
    clear hat
    by_cases h : k < n
    · have hx := Hat.out.byte h
      obtain ⟨b, off, rfl, _, hcs⟩ := hl.2.2 (by omega)
      have hc := hcs k h
      clear hcs
      have hnext := Hat.out.next h
      generalize l.getD k 0 = x at hx hc hnext
      have Hnext := hide hnext
      have hb0 := bitAt_start hs hx
      clear hnext
      go_wp2
      go_loop [3, 6] (fun vs vi => ∃ i r : Nat, BitAt s x i r ∧ vi = .int .i64 i ∧ vs = .int .u32 r) (fun _ vi => 8 - (intOf vi).toNat)
      case atStart => exact ⟨0, s, hb0, rfl, rfl⟩
      case round =>
        obtain ⟨i, r, bat, rfl, rfl⟩ := hrel
        obtain ⟨hi8, hr, _⟩ := bat.small
        have Bat := hide bat
        clear bat hb0
        by_cases h8 : i < 8
        · obtain ⟨p, hp⟩ : ∃ p, p = x / 2 ^ i := ⟨_, rfl⟩
          obtain ⟨b, hb⟩ : ∃ b, b = r % 2 ^^^ p % 2 := ⟨_, rfl⟩
          have hbn := Bat.out.next h8 (b := b) (by rw [hb, hp])
          have hp256 : p < 256 := by rw [hp]; exact Nat.lt_of_le_of_lt (Nat.div_le_self _ _) hx
          have e1 : (x : Int) / 2 ^ i = (p : Int) := by rw [hp]; push_cast; rfl
          have e4 : bits .xor .u32 (bits .and .u32 (r : Int) 1) (bits .and .u32 (p : Int) 1) = (b : Int) := by
            rw [u32_and1 r hr, u32_and1 p (by omega), hb]
            exact u32_xor_nat (r % 2) (p % 2) (by omega) (by omega)
          have Hb := hide hb
          have Hp := hide hp
          have Hbn := hide hbn
          clear hb hp hbn
          by_cases h1 : b = 1
          · have hr2 := Hbn.out
            rw [if_pos h1] at hr2
            have e5 : bits .xor .u32 ((r : Int) / 2) 3988292384 = ((r / 2 ^^^ 3988292384 : Nat) : Int) := u32_xor_nat (r / 2) 3988292384 (by omega) (by omega)
            have Hr2 := hide hr2
            clear hr2
            generalize r / 2 ^^^ 3988292384 = r2 at e5 Hr2
            have h1' : ((b : Int) == 1) = true := by simp; omega
            go_wp2
            go_round
            case rel => exact ⟨i + 1, r2, Hr2.out, by go_num, rfl⟩
            case measure => simp [intOf]; omega
          · have hr2 := Hbn.out
            rw [if_neg h1] at hr2
            have Hr2 := hide hr2
            clear hr2
            have h1' : ((b : Int) == 1) = false := by simp; omega
            go_wp2
            go_round
            case rel => exact ⟨i + 1, r / 2, Hr2.out, by go_num, by go_num⟩
            case measure => simp [intOf]; omega
        · have hall := hide (Bat.out.all h8)
          go_wp2
          go_round
          case rel => exact ⟨k + 1, _, Hnext.out, by go_num, by rw [hall.out]⟩
          case measure => simp [intOf]; omega
    · have hsum : sum l = s ^^^ 4294967295 := by rw [Hat.out.all h]; rfl
      have e1 : bits .xor .u32 (s : Int) 4294967295 = ((sum l : Nat) : Int) := by
        rw [hsum]
        exact u32_xor_nat s 4294967295 hs (by omega)
      go_wp2
      go_ret
      exact ⟨rfl, rfl⟩

theorem four_any (S : Nat) (w : World) (hS : S < 4294967296) :
    Calls Tryz.prog 74 #[.int .u32 S] w (NewBytes w (four S)) := by
  have HS := hide hS
  clear hS
  obtain ⟨a, ha⟩ : ∃ a, a = S % 256 := ⟨_, rfl⟩
  obtain ⟨b, hb⟩ : ∃ b, b = S / 256 % 256 := ⟨_, rfl⟩
  obtain ⟨c, hc⟩ : ∃ c, c = S / 65536 % 256 := ⟨_, rfl⟩
  obtain ⟨d, hd⟩ : ∃ d, d = S / 16777216 % 256 := ⟨_, rfl⟩
  have e1 : (S : Int) % 256 = (a : Int) := by omega
  have e2 : (S : Int) / 256 % 256 = (b : Int) := by omega
  have e3 : (S : Int) / 65536 % 256 = (c : Int) := by omega
  have e4 : (S : Int) / 16777216 % 256 = (d : Int) := by omega
  have hf : four S = [a, b, c, d] := by rw [ha, hb, hc, hd]; rfl
  have hsm : ∀ x ∈ four S, x < 256 := four_small S
  rw [hf] at hsm ⊢
  have Hf := hide hf
  have Hsm := hide hsm
  have Ha := hide ha
  have Hb := hide hb
  have Hc := hide hc
  have Hd := hide hd
  clear hf hsm ha hb hc hd
  go_enter Tryz.func74, Tryz.ntmps74
  go_wp2
  go_ret
  refine newBytes_of (n := 4) ?_ Hsm.out ((Below.refl _ _).alloc (Nat.le_refl _) _)
  exact World.ownsRow_lit (size := 1) w (bvs [a, b, c, d]).toArray 4 (Nat.le_refl _) (by simp [maxLen]) rfl

set_option maxHeartbeats 1000000 in
set_option maxRecDepth 100000 in
theorem refseal_any (A : Option Addr) (n c B : Nat) (l : List Nat) (w : World) (hl : Holds w B A n l) (hB : B ≤ w.heap.size) (hn : n ≤ 9223372036854775807) :
    Calls Tryz.prog 33 #[.slice A n c] w (NewBytes w (sealed l)) := by
  have hlen := hl.1
  have hsm := hide (sealed_small hl.2.1)
  have Hl := hide hl
  clear hl
  by_cases hbig : 65536 < n
  · have e : sealed l = [] := by unfold sealed; rw [if_pos (by omega)]
    rw [e]
    have He := hide e
    clear e hlen
    go_enter Tryz.func33, Tryz.ntmps33
    go_wp2
    go_ret
    exact newBytes_nil w
  · have hp : sealP l = [3] ++ enc n ++ l := by simp [sealP, hlen]
    have e : sealed l = ([3] ++ enc n ++ l) ++ four (sum ([3] ++ enc n ++ l)) := by
      unfold sealed
      rw [if_neg (by omega), hp]
    have hsm2 := hide (sealP_small Hl.out.2.1)
    rw [hp] at hsm2
    obtain ⟨R, hR⟩ : ∃ R, R = sealed l := ⟨_, rfl⟩
    obtain ⟨q, hq⟩ : ∃ q, q = sum ([3] ++ enc n ++ l) := ⟨_, rfl⟩
    have hq32 : q < 4294967296 := by rw [hq]; exact sum_lt hsm2.out
    rw [← hR] at hsm ⊢
    rw [← hR, ← hq] at e
    have He := hide e
    have Hq := hide hq
    have Hlen := hide hlen
    have hel := (enc_len n).2
    clear e hlen hp hR hq
    obtain ⟨i0, hi, hz0, hz1, hz2⟩ := info_parts Tryz.infoU8
    go_enter Tryz.func33, Tryz.ntmps33
    go_wp2_with (fail)
    refine (refuint_any (some ⟨w.heap.size, 0, none⟩) 1 1 n [3] (w.heap.size + 1) _ (by omega) (by omega) (byte_holds w 3 (by omega) _) (by simp)).mono ?_
    rintro e w1 ⟨A1, n1, c1, rfl, o1, h1, _, b1⟩
    have hn1 : n1 = 1 + (enc n).length := by have := h1.1; simp at this; omega
    subst hn1
    have ba : Below w.heap.size w (w.alloc (.cells #[.int .u8 ((3 : Nat) : Int)] 5)) := (Below.refl _ _).alloc (Nat.le_refl _) _
    have L1 := hide (ba.trans (b1.mono (by simp)))
    have S1 : w.heap.size + 1 ≤ w1.heap.size := by simpa using b1.size
    have o1' := own_base (base' := w.heap.size) o1 (by simp)
    clear o1 b1 ba h1
    go_wp2_with (at_builtin; refine wpList_append_bytes _ rfl (.tmp 11) (.tmp 12) 38 rfl w.heap.size 5 i0 (.int .u8 0) Tryz.underlying38 hi hz0 hz1 hz2 rfl _ (1 + (enc n).length) ([3] ++ enc n |> bvs) rfl o1' B A n c l rfl (Hl.out.below (L1.out.mono hB)) (by omega) (by omega) ?_; intro v2 w2 o2 g2)
    have o2' : w2.ownsRow w.heap.size 5 1 v2 (1 + (enc n).length + n) (bvs ([3] ++ enc n ++ l)) := by
      rw [bvs_append]
      exact o2
    have b2 := g2.below o1' (by omega)
    have L2 := hide (L1.out.trans b2)
    have S2 := L2.out.size
    obtain ⟨A2, c2, rfl, hc2, _, h2⟩ := Holds.of_own o2' hsm2.out
    have H2 := hide h2
    have O2 := hide o2'
    clear o1' o2 g2 b2 o2' h2
    refine (refsum_any A2 _ c2 _ _ w2 H2.out (by omega)).mono ?_
    rintro e w3 ⟨rfl, rfl⟩
    rw [← Hq.out]
    go_wp2_with (fail)
    refine (four_any q w2 hq32).mono ?_
    rintro e w3 ⟨A3, n3, c3, rfl, _, h3, _, b3⟩
    obtain rfl : n3 = 4 := h3.1.symm.trans (four_len q)
    have o3 := own_below O2.out b3
    have S3 : w.heap.size ≤ w3.heap.size := Nat.le_trans S2 b3.size
    have L3 := hide (L2.out.trans (b3.mono S2))
    have H3 := hide h3
    clear b3 h3
    go_wp2_with (at_builtin; refine wpList_append_bytes _ rfl (.tmp 14) (.tmp 17) 38 rfl w.heap.size 5 i0 (.int .u8 0) Tryz.underlying38 hi hz0 hz1 hz2 rfl _ (1 + (enc n).length + n) _ rfl o3 _ A3 4 c3 _ rfl H3.out (by omega) S3 ?_; intro v4 w4 o4 g4)
    have o5 : w4.ownsRow w.heap.size 5 1 v4 (1 + (enc n).length + n + 4) (bvs R) := by
      rw [He.out, bvs_append]
      exact o4
    have L4 := hide (L3.out.trans (g4.below o3 S3))
    have O5 := hide o5
    clear o4 g4 o5 o3
    go_ret
    exact newBytes_of O5.out hsm.out L4.out
end Go.Proofs.YtehiaeihkdfclaaGreatDoor
/- The walk over droverref02.Open: the content of an envelope, as the document opens it. -/
namespace Go.Proofs.YtehiaeihkdfclaaGreatDoor
open Go.RowKit

theorem high_open (l : List Nat) : high l = openB l := by unfold high openB; rw [Bool.and_comm]
section
variable {l : List Nat} {V k e : Nat}
theorem qcnt_3 (h : num l 0 0 = (V, 0, e)) (ho : openB l = true) : cnt l = (0, 0, 3) := by
  unfold cnt
  rw [h, high_open, if_pos ⟨rfl, ho⟩]
theorem qcnt_4 (h : num l 0 0 = (V, 0, e)) (ho : openB l = false) : cnt l = (0, 0, 4) := by
  unfold cnt
  rw [h, high_open, if_neg (by simp [ho]), if_pos (.inl rfl)]
theorem qcnt_5 (h : num l 0 0 = (V, k, e)) (hk : k ≠ 0) (hv : 65536 < V) : cnt l = (0, 0, 4) := by
  unfold cnt
  rw [h, if_neg (fun h => hk h.1), if_pos (.inr hv)]
theorem qcnt_6 (h : num l 0 0 = (V, k, e)) (hk : k ≠ 0) (hv : ¬ 65536 < V) : cnt l = (V, k, 0) := by
  unfold cnt
  rw [h, if_neg (fun h => hk h.1), if_neg (by rintro (h | h); exact hk h; exact hv h)]
theorem qbnd_1 (h : l.length = 0) : bnd l = (0, 0, 3) := by unfold bnd; rw [if_pos h]
theorem qbnd_2 (h : ¬ l.length = 0) (h2 : l.getD 0 0 ≠ 3) : bnd l = (0, 0, 5) := by unfold bnd; rw [if_neg h, if_pos h2]
theorem qbnd_3 (h : ¬ l.length = 0) (h2 : ¬ l.getD 0 0 ≠ 3) (h3 : cnt (l.drop 1) = (0, 0, e)) (he : e ≠ 0) : bnd l = (0, 0, e) := by unfold bnd; rw [if_neg h, if_neg h2, h3, if_pos he]
theorem qbnd_4 (h : ¬ l.length = 0) (h2 : ¬ l.getD 0 0 ≠ 3) (h3 : cnt (l.drop 1) = (V, k, 0)) (h4 : l.length < 1 + k + (V + 4)) : bnd l = (0, 0, 3) := by unfold bnd; rw [if_neg h, if_neg h2, h3, if_neg (by simp), if_pos h4]
theorem qbnd_5 (h : ¬ l.length = 0) (h2 : ¬ l.getD 0 0 ≠ 3) (h3 : cnt (l.drop 1) = (V, k, 0)) (h4 : ¬ l.length < 1 + k + (V + 4)) : bnd l = (1 + k, 1 + k + V, 0) := by unfold bnd; rw [if_neg h, if_neg h2, h3, if_neg (by simp), if_neg h4]
end
theorem open_bad {w w' : World} {l : List Nat} {e : Nat} (h : opn l = ([], 0, e)) (hl : Later w w') : OpenIs w l (.returned (.tuple #[.slice none 0 0, .int .i64 0, .int .i64 (e : Int)])) w' :=
  ⟨none, 0, 0, by rw [h]; rfl, by rw [h]; exact Holds.nil_ _ _, Nat.le_refl _, hl⟩
theorem rgetuint_is (A : Option Addr) (n c B : Nat) (l : List Nat) (V k e : Nat) (w : World) (hl : Holds w B A n l) (hn : n ≤ 1099511627000) (h : num l 0 0 = (V, k, e)) :
    Calls Tryz.prog 87 #[.slice A n c] w fun e w' => e = .returned (.tuple #[.int .u64 V, .int .i64 k]) ∧ w = w' :=
  (refgetuint_any A n c B l w hl hn).mono fun _ _ ⟨he, hw⟩ => ⟨by rw [he, h], hw⟩

set_option maxHeartbeats 4000000 in
set_option maxRecDepth 100000 in
theorem ropenq_any (A : Option Addr) (n c : Nat) (l : List Nat) (w : World) (hl : Holds w w.heap.size A n l) (hn : n ≤ 1000000) (hc : n ≤ c) :
    Calls Tryz.prog 46 #[.slice A n c] w (OpenIs w l) := by
  obtain ⟨j0, hj, hy0, hy1, hy2⟩ := info_parts Tryz.infoU8
  have HL := hide hl
  have hlen := hl.1
  have HS := hide hl.2.1
  by_cases h0 : n = 0
  · have hr := hide (opn_1 (qbnd_1 (l := l) (by omega)) (by decide))
    subst h0
    clear hl hlen
    go_enter Tryz.func46, Tryz.ntmps46
    go_wp2
    go_ret3
    exact open_bad (e := 3) hr.out (Below.refl _ _)
  · have h0l : ¬ l.length = 0 := by omega
    have hn0 : 0 < n := by omega
    obtain ⟨b, off, rfl, _, hcl⟩ := hl.2.2 hn0
    have hc0 := hcl 0 hn0
    rw [Nat.add_zero] at hc0
    obtain ⟨x, hx⟩ : ∃ x, l.getD 0 0 = x := ⟨_, rfl⟩
    rw [hx] at hc0
    clear hcl hl
    by_cases h3 : x ≠ 3
    · have hr := hide (opn_1 (qbnd_2 h0l (by rw [hx]; exact h3)) (by decide))
      have hne : ((x : Int) != 3) = true := by simp; omega
      clear h3 hx
      go_enter Tryz.func46, Tryz.ntmps46
      go_wp2
      go_ret3
      exact open_bad (e := 5) hr.out (Below.refl _ _)
    · have h3l : ¬ l.getD 0 0 ≠ 3 := by rw [hx]; exact h3
      have hne : ((x : Int) != 3) = false := by simp; omega
      obtain ⟨A1, hA1, hsl1⟩ := cut_from (some ⟨b, off, none⟩) n c 1 (by omega)
      have HL1 := hide (HL.out.drop (k := 1) (by omega) hc A1 hA1)
      simp only [show ((1 : Nat) : Int) = 1 from rfl] at hsl1
      obtain ⟨⟨V, k, er⟩, hnum⟩ : ∃ q, num (l.drop 1) 0 0 = q := ⟨_, rfl⟩
      have HN := hide hnum
      have hkb : k ≤ n - 1 := by
        have h1 := (num_bound (l.drop 1) 0 0).1
        rw [hnum] at h1
        simp only [List.length_drop] at h1
        omega
      have H0L := hide h0l
      have H3L := hide h3l
      have HLEN := hide hlen
      clear hA1 hnum hx h3 h3l h0l hlen
      by_cases hk : k = 0
      · subst hk
        have hk0 : (((0 : Nat) : Int) == 0) = true := rfl
        cases ho : openB (l.drop 1) with
        | true =>
          have hr := hide (opn_1 (qbnd_3 H0L.out H3L.out (qcnt_3 HN.out ho) (by decide)) (by decide))
          have CO := ropen_any A1 (n - 1) (c - 1) _ (l.drop 1) w HL1.out (by omega)
          rw [ho] at CO
          have HCO := hide CO
          clear CO ho
          go_enter Tryz.func46, Tryz.ntmps46
          go_wp2_with (fail)
          refine (rgetuint_is A1 (n - 1) (c - 1) _ (l.drop 1) V 0 er _ HL1.out (by omega) HN.out).mono ?_
          rintro e w1 ⟨rfl, rfl⟩
          go_wp2_with (fail)
          refine HCO.out.mono ?_
          rintro e w1 ⟨rfl, rfl⟩
          go_wp2
          go_ret3
          exact open_bad (e := 3) hr.out (Below.refl _ _)
        | false =>
          have hr := hide (opn_1 (qbnd_3 H0L.out H3L.out (qcnt_4 HN.out ho) (by decide)) (by decide))
          have CO := ropen_any A1 (n - 1) (c - 1) _ (l.drop 1) w HL1.out (by omega)
          rw [ho] at CO
          have HCO := hide CO
          clear CO ho
          go_enter Tryz.func46, Tryz.ntmps46
          go_wp2_with (fail)
          refine (rgetuint_is A1 (n - 1) (c - 1) _ (l.drop 1) V 0 er _ HL1.out (by omega) HN.out).mono ?_
          rintro e w1 ⟨rfl, rfl⟩
          go_wp2_with (fail)
          refine HCO.out.mono ?_
          rintro e w1 ⟨rfl, rfl⟩
          go_wp2
          go_ret3
          exact open_bad (e := 4) hr.out (Below.refl _ _)
      · have hk0 : ((k : Int) == 0) = false := by simp; omega
        by_cases hV : 65536 < V
        · have hr := hide (opn_1 (qbnd_3 H0L.out H3L.out (qcnt_5 HN.out hk hV) (by decide)) (by decide))
          have hVd : decide (65536 < (V : Int)) = true := by simp; omega
          go_enter Tryz.func46, Tryz.ntmps46
          go_wp2_with (fail)
          refine (rgetuint_is A1 (n - 1) (c - 1) _ (l.drop 1) V k er _ HL1.out (by omega) HN.out).mono ?_
          rintro e w1 ⟨rfl, rfl⟩
          go_wp2
          go_ret3
          exact open_bad (e := 4) hr.out (Below.refl _ _)
        · have hVd : decide (65536 < (V : Int)) = false := by simp; omega
          have hcn := qcnt_6 HN.out hk hV
          obtain ⟨at_, hat⟩ : ∃ at_, 1 + k = at_ := ⟨_, rfl⟩
          have eat : 1 + (k : Int) = (at_ : Int) := by omega
          obtain ⟨E, hE⟩ : ∃ E, at_ + V = E := ⟨_, rfl⟩
          have eE : (at_ : Int) + (V : Int) = (E : Int) := by omega
          by_cases h5 : n < E + 4
          · have hr := hide (opn_1 (qbnd_4 H0L.out H3L.out hcn (by rw [HLEN.out]; omega)) (by decide))
            have h5d : decide ((n : Int) < (E : Int) + 4) = true := by simp; omega
            clear hcn hat hE
            go_enter Tryz.func46, Tryz.ntmps46
            go_wp2_with (fail)
            refine (rgetuint_is A1 (n - 1) (c - 1) _ (l.drop 1) V k er _ HL1.out (by omega) HN.out).mono ?_
            rintro e w1 ⟨rfl, rfl⟩
            go_wp2
            go_ret3
            exact open_bad (e := 3) hr.out (Below.refl _ _)
          · have h5d : decide ((n : Int) < (E : Int) + 4) = false := by simp; omega
            have hbn := qbnd_5 H0L.out H3L.out hcn (by rw [HLEN.out]; omega)
            rw [hat, hE] at hbn
            have HBN := hide hbn
            obtain ⟨AE, hAE, hsE⟩ := cut_to (some ⟨b, off, none⟩) n c E (by omega)
            have HLE := hide (HL.out.to (h := E) (by omega) hc hAE)
            obtain ⟨AQ, hAQ, hsQ⟩ := cut_mid (some ⟨b, off, none⟩) n c E (E + 4) (by omega) (by omega)
            have HLQ0 := HL.out.mid (k := E) (h := E + 4) (by omega) (by omega) hc hAQ
            rw [show E + 4 - E = 4 from by omega] at HLQ0
            have HLQ : Hid (∀ w', Later w w' → Holds w' w.heap.size AQ 4 ((l.drop E).take 4)) := fun w' h => HLQ0.below h
            have HSE := hide hsE
            have HSQ0 := hsQ
            rw [show E + 4 - E = 4 from by omega] at HSQ0
            simp only [show ((E + 4 : Nat) : Int) = (E : Int) + 4 from by omega] at HSQ0
            have HSQ := hide HSQ0
            have HSM := hide (sum_lt (l := l.take E) (fun x hx => HS.out x (List.mem_of_mem_take hx)))
            have hq4 : ∀ x ∈ (l.drop E).take 4, x < 256 := fun x hx => HS.out x (List.mem_of_mem_drop (List.mem_of_mem_take hx))
            obtain ⟨AM, hAM, hsM⟩ := cut_mid (some ⟨b, off, none⟩) n c at_ E (by omega) (by omega)
            have HLM := hide (HL.out.mid (k := at_) (h := E) (by omega) (by omega) hc hAM)
            have HSM2 := hide hsM
            have hEm : E - at_ = V := by omega
            have HEM := hide hEm
            have hEn : E ≤ 1000000 := by omega
            have EW4 : Hid (IntKind.i64.wrap ((E : Int) + 4) = (E : Int) + 4) := by show _ = _; rw [IntKind.wrap_i64]; omega
            have hVn : V ≤ 65536 := by omega
            have hatE : at_ ≤ E := by omega
            have hatc : at_ ≤ c := by omega
            have hEc : E ≤ c := by omega
            have hnE : ¬ n < E + 4 := h5
            clear hcn hat hE hbn hAE hsE hAQ hsQ HLQ0 HSQ0 hAM hsM hEm h5 hV
            by_cases heq : (l.drop E).take 4 = four (sum (l.take E))
            · have HEQ : Hid (((str (four (sum (l.take E)))).toList == (str ((l.drop E).take 4)).toList) = true) := by rw [heq]; exact str_beq _
              have hr := hide (opn_3 HBN.out (by simp) heq)
              clear heq hq4
              go_enter Tryz.func46, Tryz.ntmps46
              go_wp2_with (fail)
              refine (rgetuint_is A1 (n - 1) (c - 1) _ (l.drop 1) V k er _ HL1.out (by omega) HN.out).mono ?_
              rintro e w1 ⟨rfl, rfl⟩
              go_wp2
              have HLT := hide (Later.drew w)
              refine wp_region_L (by kernel_rfl) ?_
              refine wpAnyL_take (i := 0) (d := some 48) (v := ?vae0) rfl rfl (by kernel_rfl) (by kernel_rfl) (by kernel_rfl) (fun _ _ _ h => h) (by rfl) ?yae0 ?_
              case yae0 => (intro w' hw'; go_simp; try (with_reducible rfl))
              simp only [Act.put]; try simp only [List.setIfInBounds_toArray]; try simp only [List.set_cons_zero, List.set_cons_succ]
              refine wpAnyL_take (i := 1) (d := some 49) (v := ?vae1) rfl rfl (by kernel_rfl) (by kernel_rfl) (by kernel_rfl) (fun _ _ _ h => h) (by rfl) ?yae1 ?_
              case yae1 => (intro w' hw'; go_simp; try (with_reducible rfl))
              simp only [Act.put]; try simp only [List.setIfInBounds_toArray]; try simp only [List.set_cons_zero, List.set_cons_succ]
              refine wpAnyL_take (i := 2) (d := some 50) (v := .slice AE E c) rfl rfl (by kernel_rfl) (by kernel_rfl) (by kernel_rfl) (fun _ _ _ h => h) (by rfl) ?yae2 ?_
              case yae2 => (intro w' hw'; have e1 := HSE.out w'; go_simp; try (with_reducible rfl))
              simp only [Act.put]; try simp only [List.setIfInBounds_toArray]; try simp only [List.set_cons_zero, List.set_cons_succ]
              refine wpAnyL_take (i := 6) (d := some 54) (v := ?vae6) rfl rfl (by kernel_rfl) (by kernel_rfl) (by kernel_rfl) (fun _ _ _ h => h) (by rfl) ?yae6 ?_
              case yae6 => (intro w' hw'; go_simp; try (with_reducible rfl))
              simp only [Act.put]; try simp only [List.setIfInBounds_toArray]; try simp only [List.set_cons_zero, List.set_cons_succ]
              refine wpAnyL_take (i := 7) (d := some 55) (v := ?vae7) rfl rfl (by kernel_rfl) (by kernel_rfl) (by kernel_rfl) (fun _ _ _ h => h) (by rfl) ?yae7 ?_
              case yae7 => (intro w' hw'; go_simp; try (with_reducible rfl))
              simp only [Act.put]; try simp only [List.setIfInBounds_toArray]; try simp only [List.set_cons_zero, List.set_cons_succ]
              refine wpAnyL_take (i := 8) (d := some 56) (v := ?vae8) rfl rfl (by kernel_rfl) (by kernel_rfl) (by kernel_rfl) (fun _ _ _ h => h) (by rfl) ?yae8 ?_
              case yae8 => (intro w' hw'; go_simp; try (with_reducible rfl))
              simp only [Act.put]; try simp only [List.setIfInBounds_toArray]; try simp only [List.set_cons_zero, List.set_cons_succ]
              refine wpAnyL_take (i := 9) (d := some 57) (v := .int .i64 ((E : Int) + 4)) rfl rfl (by kernel_rfl) (by kernel_rfl) (by kernel_rfl) (fun _ _ _ h => h) (by rfl) ?yae9 ?_
              case yae9 => (intro w' hw'; go_simp; exact EW4.out)
              simp only [Act.put]; try simp only [List.setIfInBounds_toArray]; try simp only [List.set_cons_zero, List.set_cons_succ]
              refine wpAnyL_take (i := 10) (d := some 58) (v := .slice AQ 4 (c - E)) rfl rfl (by kernel_rfl) (by kernel_rfl) (by kernel_rfl) (fun _ _ _ h => h) (by rfl) ?yae10 ?_
              case yae10 => (intro w' hw'; have e1 := HSQ.out w'; go_simp; try (with_reducible rfl))
              simp only [Act.put]; try simp only [List.setIfInBounds_toArray]; try simp only [List.set_cons_zero, List.set_cons_succ]
              refine wpAnyL_take (i := 11) (d := some 59) (v := .string (str ((l.drop E).take 4))) rfl rfl (by kernel_rfl) (by kernel_rfl) (by kernel_rfl) (fun _ _ _ h => h) (by rfl) ?yae11 ?_
              case yae11 => (intro w' hw'; have d1 := run_str w' w.heap.size AQ 4 (c - E) ((l.drop E).take 4) (HLQ.out w' (Later.trans HLT.out hw')); go_simp)
              simp only [Act.put]; try simp only [List.setIfInBounds_toArray]; try simp only [List.set_cons_zero, List.set_cons_succ]
              refine wpAnyL_only (i := 3) rfl (by kernel_rfl) (by rfl) fun K hK => ?_
              go_simp
              refine (refsum_any AE E c _ (l.take E) _ HLE.out.drew (by omega)).mono ?_
              rintro e w3 ⟨rfl, rfl⟩
              refine hK.out _ _ (Below.refl _ _) ?_
              clear hK K
              try (simp only [Act.put]; try simp only [List.setIfInBounds_toArray]; try simp only [List.set_cons_zero, List.set_cons_succ])
              refine wpAnyL_only (i := 4) rfl (by kernel_rfl) (by rfl) fun K hK => ?_
              go_simp
              refine (four_any (sum (l.take E)) _ HSM.out).mono ?_
              rintro e w4 ⟨A4, n4, c4, rfl, _, hh4, _, hl4⟩
              have HH4 := hide hh4
              have HL4 : Hid (Later w w4) := Later.trans (Later.drew w) hl4
              refine hK.out _ _ hl4 ?_
              clear hh4 hl4
              clear hK K
              try (simp only [Act.put]; try simp only [List.setIfInBounds_toArray]; try simp only [List.set_cons_zero, List.set_cons_succ])
              refine wpAnyL_take (i := 5) (d := some 53) (v := .string (str (four (sum (l.take E))))) rfl rfl (by kernel_rfl) (by kernel_rfl) (by kernel_rfl) (fun _ _ _ h => h) (by rfl) ?yae5 ?_
              case yae5 => (intro w' hw'; have d1 := run_str w' w'.heap.size A4 n4 c4 (four (sum (l.take E))) (HH4.out.later hw'); go_simp)
              simp only [Act.put]; try simp only [List.setIfInBounds_toArray]; try simp only [List.set_cons_zero, List.set_cons_succ]
              refine wpAnyL_take (i := 12) (d := some 60) (v := .bool false) rfl rfl (by kernel_rfl) (by kernel_rfl) (by kernel_rfl) (fun _ _ _ h => h) (by rfl) ?yae12 ?_
              case yae12 => (intro w' hw'; have e1 := HEQ.out; go_simp; try (with_reducible rfl))
              simp only [Act.put]; try simp only [List.setIfInBounds_toArray]; try simp only [List.set_cons_zero, List.set_cons_succ]
              refine wpAnyL_done (by kernel_rfl) ?_ _
              have hsM := HSM2.out
              go_wp2_with (at_builtin; refine wpList_append_bytes _ rfl (.tmp 61) (.tmp 65) 38 rfl w4.heap.size 5 j0 (.int .u8 0) Tryz.underlying38 hj hy0 hy1 hy2 rfl _ 0 [] rfl (lit0 w4 rfl) w.heap.size AM (E - at_) (c - at_) _ rfl ((HLM.out.below HL4.out).below ((Below.refl _ _).alloc HL4.out.size _)) (by omega) (by simp) ?_)
              intro v5 w5 o5 g5
              have hsm5 : ∀ y ∈ (l.drop at_).take (E - at_), y < 256 := fun y hy => HS.out y (List.mem_of_mem_drop (List.mem_of_mem_take hy))
              have o5' : w5.ownsRow w4.heap.size 5 1 v5 (E - at_) (bvs ((l.drop at_).take (E - at_))) := by simpa using o5
              obtain ⟨A5, c5, rfl, hc5, _, hh5⟩ := Holds.of_own o5' hsm5
              have hl5 : Later w w5 := HL4.out.trans (((Below.refl _ _).alloc (Nat.le_refl _) _).trans (g5.below (lit0 w4 rfl) (by simp)))
              have HH5 := hide hh5
              have HL5 := hide hl5
              clear o5 o5' g5 hh5 hl5 hsM
              go_wp2
              go_ret3
              exact ⟨A5, E - at_, c5, by rw [hr.out]; rfl, by rw [hr.out]; exact HH5.out, hc5, HL5.out⟩
            · have HEQ : Hid (((str (four (sum (l.take E)))).toList == (str ((l.drop E).take 4)).toList) = false) := str_bne (four_small _) hq4 (fun h => heq h.symm)
              have hr := hide (opn_2 HBN.out (by simp) heq)
              clear heq hq4
              go_enter Tryz.func46, Tryz.ntmps46
              go_wp2_with (fail)
              refine (rgetuint_is A1 (n - 1) (c - 1) _ (l.drop 1) V k er _ HL1.out (by omega) HN.out).mono ?_
              rintro e w1 ⟨rfl, rfl⟩
              go_wp2
              have HLT := hide (Later.drew w)
              refine wp_region_L (by kernel_rfl) ?_
              refine wpAnyL_take (i := 0) (d := some 48) (v := ?van0) rfl rfl (by kernel_rfl) (by kernel_rfl) (by kernel_rfl) (fun _ _ _ h => h) (by rfl) ?yan0 ?_
              case yan0 => (intro w' hw'; go_simp; try (with_reducible rfl))
              simp only [Act.put]; try simp only [List.setIfInBounds_toArray]; try simp only [List.set_cons_zero, List.set_cons_succ]
              refine wpAnyL_take (i := 1) (d := some 49) (v := ?van1) rfl rfl (by kernel_rfl) (by kernel_rfl) (by kernel_rfl) (fun _ _ _ h => h) (by rfl) ?yan1 ?_
              case yan1 => (intro w' hw'; go_simp; try (with_reducible rfl))
              simp only [Act.put]; try simp only [List.setIfInBounds_toArray]; try simp only [List.set_cons_zero, List.set_cons_succ]
              refine wpAnyL_take (i := 2) (d := some 50) (v := .slice AE E c) rfl rfl (by kernel_rfl) (by kernel_rfl) (by kernel_rfl) (fun _ _ _ h => h) (by rfl) ?yan2 ?_
              case yan2 => (intro w' hw'; have e1 := HSE.out w'; go_simp; try (with_reducible rfl))
              simp only [Act.put]; try simp only [List.setIfInBounds_toArray]; try simp only [List.set_cons_zero, List.set_cons_succ]
              refine wpAnyL_take (i := 6) (d := some 54) (v := ?van6) rfl rfl (by kernel_rfl) (by kernel_rfl) (by kernel_rfl) (fun _ _ _ h => h) (by rfl) ?yan6 ?_
              case yan6 => (intro w' hw'; go_simp; try (with_reducible rfl))
              simp only [Act.put]; try simp only [List.setIfInBounds_toArray]; try simp only [List.set_cons_zero, List.set_cons_succ]
              refine wpAnyL_take (i := 7) (d := some 55) (v := ?van7) rfl rfl (by kernel_rfl) (by kernel_rfl) (by kernel_rfl) (fun _ _ _ h => h) (by rfl) ?yan7 ?_
              case yan7 => (intro w' hw'; go_simp; try (with_reducible rfl))
              simp only [Act.put]; try simp only [List.setIfInBounds_toArray]; try simp only [List.set_cons_zero, List.set_cons_succ]
              refine wpAnyL_take (i := 8) (d := some 56) (v := ?van8) rfl rfl (by kernel_rfl) (by kernel_rfl) (by kernel_rfl) (fun _ _ _ h => h) (by rfl) ?yan8 ?_
              case yan8 => (intro w' hw'; go_simp; try (with_reducible rfl))
              simp only [Act.put]; try simp only [List.setIfInBounds_toArray]; try simp only [List.set_cons_zero, List.set_cons_succ]
              refine wpAnyL_take (i := 9) (d := some 57) (v := .int .i64 ((E : Int) + 4)) rfl rfl (by kernel_rfl) (by kernel_rfl) (by kernel_rfl) (fun _ _ _ h => h) (by rfl) ?yan9 ?_
              case yan9 => (intro w' hw'; go_simp; exact EW4.out)
              simp only [Act.put]; try simp only [List.setIfInBounds_toArray]; try simp only [List.set_cons_zero, List.set_cons_succ]
              refine wpAnyL_take (i := 10) (d := some 58) (v := .slice AQ 4 (c - E)) rfl rfl (by kernel_rfl) (by kernel_rfl) (by kernel_rfl) (fun _ _ _ h => h) (by rfl) ?yan10 ?_
              case yan10 => (intro w' hw'; have e1 := HSQ.out w'; go_simp; try (with_reducible rfl))
              simp only [Act.put]; try simp only [List.setIfInBounds_toArray]; try simp only [List.set_cons_zero, List.set_cons_succ]
              refine wpAnyL_take (i := 11) (d := some 59) (v := .string (str ((l.drop E).take 4))) rfl rfl (by kernel_rfl) (by kernel_rfl) (by kernel_rfl) (fun _ _ _ h => h) (by rfl) ?yan11 ?_
              case yan11 => (intro w' hw'; have d1 := run_str w' w.heap.size AQ 4 (c - E) ((l.drop E).take 4) (HLQ.out w' (Later.trans HLT.out hw')); go_simp)
              simp only [Act.put]; try simp only [List.setIfInBounds_toArray]; try simp only [List.set_cons_zero, List.set_cons_succ]
              refine wpAnyL_only (i := 3) rfl (by kernel_rfl) (by rfl) fun K hK => ?_
              go_simp
              refine (refsum_any AE E c _ (l.take E) _ HLE.out.drew (by omega)).mono ?_
              rintro e w3 ⟨rfl, rfl⟩
              refine hK.out _ _ (Below.refl _ _) ?_
              clear hK K
              try (simp only [Act.put]; try simp only [List.setIfInBounds_toArray]; try simp only [List.set_cons_zero, List.set_cons_succ])
              refine wpAnyL_only (i := 4) rfl (by kernel_rfl) (by rfl) fun K hK => ?_
              go_simp
              refine (four_any (sum (l.take E)) _ HSM.out).mono ?_
              rintro e w4 ⟨A4, n4, c4, rfl, _, hh4, _, hl4⟩
              have HH4 := hide hh4
              have HL4 : Hid (Later w w4) := Later.trans (Later.drew w) hl4
              refine hK.out _ _ hl4 ?_
              clear hh4 hl4
              clear hK K
              try (simp only [Act.put]; try simp only [List.setIfInBounds_toArray]; try simp only [List.set_cons_zero, List.set_cons_succ])
              refine wpAnyL_take (i := 5) (d := some 53) (v := .string (str (four (sum (l.take E))))) rfl rfl (by kernel_rfl) (by kernel_rfl) (by kernel_rfl) (fun _ _ _ h => h) (by rfl) ?yan5 ?_
              case yan5 => (intro w' hw'; have d1 := run_str w' w'.heap.size A4 n4 c4 (four (sum (l.take E))) (HH4.out.later hw'); go_simp)
              simp only [Act.put]; try simp only [List.setIfInBounds_toArray]; try simp only [List.set_cons_zero, List.set_cons_succ]
              refine wpAnyL_take (i := 12) (d := some 60) (v := .bool true) rfl rfl (by kernel_rfl) (by kernel_rfl) (by kernel_rfl) (fun _ _ _ h => h) (by rfl) ?yan12 ?_
              case yan12 => (intro w' hw'; have e1 := HEQ.out; go_simp; try (with_reducible rfl))
              simp only [Act.put]; try simp only [List.setIfInBounds_toArray]; try simp only [List.set_cons_zero, List.set_cons_succ]
              refine wpAnyL_done (by kernel_rfl) ?_ _
              go_wp2
              go_ret3
              exact open_bad (e := 6) hr.out HL4.out
end Go.Proofs.YtehiaeihkdfclaaGreatDoor
/- What is said of memory, for slices of int: a slice that holds a list of integers, nil and empty ones among them; a row of ints that the call itself made. -/
namespace Go.Proofs.YtehiaeihkdfclaaGreatDoor
open Go.RowKit

def iv (x : Int) : Value := .int .i64 x
def ivs (l : List Int) : List Value := l.map iv

theorem ivs_len (l : List Int) : (ivs l).length = l.length := by simp [ivs]
theorem ivs_append (a b : List Int) : ivs (a ++ b) = ivs a ++ ivs b := by simp [ivs]
theorem ivs_one (x : Int) : ivs [x] = [.int .i64 x] := rfl
theorem ivs_cell (l : List Int) : ∀ u ∈ ivs l, u.oneCell' = true := by
  intro u hu
  obtain ⟨_, _, rfl⟩ := List.mem_map.1 hu
  rfl
theorem ivs_get {l : List Int} {i : Nat} (h : i < l.length) : (ivs l)[i]? = some (.int .i64 (l.getD i 0)) := by
  simp [ivs, iv, h]
theorem ivs_set (l : List Int) (i : Nat) (x : Int) : ivs (l.set i x) = (ivs l).set i (.int .i64 x) := by simp [ivs, iv, List.map_set]

/-- All of them fit an int. -/
def Fit (l : List Int) : Prop := ∀ x ∈ l, -9223372036854775808 ≤ x ∧ x < 9223372036854775808
theorem Fit.get {l : List Int} (h : Fit l) (i : Nat) : -9223372036854775808 ≤ l.getD i 0 ∧ l.getD i 0 < 9223372036854775808 := by
  by_cases hi : i < l.length
  · have e : l.getD i 0 = l[i] := by simp [List.getD, hi]
    rw [e]
    exact h _ (List.getElem_mem hi)
  · have e : l.getD i 0 = 0 := by simp [List.getD, Nat.not_lt.1 hi]
    rw [e]
    decide

/-- The slice at 'A', of 'n' ints, holds the list l, in a block below B. -/
def IHolds (w : World) (B : Nat) (A : Option Addr) (n : Nat) (l : List Int) : Prop :=
  l.length = n ∧ Fit l ∧ (0 < n → ∃ b off, A = some ⟨b, off, none⟩ ∧ b < B ∧ ∀ i, i < n → w.cell? ⟨b, off + i, none⟩ = some (.int .i64 (l.getD i 0)))

section
variable {w w' : World} {B B' : Nat} {A : Option Addr} {n : Nat} {l : List Int}
theorem IHolds.nil_ (w : World) (B : Nat) : IHolds w B none 0 [] := ⟨rfl, by simp [Fit], fun h => by omega⟩
theorem IHolds.keep (h : IHolds w B A n l) (hk : ∀ p : Addr, p.block < B → w'.cell? p = w.cell? p) : IHolds w' B A n l :=
  ⟨h.1, h.2.1, fun hn => by
    obtain ⟨b, off, e, hb, hc⟩ := h.2.2 hn
    exact ⟨b, off, e, hb, fun i hi => (hk ⟨b, off + i, none⟩ hb).trans (hc i hi)⟩⟩
theorem IHolds.below (h : IHolds w B A n l) (hb : Below B w w') : IHolds w' B A n l := h.keep fun _ hp => hb.cell hp
theorem IHolds.more (h : IHolds w B A n l) (hB : B ≤ B') : IHolds w B' A n l :=
  ⟨h.1, h.2.1, fun hn => by
    obtain ⟨b, off, e, hb, hc⟩ := h.2.2 hn
    exact ⟨b, off, e, by omega, hc⟩⟩
theorem IHolds.drew (h : IHolds w B A n l) : IHolds w.drew B A n l := h
theorem IHolds.drewN (h : IHolds w B A n l) (k : Nat) : IHolds (w.drewN k) B A n l := h
/-- The cell of one of them, at an address that is there. -/
theorem IHolds.at_ (h : IHolds w B A n l) {i : Nat} (hi : i < n) : ∃ b off, A = some ⟨b, off, none⟩ ∧ b < B ∧ w.cell? ⟨b, off + i, none⟩ = some (.int .i64 (l.getD i 0)) := by
  obtain ⟨b, off, e, hb, hc⟩ := h.2.2 (by omega)
  exact ⟨b, off, e, hb, hc i hi⟩
/-- A row of the call's own is such a slice. -/
theorem IHolds.of_own {base e : Nat} {v : Value} (h : w.ownsRow base e 1 v n (ivs l)) (hs : Fit l) : ∃ A c, v = .slice A n c ∧ n ≤ c ∧ (A = none → c = 0) ∧ IHolds w w.heap.size A n l := by
  have hl : l.length = n := by have := h.1; rw [ivs_len] at this; omega
  rcases h.2 with ⟨rfl, rfl⟩ | ⟨g, cap, cur, rfl, _, hg, hnc, _, _, _⟩
  · exact ⟨none, 0, rfl, Nat.le_refl _, fun _ => rfl, hl, hs, fun h => by omega⟩
  · refine ⟨some ⟨g, 0, none⟩, cap, rfl, hnc, (fun h => by cases h), hl, hs, fun hn => ⟨g, 0, rfl, ?_, fun i hi => ?_⟩⟩
    · exact (Array.getElem?_eq_some_iff.1 hg).1
    · have := h.cellAt i (by omega)
      rw [Nat.zero_add, this, ivs_get (by omega)]
end

/-- What a call hands back that makes ints: a slice of the call's own, that holds l; nothing that was there has turned. -/
def NewInts (w : World) (l : List Int) (e : Ending) (w' : World) : Prop :=
  ∃ A n c, e = .returned (.slice A n c) ∧ w'.ownsRow w.heap.size 3 1 (.slice A n c) n (ivs l) ∧ IHolds w' w'.heap.size A n l ∧ n ≤ c ∧ Below w.heap.size w w'

theorem Tryz.infoI64 : (Tryz.prog.info? 3).map (fun i => (i.zero, i.size, i.bytes)) = some (some (.int .i64 0), 1, 8) := by kernel_rfl

section
variable {P : Program} (w : World)
/-- 'append(row, l...)', the row the call's own, l whatever slice of ints. -/
theorem run_append_ints (base : Nat) (t ty e : TypeId) (i : TypeInfo) (z : Value) (ht : P.underlying t = some (.slice e)) (hi : P.info? e = some i) (hz : i.zero = some z)
    (hsize : i.size = 1) (hby : i.bytes = 8) (hzs : z.cells.size = 1)
    (v : Value) (n : Nat) (xs : List Value) (hown : w.ownsRow base e 1 v n xs)
    (B : Nat) (A : Option Addr) (m c : Nat) (l : List Int) (hl : IHolds w B A m l) (hroom : n + m ≤ 8796093022208) (hbase : base ≤ w.heap.size) :
    ∃ v' w', (Builtin.append_ #[t, t] ty #[v, .slice A m c]).run P w = .ok v' w' ∧ w'.ownsRow base e 1 v' (n + m) (xs ++ ivs l) ∧ Went w v.ownBlock w' v'.ownBlock := by
  have hlen := hl.1
  rcases A with _ | ad
  · have hm : m = 0 := by
      rcases Nat.eq_zero_or_pos m with h | h
      · exact h
      · obtain ⟨_, _, h, _⟩ := hl.2.2 h
        cases h
    subst hm
    have : l = [] := List.eq_nil_of_length_eq_zero hlen
    subst this
    refine ⟨v, w, ?_, by simpa [ivs] using hown, Went.refl w _⟩
    rcases hown.2 with ⟨rfl, rfl⟩ | ⟨g, cap, cur, rfl, _, _, hnc, _⟩
    · simp [Builtin.append_, run_underlying ht, sizeOf, typeInfo, hi, Builtin.lenOf, Builtin.firstCells]
    · simp [Builtin.append_, run_underlying ht, sizeOf, typeInfo, hi, Builtin.lenOf, Builtin.firstCells, hnc, storeCells]
  · obtain ⟨v', w', h1, h2, h3, _, h5⟩ := run_append_own_at (P := P) w base t ty e i z 1 8 ht hi hz hsize hby hzs (by omega) v n xs hown ad m c (ivs l) (by rw [ivs_len, hlen, Nat.mul_one])
      (fun j u hu => by
        have hj : j < l.length := by
          have := (List.getElem?_eq_some_iff.1 hu).1
          rwa [ivs_len] at this
        obtain ⟨b, off, h, _, hc⟩ := hl.2.2 (by omega)
        obtain rfl := Option.some.inj h
        rw [ivs_get hj] at hu
        rw [Addr.add_lit, hc j (by omega)]
        exact hu) (ivs_cell _) (by simp only [maxLen]; omega) (by omega) hbase
    exact ⟨v', w', h1, h2, .of_at h3 h5⟩

theorem wpList_append_ints {ops : Array Oper} {rest : List Oper} {o : Oper} {a : Act} {Q : Exit → Act → World → Prop} (hgd : o.guard = none) (s x : Operand) (t : TypeId)
    (ho : o.op = .call { callee := .builtin .append, args := #[s, x], argTypes := #[t, t] })
    (base : Nat) (e : TypeId) (i : TypeInfo) (z : Value) (ht : P.underlying t = some (.slice e)) (hi : P.info? e = some i) (hz : i.zero = some z)
    (hsize : i.size = 1) (hby : i.bytes = 8) (hzs : z.cells.size = 1)
    (v : Value) (n : Nat) (xs : List Value) (hs : a.eval s = v) (hown : w.ownsRow base e 1 v n xs)
    (B : Nat) (A : Option Addr) (m c : Nat) (l : List Int) (hx : a.eval x = .slice A m c) (hl : IHolds w B A m l) (hroom : n + m ≤ 8796093022208) (hbase : base ≤ w.heap.size)
    (h : ∀ v' w', w'.ownsRow base e 1 v' (n + m) (xs ++ ivs l) → Went w v.ownBlock w' v'.ownBlock → wpList P ops Q rest (a.put o.dst v') w') : wpList P ops Q (o :: rest) a w := by
  refine wpList_plain hgd fun K hK => ?_
  obtain ⟨v', w', hr, h2, h3⟩ := run_append_ints (P := P) w base t o.type e i z ht hi hz hsize hby hzs v n xs hown B A m c l hl hroom hbase
  unfold Oper.wp execOp
  simp only [ho, resolve, invoke, builtin, Sem.run_bind, Sem.run_pure, Result.andThen_ok, List.map_toArray, List.map_cons, List.map_nil, hs, hx, hr]
  exact hK _ _ (h v' w' h2 h3)
end

/-- A row of ints of the call's own: where it lies, its cells, a cell that is written. -/
theorem iown_at {w : World} {base e n : Nat} {v : Value} {xs : List Value} (h : w.ownsRow base e 1 v n xs) (hn : 0 < n) : ∃ g c, v = .slice (some ⟨g, 0, none⟩) n c ∧ base ≤ g ∧ g < w.heap.size ∧ n ≤ c ∧ c ≤ maxLen := by
  rcases h.2 with ⟨_, h0⟩ | ⟨g, cap, cur, hv, hb, hg, hnc, hm, _⟩
  · omega
  · exact ⟨g, cap, hv, hb, lt_of_block hg, hnc, hm⟩
theorem iown_cell {w : World} {base e g n c : Nat} {l : List Int} (h : w.ownsRow base e 1 (.slice (some ⟨g, 0, none⟩) n c) n (ivs l)) {i : Nat} (hi : i < n) : w.cell? ⟨g, i, none⟩ = some (.int .i64 (l.getD i 0)) := by
  have hl : l.length = n := by have := h.1; rw [ivs_len] at this; omega
  have h1 := h.cellAt i (by omega)
  rw [h1, ivs_get (by omega)]
theorem iown_free {w : World} {base e g n c : Nat} {xs : List Value} (h : w.ownsRow base e 1 (.slice (some ⟨g, 0, none⟩) n c) n xs) (i : Nat) : w.frozen? ⟨g, i, none⟩ = false := by
  rcases h.2 with ⟨h0, _⟩ | ⟨g', cap, cur, hv, hb, hg, _⟩
  · cases h0
  · simp only [Value.slice.injEq, Option.some.injEq, Addr.mk.injEq, and_true, true_and] at hv
    obtain ⟨rfl, _⟩ := hv
    simp [World.frozen?, hg]
theorem iown_set {w : World} {base e g n c : Nat} {l : List Int} (h : w.ownsRow base e 1 (.slice (some ⟨g, 0, none⟩) n c) n (ivs l)) (i : Nat) (x : Int) :
    (w.setCell ⟨g, i, none⟩ (.int .i64 x)).ownsRow base e 1 (.slice (some ⟨g, 0, none⟩) n c) n (ivs (l.set i x)) ∧ w.grownBy (w.setCell ⟨g, i, none⟩ (.int .i64 x)) (some g) := by
  have h1 := h.stored i (.int .i64 x)
  rw [ivs_set]
  exact h1
theorem own_whole {w : World} {base e g n : Nat} {xs : List Value} (h : w.ownsRow base e 1 (.slice (some ⟨g, 0, none⟩) n n) n xs) : w.heap[g]? = some (.cells xs.toArray e (0, 0)) := by
  rcases h.2 with ⟨h0, _⟩ | ⟨g', cap, cur, hv, _, hg, _, _, hs, ht⟩
  · cases h0
  · simp only [Value.slice.injEq, Option.some.injEq, Addr.mk.injEq, and_true, true_and] at hv
    obtain ⟨rfl, rfl⟩ := hv
    rw [Nat.mul_one] at hs ht
    rw [List.take_of_length_le (by simp [hs])] at ht
    rw [hg, ← ht]
theorem own_of_whole {w : World} {base e g n : Nat} {xs : List Value} (h : w.heap[g]? = some (.cells xs.toArray e (0, 0))) (hl : xs.length = n) (hb : base ≤ g) (hn : n ≤ maxLen) : w.ownsRow base e 1 (.slice (some ⟨g, 0, none⟩) n n) n xs :=
  ⟨by omega, .inr ⟨g, n, xs.toArray, rfl, hb, h, Nat.le_refl _, hn, by simp [hl], by rw [Nat.mul_one]; simp [← hl]⟩⟩
theorem splice_all {cur cs : List Value} (h : cur.length = cs.length) : splice cur 0 cs = cs := by simp [splice, ← h]

/-- 'copy(row, l)', the row made of the same length. -/
theorem wpList_copy_ints {w : World} {ops : Array Oper} {rest : List Oper} {o : Oper} {a : Act} {Q : Exit → Act → World → Prop} (hgd : o.guard = none) (d s : Operand)
    (ho : o.op = .call { callee := .builtin .copy, args := #[d, s], argTypes := #[33, 33] })
    (base g n : Nat) (A : Option Addr) (cap B : Nat) (l : List Int) (xs : List Value) (hd : a.eval d = .slice (some ⟨g, 0, none⟩) n n) (hs : a.eval s = .slice A n cap)
    (hown : w.ownsRow base 3 1 (.slice (some ⟨g, 0, none⟩) n n) n xs) (hl : IHolds w B A n l) (hg : base ≤ g) (hn : n ≤ maxLen)
    (h : ∀ w', Hid (w'.ownsRow base 3 1 (.slice (some ⟨g, 0, none⟩) n n) n (ivs l)) → Hid (Below base w w') → wpList Tryz.prog ops Q rest (a.put o.dst (goInt n)) w') : wpList Tryz.prog ops Q (o :: rest) a w := by
  obtain ⟨i0, hi, hz0, hz1, hz2⟩ := info_parts Tryz.infoI64
  have hsz : (Tryz.prog.info? 3).map (·.size) = some 1 := by rw [hi, ← hz1]; rfl
  have hlen : (ivs l).length = n := by rw [ivs_len, hl.1]
  have hxs : xs.length = n := by have := hown.1; omega
  refine wpList_copy_splice hgd d s 33 33 ho 3 Tryz.underlying33 hsz (some ⟨g, 0, none⟩) A n n n cap hd hs g 0 xs 3 (own_whole hown) (ivs l) (by rw [hlen]; simp) (fun h0 => ?_) (by omega) (ivs_cell _) base w (Below.refl _ _) hg (fun w' h1 h2 => ?_)
  · rw [hlen] at h0
    obtain ⟨b, off, e1, _, hc⟩ := hl.2.2 h0
    refine ⟨rfl, _, e1, fun j u hu => ?_⟩
    have hj : j < l.length := by
      have := (List.getElem?_eq_some_iff.1 hu).1
      rwa [ivs_len] at this
    rw [ivs_get hj] at hu
    rw [Addr.add_lit, ← hu]
    exact hc j (by have := hl.1; omega)
  · rw [hlen]
    refine h w' ?_ h2
    have h3 := h1.out
    rw [splice_all (by omega)] at h3
    exact own_of_whole h3 hlen hg hn
end Go.Proofs.YtehiaeihkdfclaaGreatDoor
/- A message that the document's Read puts together in a box of its own: its rows of operations and of incarnations beside it. -/
namespace Go.Proofs.YtehiaeihkdfclaaGreatDoor
open Go.RowKit

/-- Blocks behind the box that are none of its rows. -/
def MF (g : Nat) (ov iv : Value) (b : Nat) : Prop := g < b ∧ some b ≠ ov.ownBlock ∧ some b ≠ iv.ownBlock
structure MB (w : World) (g : Nat) (m : MsgD) (sv ov iv : Value) (ps : List (OpD × Value)) : Prop where
  box : w.heap[g]? = some (.cells (m.cells sv ov iv).toArray 35 (0, 0))
  ops : w.ownsRow (g + 1) 26 10 ov ps.length (ps.flatMap fun p => p.1.cells p.2)
  incs : w.ownsRow (g + 1) 3 1 iv m.incs.length (m.incs.map fun x => Value.int .i64 x)
  eq : ps.map (·.1) = m.ops
  st : StepsAt (MF g ov iv) w sv m.op.steps
  sts : ∀ p ∈ ps, StepsAt (MF g ov iv) w p.2 p.1.steps
theorem MB.later {w w' : World} {g : Nat} {m : MsgD} {sv ov iv : Value} {ps : List (OpD × Value)} (h : MB w g m sv ov iv ps) (hl : Later w w') : MB w' g m sv ov iv ps :=
  ⟨(Below.block hl g (lt_of_block h.box)).trans h.box, own_on h.ops hl, own_on h.incs hl, h.eq, h.st.kept (Kept.of_below hl _), fun p hp => (h.sts p hp).kept (Kept.of_below hl _)⟩
theorem ops_one {F : Nat → Prop} {w : World} {ps : List (OpD × Value)} (h : ∀ p ∈ ps, StepsAt F w p.2 p.1.steps) : ∀ u ∈ ps.flatMap (fun p => p.1.cells p.2), u.oneCell' = true := by
  intro u hu
  obtain ⟨p, hp, hu⟩ := List.mem_flatMap.1 hu
  exact p.1.one (FlatAt.oneCell (h p hp)) u hu
theorem MB.lists {w : World} {g : Nat} {m : MsgD} {sv ov iv : Value} {ps : List (OpD × Value)} (h : MB w g m sv ov iv ps) : Lists (fun b => g < b) w m sv ov iv := by
  refine ⟨h.st.mono (fun _ _ hf => hf.1), ⟨ps, h.eq, (FlatAt.of_own h.ops (ops_one h.sts)).mono (fun b _ hf => by have h1 : g + 1 ≤ b := hf; show g < b; omega), fun p hp => (h.sts p hp).mono (fun _ _ hf => hf.1)⟩, ?_⟩
  exact (FlatAt.of_own h.incs (by intro u hu; obtain ⟨x, _, rfl⟩ := List.mem_map.1 hu; rfl)).mono (fun b _ hf => by have h1 : g + 1 ≤ b := hf; show g < b; omega)
theorem own_at_block {w : World} {base e size n k : Nat} {v : Value} {xs : List Value} (h : w.ownsRow base e size v n xs) (hk : v.ownBlock = some k) : ∃ cs, w.heap[k]? = some (.cells cs e (0, 0)) ∧ base ≤ k := by
  rcases h.2 with ⟨h1, _⟩ | ⟨g, cap, cur, hv, h1, h2, _⟩
  · rw [h1] at hk; cases hk
  · rw [hv] at hk
    have : g = k := Option.some.inj hk
    subst this
    exact ⟨_, h2, h1⟩
theorem own_apart {w : World} {b1 b2 e1 e2 s1 s2 n1 n2 : Nat} {v1 v2 : Value} {xs1 xs2 : List Value} (h1 : w.ownsRow b1 e1 s1 v1 n1 xs1) (h2 : w.ownsRow b2 e2 s2 v2 n2 xs2) (hne : e1 ≠ e2) : ∀ k, v1.ownBlock = some k → v2.ownBlock ≠ some k := by
  intro k hk hk2
  obtain ⟨c1, a1, _⟩ := own_at_block h1 hk
  obtain ⟨c2, a2, _⟩ := own_at_block h2 hk2
  rw [a1] at a2
  injection a2 with a2
  injection a2 with _ a2 _
  exact hne a2
theorem own_keep {w w1 : World} {base e size n : Nat} {v : Value} {xs : List Value} {r : Option Nat} (ho : w.ownsRow base e size v n xs) (hg : w.grownBy w1 r) (hne : ∀ k, v.ownBlock = some k → r ≠ some k) : w1.ownsRow base e size v n xs := by
  refine ⟨ho.1, ?_⟩
  rcases ho.2 with h | ⟨k, cap, cur, hv, h1, h2, h3⟩
  · exact .inl h
  · exact .inr ⟨k, cap, cur, hv, h1, (hg.block k (lt_of_block h2) (fun e => hne k (by rw [hv]; rfl) e.symm)).trans h2, h3⟩
theorem set32 {w : World} {g : Nat} {m : MsgD} {sv ov iv v : Value} (h : w.heap[g]? = some (.cells (m.cells sv ov iv).toArray 35 (0, 0))) : (w.setCell ⟨g, 32, none⟩ v).heap[g]? = some (.cells (m.cells sv v iv).toArray 35 (0, 0)) := by
  have h1 := heap_setCells g [v] 32 w _ h
  simp [putAt, MsgD.cells] at h1
  exact h1
theorem set33 {w : World} {g : Nat} {m : MsgD} {sv ov iv v : Value} (h : w.heap[g]? = some (.cells (m.cells sv ov iv).toArray 35 (0, 0))) : (w.setCell ⟨g, 33, none⟩ v).heap[g]? = some (.cells (m.cells sv ov v).toArray 35 (0, 0)) := by
  have h1 := heap_setCells g [v] 33 w _ h
  simp [putAt, MsgD.cells] at h1
  exact h1
/-- With one operation more. -/
theorem MB.addOp {w w1 : World} {g : Nat} {m : MsgD} {sv ov iv ov' : Value} {ps : List (OpD × Value)} {x : OpD} {sx : Value} (h : MB w g m sv ov iv ps) (hx : StepsAt (MF g ov iv) w sx x.steps)
    (ho : w1.ownsRow (g + 1) 26 10 ov' (ps.length + 1) ((ps.flatMap fun p => p.1.cells p.2) ++ x.cells sx)) (hg : w.grownBy w1 ov.ownBlock) (ha : ov'.ownBlock = ov.ownBlock ∨ ov'.ownBlock = some w.heap.size) :
    MB (w1.setCell ⟨g, 32, none⟩ ov') g { m with ops := m.ops ++ [x] } sv ov' iv (ps ++ [(x, sx)]) := by
  have hgb : g < w.heap.size := lt_of_block h.box
  have hng : some g ≠ ov.ownBlock := fun e => by
    obtain ⟨_, _, h1⟩ := own_at_block h.ops e.symm
    omega
  have hgs := grown_set w1 g 32 ov'
  have hst : ∀ s l, StepsAt (MF g ov iv) w s l → StepsAt (MF g ov' iv) (w1.setCell ⟨g, 32, none⟩ ov') s l := fun s l hs => by
    have h1 := hs.mono (G := fun b => MF g ov iv b ∧ some b ≠ ov'.ownBlock) (fun b hb hf => ⟨hf, by
      rcases ha with e | e
      · rw [e]; exact hf.2.1
      · rw [e]; intro h2; have := Option.some.inj h2; omega⟩)
    have h2 := h1.kept (Kept.of_grown hg (fun k e hf => hf.1.2.1 e.symm))
    exact (h2.kept (Kept.of_grown hgs (fun k e hf => by have h1 := Option.some.inj e; have h2 : g < k := hf.1.1; omega))).mono (fun b _ hf => ⟨hf.1.1, hf.2, hf.1.2.2⟩)
  refine ⟨?_, by simpa using own_off ho hgs (by omega), own_off (own_keep h.incs hg (own_apart h.incs h.ops (by decide))) hgs (by omega), ?_, hst _ _ h.st, ?_⟩
  · exact set32 (m := m) ((hg.block g hgb hng).trans h.box)
  · rw [List.map_append, h.eq]; rfl
  · intro p hp
    rcases List.mem_append.1 hp with hp | hp
    · exact hst _ _ (h.sts p hp)
    · obtain rfl : p = (x, sx) := by simpa using hp
      exact hst _ _ hx
/-- With one incarnation more. -/
theorem MB.addInc {w w1 : World} {g : Nat} {m : MsgD} {sv ov iv iv' : Value} {ps : List (OpD × Value)} {x : Int} (h : MB w g m sv ov iv ps)
    (ho : w1.ownsRow (g + 1) 3 1 iv' (m.incs.length + 1) ((m.incs.map fun x => Value.int .i64 x) ++ [.int .i64 x])) (hg : w.grownBy w1 iv.ownBlock) (ha : iv'.ownBlock = iv.ownBlock ∨ iv'.ownBlock = some w.heap.size) :
    MB (w1.setCell ⟨g, 33, none⟩ iv') g { m with incs := m.incs ++ [x] } sv ov iv' ps := by
  have hgb : g < w.heap.size := lt_of_block h.box
  have hng : some g ≠ iv.ownBlock := fun e => by
    obtain ⟨_, _, h1⟩ := own_at_block h.incs e.symm
    omega
  have hgs := grown_set w1 g 33 iv'
  have hst : ∀ s l, StepsAt (MF g ov iv) w s l → StepsAt (MF g ov iv') (w1.setCell ⟨g, 33, none⟩ iv') s l := fun s l hs => by
    have h1 := hs.mono (G := fun b => MF g ov iv b ∧ some b ≠ iv'.ownBlock) (fun b hb hf => ⟨hf, by
      rcases ha with e | e
      · rw [e]; exact hf.2.2
      · rw [e]; intro h2; have := Option.some.inj h2; omega⟩)
    have h2 := h1.kept (Kept.of_grown hg (fun k e hf => hf.1.2.2 e.symm))
    exact (h2.kept (Kept.of_grown hgs (fun k e hf => by have h1 := Option.some.inj e; have h2 : g < k := hf.1.1; omega))).mono (fun b _ hf => ⟨hf.1.1, hf.1.2.1, hf.2⟩)
  refine ⟨?_, own_off (own_keep h.ops hg (own_apart h.ops h.incs (by decide))) hgs (by omega), by simpa using own_off ho hgs (by omega), h.eq, hst _ _ h.st, fun p hp => hst _ _ (h.sts p hp)⟩
  exact set33 (m := m) ((hg.block g hgb hng).trans h.box)

/-- The operations, the incarnations among the first q fields. -/
def opq (ps : List PF) (q : Nat) : List OpD := ((ps.take q).filter fun p => p.1 == 16).map fun p => opQ p.2.2.2
def inq (ps : List PF) (q : Nat) : List Int := ((ps.take q).filter fun p => p.1 == 17).map fun p => zag p.2.2.1
theorem opq_hit {ps : List PF} {q : Nat} {p : PF} (h : ps[q]? = some p) (hp : p.1 = 16) : opq ps (q + 1) = opq ps q ++ [opQ p.2.2.2] := by
  unfold opq; rw [List.take_add_one, h]; simp [List.filter_append, hp]
theorem opq_miss {ps : List PF} {q : Nat} {p : PF} (h : ps[q]? = some p) (hp : ¬ p.1 = 16) : opq ps (q + 1) = opq ps q := by
  unfold opq; rw [List.take_add_one, h]; simp [List.filter_append, hp]
theorem inq_hit {ps : List PF} {q : Nat} {p : PF} (h : ps[q]? = some p) (hp : p.1 = 17) : inq ps (q + 1) = inq ps q ++ [zag p.2.2.1] := by
  unfold inq; rw [List.take_add_one, h]; simp [List.filter_append, hp]
theorem inq_miss {ps : List PF} {q : Nat} {p : PF} (h : ps[q]? = some p) (hp : ¬ p.1 = 17) : inq ps (q + 1) = inq ps q := by
  unfold inq; rw [List.take_add_one, h]; simp [List.filter_append, hp]
theorem opq_le (ps : List PF) (q : Nat) : (opq ps q).length ≤ q := by
  unfold opq; rw [List.length_map]; have h1 := List.length_filter_le (fun p : PF => p.1 == 16) (ps.take q); rw [List.length_take] at h1; omega
theorem inq_le (ps : List PF) (q : Nat) : (inq ps q).length ≤ q := by
  unfold inq; rw [List.length_map]; have h1 := List.length_filter_le (fun p : PF => p.1 == 17) (ps.take q); rw [List.length_take] at h1; omega
/-- The message ahead of its lists. -/
def msgH (b : List Nat) : MsgD := { msgQ b with ops := [], incs := [] }
def msgN (b : List Nat) (q : Nat) : MsgD := { msgQ b with ops := opq (pread b).2 q, incs := inq (pread b).2 q }
theorem msgN_zero (b : List Nat) : msgN b 0 = msgH b := by simp [msgN, msgH, opq, inq]
theorem msgN_all (b : List Nat) {q : Nat} (h : (pread b).2.length ≤ q) : msgN b q = msgQ b := by
  unfold msgN opq inq msgQ
  rw [List.take_of_length_le h]
end Go.Proofs.YtehiaeihkdfclaaGreatDoor
/- The walk over droverref09.inner. -/
namespace Go.Proofs.YtehiaeihkdfclaaGreatDoor
open Go.RowKit

/-- The first nine numbers of a message. -/
def kl (m : MsgD) : List Int := [m.kind, m.src, m.dst, m.view, m.last, m.num, m.commit, m.nonce, m.request]
def nup (m : MsgD) (q : Nat) : List PF := (List.range q).flatMap fun (i : Nat) => pnum ((i : Int) + 1) ((kl m).getD i 0)
theorem nup_succ (m : MsgD) (q : Nat) : nup m (q + 1) = nup m q ++ pnum ((q : Int) + 1) ((kl m).getD q 0) := by simp [nup, List.range_succ]
theorem nup_all (m : MsgD) : nup m 9 = pnum 1 m.kind ++ pnum 2 m.src ++ pnum 3 m.dst ++ pnum 4 m.view ++ pnum 5 m.last ++ pnum 6 m.num ++ pnum 7 m.commit ++ pnum 8 m.nonce ++ pnum 9 m.request := by
  simp only [nup_succ]
  rfl
theorem nup_len (m : MsgD) : ∀ q, (nup m q).length ≤ q
  | 0 => by simp [nup]
  | q + 1 => by rw [nup_succ]; exact len_num (nup_len m q)
theorem kl_fit {m : MsgD} (h : m.wf) {q : Nat} (hq : q < 9) : I64 ((kl m).getD q 0) := by
  obtain ⟨h0, h1, h2, h3, h4, h5, h6, h7, h8, _⟩ := h
  match q, hq with
  | 0, _ => exact h0
  | 1, _ => exact h1
  | 2, _ => exact h2
  | 3, _ => exact h3
  | 4, _ => exact h4
  | 5, _ => exact h5
  | 6, _ => exact h6
  | 7, _ => exact h7
  | 8, _ => exact h8
theorem inn_reply_room (m : MsgD) : proom (replyF m) ≤ 80 := by
  have h1 := proom_num 1 m.rerr
  have h2 := proom_num 2 m.rsaga
  have h3 := proom_num 3 m.rstate
  have h4 := proom_num 4 m.rstep
  have hz : proom [] = 0 := rfl
  simp only [replyF, List.flatten_cons, List.flatten_nil, proom_append, hz]
  omega
theorem inn_cmd_room (m : MsgD) : proom (cmdF m) ≤ 120 := by
  have h1 := proom_num 1 m.cview
  have h2 := proom_num 2 m.cstub
  have h3 := proom_num 3 m.csaga
  have h4 := proom_num 4 m.cstep
  have h5 := proom_num 5 m.ctry
  have h6 := proom_flag 6 m.cback
  have hz : proom [] = 0 := rfl
  simp only [cmdF, List.flatten_cons, List.flatten_nil, proom_append, hz]
  omega
theorem inn_op_room {x : OpD} (h : x.sm 16) : proom (opF x) ≤ 3000 := by have := opF_room h; omega
theorem inn_def_room {x : OpD} (h : x.sm 16) : proom (defF x.defn) ≤ 3000 := by have := defF_room h.2.2.2.1; omega
theorem inn_nup_room (m : MsgD) : ∀ q, proom (nup m q) ≤ 20 * q
  | 0 => by simp [nup, proom]
  | q + 1 => by
    have h := inn_nup_room m q
    have h2 := proom_num ((q : Int) + 1) ((kl m).getD q 0)
    rw [nup_succ, proom_append]
    omega
theorem inn_msg_split (m : MsgD) : msgF m = nup m 9 ++ pflag 10 m.lead ++ pflag 11 m.good ++ pflag 12 m.fenced ++ ptext 13 (opB m.op) ++ ptext 14 (replyB m) ++ ptext 15 (cmdB m) ++ (m.ops.map fun x => prow 16 (opB x)) ++ m.incs.map fun x => pint 17 x := by
  rw [nup_all]
  simp [msgF]
theorem inn_msg_room {m : MsgD} (hsm : m.op.sm 16) (hsms : ∀ x ∈ m.ops, x.sm 16) (hno : m.ops.length ≤ 2000) (hni : m.incs.length ≤ 2000) : proom (msgF m) ≤ 10000000 := by
  have h0 := inn_nup_room m 9
  have h1 := proom_flag 10 m.lead
  have h2 := proom_flag 11 m.good
  have h3 := proom_flag 12 m.fenced
  have h4 := proom_text 13 (opB m.op)
  have h5 := proom_text 14 (replyB m)
  have h6 := proom_text 15 (cmdB m)
  have l4 := Nat.le_trans (prec_len (opF m.op)) (inn_op_room hsm)
  have l5 := Nat.le_trans (prec_len (replyF m)) (inn_reply_room m)
  have l6 := Nat.le_trans (prec_len (cmdF m)) (inn_cmd_room m)
  have h7 := proom_map (fun x => prow 16 (opB x)) 3000 m.ops fun x hx => Nat.le_trans (prec_len (opF x)) (inn_op_room (hsms x hx))
  have h8 := proom_map (fun x => pint 17 x) 0 m.incs fun x _ => Nat.le_refl _
  have h9 : m.ops.length * (20 + 3000) ≤ 2000 * (20 + 3000) := Nat.mul_le_mul_right _ hno
  rw [inn_msg_split]
  simp only [proom_append]
  rw [show opB m.op = prec (opF m.op) from rfl] at h4 ⊢
  rw [show replyB m = prec (replyF m) from rfl] at h5 ⊢
  rw [show cmdB m = prec (cmdF m) from rfl] at h6 ⊢
  generalize proom (nup m 9) = y0 at h0 ⊢
  generalize proom (pflag 10 m.lead) = y1 at h1 ⊢
  generalize proom (pflag 11 m.good) = y2 at h2 ⊢
  generalize proom (pflag 12 m.fenced) = y3 at h3 ⊢
  generalize proom (ptext 13 (prec (opF m.op))) = y4 at h4 ⊢
  generalize proom (ptext 14 (prec (replyF m))) = y5 at h5 ⊢
  generalize proom (ptext 15 (prec (cmdF m))) = y6 at h6 ⊢
  generalize proom (m.ops.map fun x => prow 16 (opB x)) = y7 at h7 ⊢
  generalize proom (m.incs.map fun x => pint 17 x) = y8 at h8 ⊢
  omega

set_option maxHeartbeats 8000000 in
set_option maxRecDepth 100000 in
theorem rinner_any {F : Nat → Prop} {w : World} {m : MsgD} {s o i : Value} (hL : Lists F w m s o i) (hwf : m.wf) (hsm : m.op.sm 16) (hsms : ∀ x ∈ m.ops, x.sm 16) (hno : m.ops.length ≤ 2000) (hni : m.incs.length ≤ 2000) :
    Calls Tryz.prog 28 #[.agg (m.cells s o i).toArray] w (NewBytes w (msgB m)) := by
  have HROOM := hide (inn_msg_room hsm hsms hno hni)
  obtain ⟨s1, s2, s3⟩ := hL.cell
  obtain ⟨sA, sc, rfl, hsl, _, _⟩ := FlatAt.shape hL.1
  obtain ⟨ps, hps, hops⟩ := hL.2.1
  have hpn : ps.length = m.ops.length := by rw [← hps]; simp
  obtain ⟨oA, oc, rfl, _, _, _⟩ := FlatAt.shape hops.1
  obtain ⟨iA, ic, rfl, _, _, _⟩ := FlatAt.shape hL.2.2
  have hst0 := hL.1
  have hin0 := hL.2.2
  have HPS := hide hps
  have HPN := hide hpn
  have HWF := hide hwf
  have HSM := hide hsm
  have HSMS := hide hsms
  have HNO := hide hno
  have HNI := hide hni
  obtain ⟨n2, hn2⟩ : ∃ n, ps.length = n := ⟨_, rfl⟩
  have HN2 := hide hn2
  have hn200 : n2 ≤ 2000 := by omega
  obtain ⟨n3, hn3⟩ : ∃ n, m.incs.length = n := ⟨_, rfl⟩
  have HN3 := hide hn3
  have hi200 : n3 ≤ 2000 := by omega
  obtain ⟨n1, hn1⟩ : ∃ n, m.op.steps.length = n := ⟨_, rfl⟩
  have HN1 := hide hn1
  have hs16 : n1 ≤ 16 := by have := hsm.2.2.2.1.2.1; show _ ≤ _; rw [← hn1]; exact this
  rw [hn2] at hops
  rw [hn3] at hin0
  rw [hn1] at hst0
  have HST := hide hst0
  have HOP := hide hops
  have HIN := hide hin0
  clear hL hst0 hin0 hwf hsm hsms hno hni s1 s2 s3 hsl hps hpn hn2 hn3 hn1 hops
  rw [HN1.out, HN2.out, HN3.out]
  have HX1 : Hid (((w.alloc (.cells (m.cells (.slice sA n1 sc) (.slice oA n2 oc) (.slice iA n3 ic)).toArray 35 (0, 0))).alloc (.cells (ivs (kl m)).toArray 3 (0, 0))).heap[w.heap.size]? = some (.cells (m.cells (.slice sA n1 sc) (.slice oA n2 oc) (.slice iA n3 ic)).toArray 35 (0, 0))) := heap_alloc2_old w _ _
  have HX2 : Hid (((w.alloc (.cells (m.cells (.slice sA n1 sc) (.slice oA n2 oc) (.slice iA n3 ic)).toArray 35 (0, 0))).alloc (.cells (ivs (kl m)).toArray 3 (0, 0))).heap[w.heap.size + 1]? = some (.cells (ivs (kl m)).toArray 3 (0, 0))) := heap_alloc2_new w _ _
  have HLW2 : Hid (Later w ((w.alloc (.cells (m.cells (.slice sA n1 sc) (.slice oA n2 oc) (.slice iA n3 ic)).toArray 35 (0, 0))).alloc (.cells (ivs (kl m)).toArray 3 (0, 0)))) := ((Below.refl _ _).alloc (Nat.le_refl _) _).alloc (by simp) _
  have HSZ : Hid (∀ w', Below (w.heap.size + 2) ((w.alloc (.cells (m.cells (.slice sA n1 sc) (.slice oA n2 oc) (.slice iA n3 ic)).toArray 35 (0, 0))).alloc (.cells (ivs (kl m)).toArray 3 (0, 0))) w' → (w.heap.size + 2) ≤ w'.heap.size) := fun w' h => by have h2 := h.size; simp only [World.size_alloc] at h2; omega
  have HS : Hid (∀ w', Below (w.heap.size + 2) ((w.alloc (.cells (m.cells (.slice sA n1 sc) (.slice oA n2 oc) (.slice iA n3 ic)).toArray 35 (0, 0))).alloc (.cells (ivs (kl m)).toArray 3 (0, 0))) w' → w'.heap[w.heap.size]? = some (.cells (m.cells (.slice sA n1 sc) (.slice oA n2 oc) (.slice iA n3 ic)).toArray 35 (0, 0))) := fun w' h => (h.block w.heap.size (by omega)).trans HX1.out
  have HSL : Hid (∀ w', Below (w.heap.size + 2) ((w.alloc (.cells (m.cells (.slice sA n1 sc) (.slice oA n2 oc) (.slice iA n3 ic)).toArray 35 (0, 0))).alloc (.cells (ivs (kl m)).toArray 3 (0, 0))) w' → w'.heap[w.heap.size + 1]? = some (.cells (ivs (kl m)).toArray 3 (0, 0))) := fun w' h => (h.block (w.heap.size + 1) (by omega)).trans HX2.out
  have HLW : Hid (∀ w', Below (w.heap.size + 2) ((w.alloc (.cells (m.cells (.slice sA n1 sc) (.slice oA n2 oc) (.slice iA n3 ic)).toArray 35 (0, 0))).alloc (.cells (ivs (kl m)).toArray 3 (0, 0))) w' → Later w w') := fun w' h => Below.trans HLW2.out (Below.mono h (by omega))
  have HT : Hid (Below (w.heap.size + 2) ((w.alloc (.cells (m.cells (.slice sA n1 sc) (.slice oA n2 oc) (.slice iA n3 ic)).toArray 35 (0, 0))).alloc (.cells (ivs (kl m)).toArray 3 (0, 0))) ((w.alloc (.cells (m.cells (.slice sA n1 sc) (.slice oA n2 oc) (.slice iA n3 ic)).toArray 35 (0, 0))).alloc (.cells (ivs (kl m)).toArray 3 (0, 0)))) := Below.refl _ _
  have c0 : (w.alloc (.cells (m.cells (.slice sA n1 sc) (.slice oA n2 oc) (.slice iA n3 ic)).toArray 35 (0, 0))).cell? ⟨w.heap.size, 0, none⟩ = some (.int .i64 m.kind) := box_at (heap_alloc_new _ _) 0 _ rfl
  have c1 : (w.alloc (.cells (m.cells (.slice sA n1 sc) (.slice oA n2 oc) (.slice iA n3 ic)).toArray 35 (0, 0))).cell? ⟨w.heap.size, 1, none⟩ = some (.int .i64 m.src) := box_at (heap_alloc_new _ _) 1 _ rfl
  have c2 : (w.alloc (.cells (m.cells (.slice sA n1 sc) (.slice oA n2 oc) (.slice iA n3 ic)).toArray 35 (0, 0))).cell? ⟨w.heap.size, 2, none⟩ = some (.int .i64 m.dst) := box_at (heap_alloc_new _ _) 2 _ rfl
  have c3 : (w.alloc (.cells (m.cells (.slice sA n1 sc) (.slice oA n2 oc) (.slice iA n3 ic)).toArray 35 (0, 0))).cell? ⟨w.heap.size, 3, none⟩ = some (.int .i64 m.view) := box_at (heap_alloc_new _ _) 3 _ rfl
  have c4 : (w.alloc (.cells (m.cells (.slice sA n1 sc) (.slice oA n2 oc) (.slice iA n3 ic)).toArray 35 (0, 0))).cell? ⟨w.heap.size, 4, none⟩ = some (.int .i64 m.last) := box_at (heap_alloc_new _ _) 4 _ rfl
  have c5 : (w.alloc (.cells (m.cells (.slice sA n1 sc) (.slice oA n2 oc) (.slice iA n3 ic)).toArray 35 (0, 0))).cell? ⟨w.heap.size, 5, none⟩ = some (.int .i64 m.num) := box_at (heap_alloc_new _ _) 5 _ rfl
  have c6 : (w.alloc (.cells (m.cells (.slice sA n1 sc) (.slice oA n2 oc) (.slice iA n3 ic)).toArray 35 (0, 0))).cell? ⟨w.heap.size, 6, none⟩ = some (.int .i64 m.commit) := box_at (heap_alloc_new _ _) 6 _ rfl
  have c7 : (w.alloc (.cells (m.cells (.slice sA n1 sc) (.slice oA n2 oc) (.slice iA n3 ic)).toArray 35 (0, 0))).cell? ⟨w.heap.size, 7, none⟩ = some (.int .i64 m.nonce) := box_at (heap_alloc_new _ _) 7 _ rfl
  have c8 : (w.alloc (.cells (m.cells (.slice sA n1 sc) (.slice oA n2 oc) (.slice iA n3 ic)).toArray 35 (0, 0))).cell? ⟨w.heap.size, 8, none⟩ = some (.int .i64 m.request) := box_at (heap_alloc_new _ _) 8 _ rfl
  go_enter Tryz.func28, Tryz.ntmps28
  go_wp2
  clear c0 c1 c2 c3 c4 c5 c6 c7 c8
  go_loopw [3, 33] (fun lv j wr => ∃ q : Nat, q ≤ 9 ∧ j = .int .i64 (q : Int) ∧ DR wr (w.heap.size + 2) lv (nup m q) ∧ Below (w.heap.size + 2) ((w.alloc (.cells (m.cells (.slice sA n1 sc) (.slice oA n2 oc) (.slice iA n3 ic)).toArray 35 (0, 0))).alloc (.cells (ivs (kl m)).toArray 3 (0, 0))) wr) (fun _ j _ => 9 - (Go.RowKit.intOf j).toNat)
  case atStart => exact ⟨0, by omega, rfl, DR.nil _ _, HT.out⟩
  case round =>
    obtain ⟨q, hq, rfl, hdr, hbw⟩ := hrel
    have HD0 := hide hdr
    have HB := hide hbw
    clear hdr hbw
    by_cases hlt : q < 9
    · have hx : wr.cell? ⟨w.heap.size + 1, q, none⟩ = some (.int .i64 ((kl m).getD q 0)) := box_at (HSL.out _ HB.out) q _ (by match q, hlt with | 0, _ => rfl | 1, _ => rfl | 2, _ => rfl | 3, _ => rfl | 4, _ => rfl | 5, _ => rfl | 6, _ => rfl | 7, _ => rfl | 8, _ => rfl)
      have HF := hide (kl_fit HWF.out hlt)
      have HE := hide (nup_succ m q)
      obtain ⟨x, hx2⟩ : ∃ x, (kl m).getD q 0 = x := ⟨_, rfl⟩
      rw [hx2] at hx HF HE
      have C := hide (dnum_any (n := (q : Int) + 1) HD0.out (HSZ.out _ HB.out) (Nat.le_trans (nup_len m q) (by omega)) ⟨by omega, by omega⟩ HF.out)
      clear hx2
      go_wp2_with (fail)
      refine C.out.mono ?_
      rintro e w1 ⟨v1, rfl, hd, hb, _⟩
      have HD1 := hide hd
      have HB1 := hide (HB.out.trans hb)
      clear hd hb C
      go_wp2
      go_roundw
      case rel => exact ⟨q + 1, by omega, by go_num, by rw [HE.out]; exact HD1.out, HB1.out⟩
      case measure => simp [Go.RowKit.intOf]; omega
    · obtain rfl : q = 9 := by omega
      have HN0 := hide (nup_len m 9)
      obtain ⟨p9, hp9⟩ : ∃ p9, nup m 9 = p9 := ⟨_, rfl⟩
      rw [hp9] at HD0 HN0
      have HP9 := hide hp9
      clear hp9
      have HTa0 : Hid (Below (w.heap.size + 2) ((w.alloc (.cells (m.cells (.slice sA n1 sc) (.slice oA n2 oc) (.slice iA n3 ic)).toArray 35 (0, 0))).alloc (.cells (ivs (kl m)).toArray 3 (0, 0))) wr.drew) := HB.out.trans (drew_below _ _)
      have HDa0 := hide (HD0.out.later (Later.drew wr))
      have HNa0 := HN0
      clear HD0 HN0
      go_wp2
      refine wp_region_R (R := fun a c => Below (w.heap.size + 2) a c) (by kernel_rfl) ?_
      refine wpAnyR_take (pre_below (w.heap.size + 2)) (i := 0) (d := some 44) (v := ?vaa0) rfl rfl (by kernel_rfl) (by kernel_rfl) (by kernel_rfl) (fun _ _ _ h => h) (by rfl) ?yaa0 ?_
      case yaa0 => (intro w' hw'; go_simp; try (with_reducible rfl))
      simp only [Act.put]; try simp only [List.setIfInBounds_toArray]; try simp only [List.set_cons_zero, List.set_cons_succ]
      refine wpAnyR_take (pre_below (w.heap.size + 2)) (i := 1) (d := some 45) (v := ?vaa1) rfl rfl (by kernel_rfl) (by kernel_rfl) (by kernel_rfl) (fun _ _ _ h => h) (by rfl) ?yaa1 ?_
      case yaa1 => (intro w' hw'; go_simp; try (with_reducible rfl))
      simp only [Act.put]; try simp only [List.setIfInBounds_toArray]; try simp only [List.set_cons_zero, List.set_cons_succ]
      refine wpAnyR_take (pre_below (w.heap.size + 2)) (i := 2) (d := some 46) (v := .bool m.lead) rfl rfl (by kernel_rfl) (by kernel_rfl) (by kernel_rfl) (fun _ _ _ h => h) (by rfl) ?yaa2 ?_
      case yaa2 => (intro w' hw'; have hx : w'.cell? ⟨w.heap.size, 9, none⟩ = some (.bool m.lead) := box_at (HS.out w' (HTa0.out.trans hw')) 9 _ rfl; go_simp; try (with_reducible rfl))
      simp only [Act.put]; try simp only [List.setIfInBounds_toArray]; try simp only [List.set_cons_zero, List.set_cons_succ]
      refine wpAnyR_take (pre_below (w.heap.size + 2)) (i := 4) (d := some 48) (v := ?vaa4) rfl rfl (by kernel_rfl) (by kernel_rfl) (by kernel_rfl) (fun _ _ _ h => h) (by rfl) ?yaa4 ?_
      case yaa4 => (intro w' hw'; go_simp; try (with_reducible rfl))
      simp only [Act.put]; try simp only [List.setIfInBounds_toArray]; try simp only [List.set_cons_zero, List.set_cons_succ]
      refine wpAnyR_take (pre_below (w.heap.size + 2)) (i := 5) (d := some 49) (v := .bool m.good) rfl rfl (by kernel_rfl) (by kernel_rfl) (by kernel_rfl) (fun _ _ _ h => h) (by rfl) ?yaa5 ?_
      case yaa5 => (intro w' hw'; have hx : w'.cell? ⟨w.heap.size, 10, none⟩ = some (.bool m.good) := box_at (HS.out w' (HTa0.out.trans hw')) 10 _ rfl; go_simp; try (with_reducible rfl))
      simp only [Act.put]; try simp only [List.setIfInBounds_toArray]; try simp only [List.set_cons_zero, List.set_cons_succ]
      refine wpAnyR_take (pre_below (w.heap.size + 2)) (i := 7) (d := some 51) (v := ?vaa7) rfl rfl (by kernel_rfl) (by kernel_rfl) (by kernel_rfl) (fun _ _ _ h => h) (by rfl) ?yaa7 ?_
      case yaa7 => (intro w' hw'; go_simp; try (with_reducible rfl))
      simp only [Act.put]; try simp only [List.setIfInBounds_toArray]; try simp only [List.set_cons_zero, List.set_cons_succ]
      refine wpAnyR_take (pre_below (w.heap.size + 2)) (i := 8) (d := some 52) (v := .bool m.fenced) rfl rfl (by kernel_rfl) (by kernel_rfl) (by kernel_rfl) (fun _ _ _ h => h) (by rfl) ?yaa8 ?_
      case yaa8 => (intro w' hw'; have hx : w'.cell? ⟨w.heap.size, 11, none⟩ = some (.bool m.fenced) := box_at (HS.out w' (HTa0.out.trans hw')) 11 _ rfl; go_simp; try (with_reducible rfl))
      simp only [Act.put]; try simp only [List.setIfInBounds_toArray]; try simp only [List.set_cons_zero, List.set_cons_succ]
      refine wpAnyR_only (i := 3) rfl (by kernel_rfl) (by rfl) fun K hK => ?_
      go_simp
      refine (dyes_any HDa0.out (HSZ.out _ HTa0.out) (Nat.le_trans HNa0.out (by omega)) ⟨by omega, by omega⟩).mono ?_
      rintro e wa1 ⟨vwa1, rfl, hd, hb, _⟩
      have HDa1 := hide hd
      have HTa1 := hide (HTa0.out.trans hb)
      have HNa1 := hide (len_flag (n := 10) (x := m.lead) HNa0.out)
      refine hK.out _ _ hb ?_
      clear hd hb
      clear hK K
      try (simp only [Act.put]; try simp only [List.setIfInBounds_toArray]; try simp only [List.set_cons_zero, List.set_cons_succ])
      refine wpAnyR_only (i := 6) rfl (by kernel_rfl) (by rfl) fun K hK => ?_
      go_simp
      refine (dyes_any HDa1.out (HSZ.out _ HTa1.out) (Nat.le_trans HNa1.out (by omega)) ⟨by omega, by omega⟩).mono ?_
      rintro e wa2 ⟨vwa2, rfl, hd, hb, _⟩
      have HDa2 := hide hd
      have HTa2 := hide (HTa1.out.trans hb)
      have HNa2 := hide (len_flag (n := 11) (x := m.good) HNa1.out)
      refine hK.out _ _ hb ?_
      clear hd hb
      clear hK K
      try (simp only [Act.put]; try simp only [List.setIfInBounds_toArray]; try simp only [List.set_cons_zero, List.set_cons_succ])
      refine wpAnyR_only (i := 9) rfl (by kernel_rfl) (by rfl) fun K hK => ?_
      go_simp
      refine (dyes_any HDa2.out (HSZ.out _ HTa2.out) (Nat.le_trans HNa2.out (by omega)) ⟨by omega, by omega⟩).mono ?_
      rintro e wa3 ⟨vwa3, rfl, hd, hb, _⟩
      have HDa3 := hide hd
      have HTa3 := hide (HTa2.out.trans hb)
      have HNa3 := hide (len_flag (n := 12) (x := m.fenced) HNa2.out)
      refine hK.out _ _ hb ?_
      clear hd hb
      clear hK K
      try (simp only [Act.put]; try simp only [List.setIfInBounds_toArray]; try simp only [List.set_cons_zero, List.set_cons_succ])
      refine wpAnyR_take (pre_below (w.heap.size + 2)) (i := 10) (d := some 3) (v := ?vaa10) rfl rfl (by kernel_rfl) (by kernel_rfl) (by kernel_rfl) (fun _ _ _ h => h) (by rfl) ?yaa10 ?_
      case yaa10 => (intro w' hw'; go_simp; try (with_reducible rfl))
      simp only [Act.put]; try simp only [List.setIfInBounds_toArray]; try simp only [List.set_cons_zero, List.set_cons_succ]
      refine wpAnyR_done (by kernel_rfl) ?_ _
      obtain ⟨p12, hp12⟩ : ∃ p12, p9 ++ pflag 10 m.lead ++ pflag 11 m.good ++ pflag 12 m.fenced = p12 := ⟨_, rfl⟩
      have HDa := HDa3
      have HNa := HNa3
      rw [hp12] at HDa HNa
      have HP12 := hide hp12
      clear hp12 HDa0 HDa1 HDa2 HDa3 HNa0 HNa1 HNa2 HNa3 HTa0 HTa1 HTa2
      have hx3 := HS.out _ HTa3.out
      have c12 : wa3.cell? ⟨w.heap.size, 12, none⟩ = some (.int .i64 m.op.kind) := box_at hx3 12 _ rfl
      have c13 : wa3.cell? ⟨w.heap.size, 13, none⟩ = some (.int .i64 m.op.client) := box_at hx3 13 _ rfl
      have c14 : wa3.cell? ⟨w.heap.size, 14, none⟩ = some (.int .i64 m.op.request) := box_at hx3 14 _ rfl
      have c15 : wa3.cell? ⟨w.heap.size, 15, none⟩ = some (.string m.op.name) := box_at hx3 15 _ rfl
      have c16 : wa3.cell? ⟨w.heap.size, 16, none⟩ = some (.slice sA n1 sc) := box_at hx3 16 _ rfl
      have c17 : wa3.cell? ⟨w.heap.size, 17, none⟩ = some (.int .i64 m.op.saga) := box_at hx3 17 _ rfl
      have c18 : wa3.cell? ⟨w.heap.size, 18, none⟩ = some (.int .i64 m.op.step) := box_at hx3 18 _ rfl
      have c19 : wa3.cell? ⟨w.heap.size, 19, none⟩ = some (.int .i64 m.op.try_) := box_at hx3 19 _ rfl
      have c20 : wa3.cell? ⟨w.heap.size, 20, none⟩ = some (.bool m.op.back) := box_at hx3 20 _ rfl
      have c21 : wa3.cell? ⟨w.heap.size, 21, none⟩ = some (.bool m.op.good) := box_at hx3 21 _ rfl
      have C4 := hide (ropb_any (o := m.op) (sc := sc) (HST.out.kept (Kept.of_below (HLW.out _ HTa3.out) F)) HN1.out.symm HSM.out (by omega) (Nat.le_trans (inn_def_room HSM.out) (by omega)) (Nat.le_trans (inn_op_room HSM.out) (by omega)))
      have HZ3 := hide (HSZ.out _ HTa3.out)
      clear hx3
      go_wp2_with (fail)
      clear c12 c13 c14 c15 c16 c17 c18 c19 c20 c21
      refine C4.out.mono ?_
      rintro e wb ⟨A4, m4, k4, rfl, ho4, hh4, _, hb4⟩
      have hfd4 := own_fd (num := 13) ⟨by omega, by omega⟩ ho4 hh4.2.1
      have HTb : Hid (Below (w.heap.size + 2) ((w.alloc (.cells (m.cells (.slice sA n1 sc) (.slice oA n2 oc) (.slice iA n3 ic)).toArray 35 (0, 0))).alloc (.cells (ivs (kl m)).toArray 3 (0, 0))) wb) := HTa3.out.trans (Below.mono hb4 HZ3.out)
      have C5 := hide (dsome_any (HDa.out.later hb4) (HSZ.out _ HTb.out) (Nat.le_trans HNa.out (by omega)) hfd4)
      clear ho4 hh4 hb4 hfd4 C4
      go_wp2_with (fail)
      refine C5.out.mono ?_
      rintro e wc ⟨vc, rfl, hd, hb, _⟩
      have HDc := hide hd
      have HTc := hide (HTb.out.trans hb)
      have HNc := hide (len_text (n := 13) (x := opB m.op) HNa.out)
      clear hd hb C5 HTb HTa3 HDa HNa HZ3
      obtain ⟨b9, hb9⟩ : ∃ b, wc.heap.size = b := ⟨_, rfl⟩
      have HE9 := hide hb9
      have HS9Z : Hid (∀ w', Below b9 wc w' → b9 ≤ w'.heap.size) := fun w' h => by have h2 := h.size; rw [hb9] at h2; exact h2
      have HS9 : Hid (∀ w', Below b9 wc w' → w'.heap[w.heap.size]? = some (.cells (m.cells (.slice sA n1 sc) (.slice oA n2 oc) (.slice iA n3 ic)).toArray 35 (0, 0))) := fun w' h => HS.out _ (HTc.out.trans (Below.mono h (by rw [← hb9]; exact HSZ.out _ HTc.out)))
      have HTr0 : Hid (Below b9 wc wc.drew) := drew_below _ _
      have HDr0 : Hid (DR wc.drew b9 (.slice none 0 0) []) := DR.nil _ _
      have HNr0 : Hid (([] : List PF).length ≤ 0) := Nat.le_refl _
      clear hb9
      go_wp2
      refine wp_region_R (R := fun a c => Below b9 a c) (by kernel_rfl) ?_
      refine wpAnyR_take (pre_below b9) (i := 0) (d := some 59) (v := ?var0) rfl rfl (by kernel_rfl) (by kernel_rfl) (by kernel_rfl) (fun _ _ _ h => h) (by rfl) ?yar0 ?_
      case yar0 => (intro w' hw'; go_simp; try (with_reducible rfl))
      simp only [Act.put]; try simp only [List.setIfInBounds_toArray]; try simp only [List.set_cons_zero, List.set_cons_succ]
      refine wpAnyR_take (pre_below b9) (i := 1) (d := some 60) (v := ?var1) rfl rfl (by kernel_rfl) (by kernel_rfl) (by kernel_rfl) (fun _ _ _ h => h) (by rfl) ?yar1 ?_
      case yar1 => (intro w' hw'; go_simp; try (with_reducible rfl))
      simp only [Act.put]; try simp only [List.setIfInBounds_toArray]; try simp only [List.set_cons_zero, List.set_cons_succ]
      refine wpAnyR_take (pre_below b9) (i := 2) (d := some 61) (v := .int .i64 m.rerr) rfl rfl (by kernel_rfl) (by kernel_rfl) (by kernel_rfl) (fun _ _ _ h => h) (by rfl) ?yar2 ?_
      case yar2 => (intro w' hw'; have hx : w'.cell? ⟨w.heap.size, 22, none⟩ = some (.int .i64 m.rerr) := box_at (HS9.out w' (HTr0.out.trans hw')) 22 _ rfl; go_simp; try (with_reducible rfl))
      simp only [Act.put]; try simp only [List.setIfInBounds_toArray]; try simp only [List.set_cons_zero, List.set_cons_succ]
      refine wpAnyR_take (pre_below b9) (i := 4) (d := some 63) (v := ?var4) rfl rfl (by kernel_rfl) (by kernel_rfl) (by kernel_rfl) (fun _ _ _ h => h) (by rfl) ?yar4 ?_
      case yar4 => (intro w' hw'; go_simp; try (with_reducible rfl))
      simp only [Act.put]; try simp only [List.setIfInBounds_toArray]; try simp only [List.set_cons_zero, List.set_cons_succ]
      refine wpAnyR_take (pre_below b9) (i := 5) (d := some 64) (v := ?var5) rfl rfl (by kernel_rfl) (by kernel_rfl) (by kernel_rfl) (fun _ _ _ h => h) (by rfl) ?yar5 ?_
      case yar5 => (intro w' hw'; go_simp; try (with_reducible rfl))
      simp only [Act.put]; try simp only [List.setIfInBounds_toArray]; try simp only [List.set_cons_zero, List.set_cons_succ]
      refine wpAnyR_take (pre_below b9) (i := 6) (d := some 65) (v := .int .i64 m.rsaga) rfl rfl (by kernel_rfl) (by kernel_rfl) (by kernel_rfl) (fun _ _ _ h => h) (by rfl) ?yar6 ?_
      case yar6 => (intro w' hw'; have hx : w'.cell? ⟨w.heap.size, 23, none⟩ = some (.int .i64 m.rsaga) := box_at (HS9.out w' (HTr0.out.trans hw')) 23 _ rfl; go_simp; try (with_reducible rfl))
      simp only [Act.put]; try simp only [List.setIfInBounds_toArray]; try simp only [List.set_cons_zero, List.set_cons_succ]
      refine wpAnyR_take (pre_below b9) (i := 8) (d := some 67) (v := ?var8) rfl rfl (by kernel_rfl) (by kernel_rfl) (by kernel_rfl) (fun _ _ _ h => h) (by rfl) ?yar8 ?_
      case yar8 => (intro w' hw'; go_simp; try (with_reducible rfl))
      simp only [Act.put]; try simp only [List.setIfInBounds_toArray]; try simp only [List.set_cons_zero, List.set_cons_succ]
      refine wpAnyR_take (pre_below b9) (i := 9) (d := some 68) (v := ?var9) rfl rfl (by kernel_rfl) (by kernel_rfl) (by kernel_rfl) (fun _ _ _ h => h) (by rfl) ?yar9 ?_
      case yar9 => (intro w' hw'; go_simp; try (with_reducible rfl))
      simp only [Act.put]; try simp only [List.setIfInBounds_toArray]; try simp only [List.set_cons_zero, List.set_cons_succ]
      refine wpAnyR_take (pre_below b9) (i := 10) (d := some 69) (v := .int .i64 m.rstate) rfl rfl (by kernel_rfl) (by kernel_rfl) (by kernel_rfl) (fun _ _ _ h => h) (by rfl) ?yar10 ?_
      case yar10 => (intro w' hw'; have hx : w'.cell? ⟨w.heap.size, 24, none⟩ = some (.int .i64 m.rstate) := box_at (HS9.out w' (HTr0.out.trans hw')) 24 _ rfl; go_simp; try (with_reducible rfl))
      simp only [Act.put]; try simp only [List.setIfInBounds_toArray]; try simp only [List.set_cons_zero, List.set_cons_succ]
      refine wpAnyR_take (pre_below b9) (i := 12) (d := some 71) (v := ?var12) rfl rfl (by kernel_rfl) (by kernel_rfl) (by kernel_rfl) (fun _ _ _ h => h) (by rfl) ?yar12 ?_
      case yar12 => (intro w' hw'; go_simp; try (with_reducible rfl))
      simp only [Act.put]; try simp only [List.setIfInBounds_toArray]; try simp only [List.set_cons_zero, List.set_cons_succ]
      refine wpAnyR_take (pre_below b9) (i := 13) (d := some 72) (v := ?var13) rfl rfl (by kernel_rfl) (by kernel_rfl) (by kernel_rfl) (fun _ _ _ h => h) (by rfl) ?yar13 ?_
      case yar13 => (intro w' hw'; go_simp; try (with_reducible rfl))
      simp only [Act.put]; try simp only [List.setIfInBounds_toArray]; try simp only [List.set_cons_zero, List.set_cons_succ]
      refine wpAnyR_take (pre_below b9) (i := 14) (d := some 73) (v := .int .i64 m.rstep) rfl rfl (by kernel_rfl) (by kernel_rfl) (by kernel_rfl) (fun _ _ _ h => h) (by rfl) ?yar14 ?_
      case yar14 => (intro w' hw'; have hx : w'.cell? ⟨w.heap.size, 25, none⟩ = some (.int .i64 m.rstep) := box_at (HS9.out w' (HTr0.out.trans hw')) 25 _ rfl; go_simp; try (with_reducible rfl))
      simp only [Act.put]; try simp only [List.setIfInBounds_toArray]; try simp only [List.set_cons_zero, List.set_cons_succ]
      refine wpAnyR_only (i := 3) rfl (by kernel_rfl) (by rfl) fun K hK => ?_
      go_simp
      refine (dnum_any HDr0.out (HS9Z.out _ HTr0.out) (Nat.le_trans HNr0.out (by omega)) ⟨by omega, by omega⟩ HWF.out.2.2.2.2.2.2.2.2.2.2.1).mono ?_
      rintro e wr1 ⟨vwr1, rfl, hd, hb, _⟩
      have HDr1 := hide hd
      have HTr1 := hide (HTr0.out.trans hb)
      have HNr1 := hide (len_num (n := 1) (x := m.rerr) HNr0.out)
      refine hK.out _ _ hb ?_
      clear hd hb
      clear hK K
      try (simp only [Act.put]; try simp only [List.setIfInBounds_toArray]; try simp only [List.set_cons_zero, List.set_cons_succ])
      refine wpAnyR_only (i := 7) rfl (by kernel_rfl) (by rfl) fun K hK => ?_
      go_simp
      refine (dnum_any HDr1.out (HS9Z.out _ HTr1.out) (Nat.le_trans HNr1.out (by omega)) ⟨by omega, by omega⟩ HWF.out.2.2.2.2.2.2.2.2.2.2.2.1).mono ?_
      rintro e wr2 ⟨vwr2, rfl, hd, hb, _⟩
      have HDr2 := hide hd
      have HTr2 := hide (HTr1.out.trans hb)
      have HNr2 := hide (len_num (n := 2) (x := m.rsaga) HNr1.out)
      refine hK.out _ _ hb ?_
      clear hd hb
      clear hK K
      try (simp only [Act.put]; try simp only [List.setIfInBounds_toArray]; try simp only [List.set_cons_zero, List.set_cons_succ])
      refine wpAnyR_only (i := 11) rfl (by kernel_rfl) (by rfl) fun K hK => ?_
      go_simp
      refine (dnum_any HDr2.out (HS9Z.out _ HTr2.out) (Nat.le_trans HNr2.out (by omega)) ⟨by omega, by omega⟩ HWF.out.2.2.2.2.2.2.2.2.2.2.2.2.1).mono ?_
      rintro e wr3 ⟨vwr3, rfl, hd, hb, _⟩
      have HDr3 := hide hd
      have HTr3 := hide (HTr2.out.trans hb)
      have HNr3 := hide (len_num (n := 3) (x := m.rstate) HNr2.out)
      refine hK.out _ _ hb ?_
      clear hd hb
      clear hK K
      try (simp only [Act.put]; try simp only [List.setIfInBounds_toArray]; try simp only [List.set_cons_zero, List.set_cons_succ])
      refine wpAnyR_only (i := 15) rfl (by kernel_rfl) (by rfl) fun K hK => ?_
      go_simp
      refine (dnum_any HDr3.out (HS9Z.out _ HTr3.out) (Nat.le_trans HNr3.out (by omega)) ⟨by omega, by omega⟩ HWF.out.2.2.2.2.2.2.2.2.2.2.2.2.2.1).mono ?_
      rintro e wr4 ⟨vwr4, rfl, hd, hb, _⟩
      have HDr4 := hide hd
      have HTr4 := hide (HTr3.out.trans hb)
      have HNr4 := hide (len_num (n := 4) (x := m.rstep) HNr3.out)
      refine hK.out _ _ hb ?_
      clear hd hb
      clear hK K
      try (simp only [Act.put]; try simp only [List.setIfInBounds_toArray]; try simp only [List.set_cons_zero, List.set_cons_succ])
      refine wpAnyR_take (pre_below b9) (i := 16) (d := some 6) (v := ?var16) rfl rfl (by kernel_rfl) (by kernel_rfl) (by kernel_rfl) (fun _ _ _ h => h) (by rfl) ?yar16 ?_
      case yar16 => (intro w' hw'; go_simp; try (with_reducible rfl))
      simp only [Act.put]; try simp only [List.setIfInBounds_toArray]; try simp only [List.set_cons_zero, List.set_cons_succ]
      refine wpAnyR_done (by kernel_rfl) ?_ _
      have hall : ([] : List PF) ++ pnum 1 m.rerr ++ pnum 2 m.rsaga ++ pnum 3 m.rstate ++ pnum 4 m.rstep = replyF m := by simp [replyF]
      have HDr := HDr4
      rw [hall] at HDr
      have C6 := hide (dwrite_any HDr.out (Nat.le_trans (inn_reply_room m) (by omega)))
      have HLr : Hid (Later wc wr4) := by have h := HTr4.out; rw [← HE9.out] at h; exact h
      clear hall HDr0 HDr1 HDr2 HDr3 HDr4 HNr0 HNr1 HNr2 HNr3 HNr4 HTr0 HTr1 HTr2 HTr3 HTr4 HDr
      go_wp2_with (fail)
      refine C6.out.mono ?_
      rintro e wd ⟨A6, m6, k6, rfl, ho6, hh6, _, hb6⟩
      have HLd : Hid (Later wc wd) := HLr.out.trans hb6
      have hfd6 := own_fd (num := 14) ⟨by omega, by omega⟩ ho6 hh6.2.1
      have HTd : Hid (Below (w.heap.size + 2) ((w.alloc (.cells (m.cells (.slice sA n1 sc) (.slice oA n2 oc) (.slice iA n3 ic)).toArray 35 (0, 0))).alloc (.cells (ivs (kl m)).toArray 3 (0, 0))) wd) := HTc.out.trans (Below.mono HLd.out (HSZ.out _ HTc.out))
      have C7 := hide (dsome_any (HDc.out.later HLd.out) (HSZ.out _ HTd.out) (Nat.le_trans HNc.out (by omega)) hfd6)
      clear ho6 hh6 hb6 hfd6 C6 HLr
      go_wp2_with (fail)
      refine C7.out.mono ?_
      rintro e we ⟨ve, rfl, hd, hb, _⟩
      have HDe := hide hd
      have HTe := hide (HTd.out.trans hb)
      have HNe := hide (len_text (n := 14) (x := prec (replyF m)) HNc.out)
      clear hd hb C7 HTd HLd HDc HNc HTc HS9 HS9Z HE9
      have hx3 := HS.out _ HTe.out
      have c26 : we.cell? ⟨w.heap.size, 26, none⟩ = some (.int .i64 m.cview) := box_at hx3 26 _ rfl
      have c27 : we.cell? ⟨w.heap.size, 27, none⟩ = some (.int .i64 m.cstub) := box_at hx3 27 _ rfl
      have c28 : we.cell? ⟨w.heap.size, 28, none⟩ = some (.int .i64 m.csaga) := box_at hx3 28 _ rfl
      have c29 : we.cell? ⟨w.heap.size, 29, none⟩ = some (.int .i64 m.cstep) := box_at hx3 29 _ rfl
      have c30 : we.cell? ⟨w.heap.size, 30, none⟩ = some (.int .i64 m.ctry) := box_at hx3 30 _ rfl
      have c31 : we.cell? ⟨w.heap.size, 31, none⟩ = some (.bool m.cback) := box_at hx3 31 _ rfl
      clear hx3
      have HXk : Hid ((we.alloc (.cells #[.int .i64 m.cview, .int .i64 m.cstub, .int .i64 m.csaga, .int .i64 m.cstep, .int .i64 m.ctry, .bool m.cback] 31 (0, 0))).heap[we.heap.size]? = some (.cells #[.int .i64 m.cview, .int .i64 m.cstub, .int .i64 m.csaga, .int .i64 m.cstep, .int .i64 m.ctry, .bool m.cback] 31 (0, 0))) := heap_alloc_new _ _
      have HSkZ : Hid (∀ w', Below (we.heap.size + 1) (we.alloc (.cells #[.int .i64 m.cview, .int .i64 m.cstub, .int .i64 m.csaga, .int .i64 m.cstep, .int .i64 m.ctry, .bool m.cback] 31 (0, 0))) w' → we.heap.size + 1 ≤ w'.heap.size) := fun w' h => by have h2 := h.size; rw [World.size_alloc] at h2; exact h2
      have HSk : Hid (∀ w', Below (we.heap.size + 1) (we.alloc (.cells #[.int .i64 m.cview, .int .i64 m.cstub, .int .i64 m.csaga, .int .i64 m.cstep, .int .i64 m.ctry, .bool m.cback] 31 (0, 0))) w' → w'.heap[we.heap.size]? = some (.cells #[.int .i64 m.cview, .int .i64 m.cstub, .int .i64 m.csaga, .int .i64 m.cstep, .int .i64 m.ctry, .bool m.cback] 31 (0, 0))) := fun w' h => (h.block we.heap.size (by omega)).trans HXk.out
      have HLk : Hid (∀ w', Below (we.heap.size + 1) (we.alloc (.cells #[.int .i64 m.cview, .int .i64 m.cstub, .int .i64 m.csaga, .int .i64 m.cstep, .int .i64 m.ctry, .bool m.cback] 31 (0, 0))) w' → Later we w') := fun w' h => Below.trans (Later.alloc we _) (Below.mono h (by omega))
      have HTk0 : Hid (Below (we.heap.size + 1) (we.alloc (.cells #[.int .i64 m.cview, .int .i64 m.cstub, .int .i64 m.csaga, .int .i64 m.cstep, .int .i64 m.ctry, .bool m.cback] 31 (0, 0))) (we.alloc (.cells #[.int .i64 m.cview, .int .i64 m.cstub, .int .i64 m.csaga, .int .i64 m.cstep, .int .i64 m.ctry, .bool m.cback] 31 (0, 0))).drew) := drew_below _ _
      have HDk0 : Hid (DR (we.alloc (.cells #[.int .i64 m.cview, .int .i64 m.cstub, .int .i64 m.csaga, .int .i64 m.cstep, .int .i64 m.ctry, .bool m.cback] 31 (0, 0))).drew (we.heap.size + 1) (.slice none 0 0) []) := DR.nil _ _
      have HNk0 : Hid (([] : List PF).length ≤ 0) := Nat.le_refl _
      go_wp2
      clear c26 c27 c28 c29 c30 c31
      refine wp_region_R (R := fun a c => Below (we.heap.size + 1) a c) (by kernel_rfl) ?_
      refine wpAnyR_take (pre_below (we.heap.size + 1)) (i := 0) (d := some 81) (v := ?vak0) rfl rfl (by kernel_rfl) (by kernel_rfl) (by kernel_rfl) (fun _ _ _ h => h) (by rfl) ?yak0 ?_
      case yak0 => (intro w' hw'; go_simp; try (with_reducible rfl))
      simp only [Act.put]; try simp only [List.setIfInBounds_toArray]; try simp only [List.set_cons_zero, List.set_cons_succ]
      refine wpAnyR_take (pre_below (we.heap.size + 1)) (i := 1) (d := some 82) (v := .int .i64 m.cview) rfl rfl (by kernel_rfl) (by kernel_rfl) (by kernel_rfl) (fun _ _ _ h => h) (by rfl) ?yak1 ?_
      case yak1 => (intro w' hw'; have hx : w'.cell? ⟨we.heap.size, 0, none⟩ = some (.int .i64 m.cview) := box_at (HSk.out w' (HTk0.out.trans hw')) 0 _ rfl; go_simp; try (with_reducible rfl))
      simp only [Act.put]; try simp only [List.setIfInBounds_toArray]; try simp only [List.set_cons_zero, List.set_cons_succ]
      refine wpAnyR_take (pre_below (we.heap.size + 1)) (i := 3) (d := some 84) (v := ?vak3) rfl rfl (by kernel_rfl) (by kernel_rfl) (by kernel_rfl) (fun _ _ _ h => h) (by rfl) ?yak3 ?_
      case yak3 => (intro w' hw'; go_simp; try (with_reducible rfl))
      simp only [Act.put]; try simp only [List.setIfInBounds_toArray]; try simp only [List.set_cons_zero, List.set_cons_succ]
      refine wpAnyR_take (pre_below (we.heap.size + 1)) (i := 4) (d := some 85) (v := .int .i64 m.cstub) rfl rfl (by kernel_rfl) (by kernel_rfl) (by kernel_rfl) (fun _ _ _ h => h) (by rfl) ?yak4 ?_
      case yak4 => (intro w' hw'; have hx : w'.cell? ⟨we.heap.size, 1, none⟩ = some (.int .i64 m.cstub) := box_at (HSk.out w' (HTk0.out.trans hw')) 1 _ rfl; go_simp; try (with_reducible rfl))
      simp only [Act.put]; try simp only [List.setIfInBounds_toArray]; try simp only [List.set_cons_zero, List.set_cons_succ]
      refine wpAnyR_take (pre_below (we.heap.size + 1)) (i := 6) (d := some 87) (v := ?vak6) rfl rfl (by kernel_rfl) (by kernel_rfl) (by kernel_rfl) (fun _ _ _ h => h) (by rfl) ?yak6 ?_
      case yak6 => (intro w' hw'; go_simp; try (with_reducible rfl))
      simp only [Act.put]; try simp only [List.setIfInBounds_toArray]; try simp only [List.set_cons_zero, List.set_cons_succ]
      refine wpAnyR_take (pre_below (we.heap.size + 1)) (i := 7) (d := some 88) (v := .int .i64 m.csaga) rfl rfl (by kernel_rfl) (by kernel_rfl) (by kernel_rfl) (fun _ _ _ h => h) (by rfl) ?yak7 ?_
      case yak7 => (intro w' hw'; have hx : w'.cell? ⟨we.heap.size, 2, none⟩ = some (.int .i64 m.csaga) := box_at (HSk.out w' (HTk0.out.trans hw')) 2 _ rfl; go_simp; try (with_reducible rfl))
      simp only [Act.put]; try simp only [List.setIfInBounds_toArray]; try simp only [List.set_cons_zero, List.set_cons_succ]
      refine wpAnyR_take (pre_below (we.heap.size + 1)) (i := 9) (d := some 90) (v := ?vak9) rfl rfl (by kernel_rfl) (by kernel_rfl) (by kernel_rfl) (fun _ _ _ h => h) (by rfl) ?yak9 ?_
      case yak9 => (intro w' hw'; go_simp; try (with_reducible rfl))
      simp only [Act.put]; try simp only [List.setIfInBounds_toArray]; try simp only [List.set_cons_zero, List.set_cons_succ]
      refine wpAnyR_take (pre_below (we.heap.size + 1)) (i := 10) (d := some 91) (v := .int .i64 m.cstep) rfl rfl (by kernel_rfl) (by kernel_rfl) (by kernel_rfl) (fun _ _ _ h => h) (by rfl) ?yak10 ?_
      case yak10 => (intro w' hw'; have hx : w'.cell? ⟨we.heap.size, 3, none⟩ = some (.int .i64 m.cstep) := box_at (HSk.out w' (HTk0.out.trans hw')) 3 _ rfl; go_simp; try (with_reducible rfl))
      simp only [Act.put]; try simp only [List.setIfInBounds_toArray]; try simp only [List.set_cons_zero, List.set_cons_succ]
      refine wpAnyR_take (pre_below (we.heap.size + 1)) (i := 12) (d := some 93) (v := ?vak12) rfl rfl (by kernel_rfl) (by kernel_rfl) (by kernel_rfl) (fun _ _ _ h => h) (by rfl) ?yak12 ?_
      case yak12 => (intro w' hw'; go_simp; try (with_reducible rfl))
      simp only [Act.put]; try simp only [List.setIfInBounds_toArray]; try simp only [List.set_cons_zero, List.set_cons_succ]
      refine wpAnyR_take (pre_below (we.heap.size + 1)) (i := 13) (d := some 94) (v := .int .i64 m.ctry) rfl rfl (by kernel_rfl) (by kernel_rfl) (by kernel_rfl) (fun _ _ _ h => h) (by rfl) ?yak13 ?_
      case yak13 => (intro w' hw'; have hx : w'.cell? ⟨we.heap.size, 4, none⟩ = some (.int .i64 m.ctry) := box_at (HSk.out w' (HTk0.out.trans hw')) 4 _ rfl; go_simp; try (with_reducible rfl))
      simp only [Act.put]; try simp only [List.setIfInBounds_toArray]; try simp only [List.set_cons_zero, List.set_cons_succ]
      refine wpAnyR_only (i := 2) rfl (by kernel_rfl) (by rfl) fun K hK => ?_
      go_simp
      refine (dnum_any HDk0.out (HSkZ.out _ HTk0.out) (Nat.le_trans HNk0.out (by omega)) ⟨by omega, by omega⟩ HWF.out.2.2.2.2.2.2.2.2.2.2.2.2.2.2.1).mono ?_
      rintro e wk1 ⟨vwk1, rfl, hd, hb, _⟩
      have HDk1 := hide hd
      have HTk1 := hide (HTk0.out.trans hb)
      have HNk1 := hide (len_num (n := 1) (x := m.cview) HNk0.out)
      refine hK.out _ _ hb ?_
      clear hd hb
      clear hK K
      try (simp only [Act.put]; try simp only [List.setIfInBounds_toArray]; try simp only [List.set_cons_zero, List.set_cons_succ])
      refine wpAnyR_only (i := 5) rfl (by kernel_rfl) (by rfl) fun K hK => ?_
      go_simp
      refine (dnum_any HDk1.out (HSkZ.out _ HTk1.out) (Nat.le_trans HNk1.out (by omega)) ⟨by omega, by omega⟩ HWF.out.2.2.2.2.2.2.2.2.2.2.2.2.2.2.2.1).mono ?_
      rintro e wk2 ⟨vwk2, rfl, hd, hb, _⟩
      have HDk2 := hide hd
      have HTk2 := hide (HTk1.out.trans hb)
      have HNk2 := hide (len_num (n := 2) (x := m.cstub) HNk1.out)
      refine hK.out _ _ hb ?_
      clear hd hb
      clear hK K
      try (simp only [Act.put]; try simp only [List.setIfInBounds_toArray]; try simp only [List.set_cons_zero, List.set_cons_succ])
      refine wpAnyR_only (i := 8) rfl (by kernel_rfl) (by rfl) fun K hK => ?_
      go_simp
      refine (dnum_any HDk2.out (HSkZ.out _ HTk2.out) (Nat.le_trans HNk2.out (by omega)) ⟨by omega, by omega⟩ HWF.out.2.2.2.2.2.2.2.2.2.2.2.2.2.2.2.2.1).mono ?_
      rintro e wk3 ⟨vwk3, rfl, hd, hb, _⟩
      have HDk3 := hide hd
      have HTk3 := hide (HTk2.out.trans hb)
      have HNk3 := hide (len_num (n := 3) (x := m.csaga) HNk2.out)
      refine hK.out _ _ hb ?_
      clear hd hb
      clear hK K
      try (simp only [Act.put]; try simp only [List.setIfInBounds_toArray]; try simp only [List.set_cons_zero, List.set_cons_succ])
      refine wpAnyR_only (i := 11) rfl (by kernel_rfl) (by rfl) fun K hK => ?_
      go_simp
      refine (dnum_any HDk3.out (HSkZ.out _ HTk3.out) (Nat.le_trans HNk3.out (by omega)) ⟨by omega, by omega⟩ HWF.out.2.2.2.2.2.2.2.2.2.2.2.2.2.2.2.2.2.1).mono ?_
      rintro e wk4 ⟨vwk4, rfl, hd, hb, _⟩
      have HDk4 := hide hd
      have HTk4 := hide (HTk3.out.trans hb)
      have HNk4 := hide (len_num (n := 4) (x := m.cstep) HNk3.out)
      refine hK.out _ _ hb ?_
      clear hd hb
      clear hK K
      try (simp only [Act.put]; try simp only [List.setIfInBounds_toArray]; try simp only [List.set_cons_zero, List.set_cons_succ])
      refine wpAnyR_only (i := 14) rfl (by kernel_rfl) (by rfl) fun K hK => ?_
      go_simp
      refine (dnum_any HDk4.out (HSkZ.out _ HTk4.out) (Nat.le_trans HNk4.out (by omega)) ⟨by omega, by omega⟩ HWF.out.2.2.2.2.2.2.2.2.2.2.2.2.2.2.2.2.2.2.1).mono ?_
      rintro e wk5 ⟨vwk5, rfl, hd, hb, _⟩
      have HDk5 := hide hd
      have HTk5 := hide (HTk4.out.trans hb)
      have HNk5 := hide (len_num (n := 5) (x := m.ctry) HNk4.out)
      refine hK.out _ _ hb ?_
      clear hd hb
      clear hK K
      try (simp only [Act.put]; try simp only [List.setIfInBounds_toArray]; try simp only [List.set_cons_zero, List.set_cons_succ])
      refine wpAnyR_take (pre_below (we.heap.size + 1)) (i := 15) (d := some 8) (v := ?vak15) rfl rfl (by kernel_rfl) (by kernel_rfl) (by kernel_rfl) (fun _ _ _ h => h) (by rfl) ?yak15 ?_
      case yak15 => (intro w' hw'; go_simp; try (with_reducible rfl))
      simp only [Act.put]; try simp only [List.setIfInBounds_toArray]; try simp only [List.set_cons_zero, List.set_cons_succ]
      refine wpAnyR_done (by kernel_rfl) ?_ _
      have hx5 : wk5.cell? ⟨we.heap.size, 5, none⟩ = some (.bool m.cback) := box_at (HSk.out _ HTk5.out) 5 _ rfl
      have C8 := hide (dyes_any (n := 6) (x := m.cback) HDk5.out (HSkZ.out _ HTk5.out) (Nat.le_trans HNk5.out (by omega)) ⟨by omega, by omega⟩)
      go_wp2_with (fail)
      refine C8.out.mono ?_
      rintro e wf ⟨vf, rfl, hd, hb, _⟩
      have hall : ([] : List PF) ++ pnum 1 m.cview ++ pnum 2 m.cstub ++ pnum 3 m.csaga ++ pnum 4 m.cstep ++ pnum 5 m.ctry ++ pflag 6 m.cback = cmdF m := by simp [cmdF]
      rw [hall] at hd
      have C9 := hide (dwrite_any hd (Nat.le_trans (inn_cmd_room m) (by omega)))
      have HLf : Hid (Later we wf) := HLk.out _ (HTk5.out.trans hb)
      clear hall hd hb hx5 C8 HDk0 HDk1 HDk2 HDk3 HDk4 HDk5 HNk0 HNk1 HNk2 HNk3 HNk4 HNk5 HTk0 HTk1 HTk2 HTk3 HTk4 HTk5 HSk HSkZ HLk HXk
      go_wp2_with (fail)
      refine C9.out.mono ?_
      rintro e wg ⟨A9, m9, k9, rfl, ho9, hh9, _, hb9⟩
      have HLg : Hid (Later we wg) := HLf.out.trans hb9
      have hfd9 := own_fd (num := 15) ⟨by omega, by omega⟩ ho9 hh9.2.1
      have HTg : Hid (Below (w.heap.size + 2) ((w.alloc (.cells (m.cells (.slice sA n1 sc) (.slice oA n2 oc) (.slice iA n3 ic)).toArray 35 (0, 0))).alloc (.cells (ivs (kl m)).toArray 3 (0, 0))) wg) := HTe.out.trans (Below.mono HLg.out (HSZ.out _ HTe.out))
      have C10 := hide (dsome_any (HDe.out.later HLg.out) (HSZ.out _ HTg.out) (Nat.le_trans HNe.out (by omega)) hfd9)
      clear ho9 hh9 hb9 hfd9 C9 HLf
      go_wp2_with (fail)
      refine C10.out.mono ?_
      rintro e wh ⟨vh, rfl, hd, hb, _⟩
      have HTh := hide (HTg.out.trans hb)
      have hn := len_text (n := 15) (x := prec (cmdF m)) HNe.out
      obtain ⟨p15, hp15⟩ : ∃ p15, p12 ++ ptext 13 (opB m.op) ++ ptext 14 (prec (replyF m)) ++ ptext 15 (prec (cmdF m)) = p15 := ⟨_, rfl⟩
      rw [hp15] at hd hn
      have HDh := hide hd
      have HNh := hide hn
      have HP15 := hide hp15
      have c32 : wh.cell? ⟨w.heap.size, 32, none⟩ = some (.slice oA n2 oc) := box_at (HS.out _ HTh.out) 32 _ rfl
      clear hd hb hn hp15 C10 HTg HLg HTe HDe HNe
      go_wp2
      clear c32
      obtain ⟨In, hIn⟩ : ∃ In : World → Prop, ∀ w2, In w2 ↔ Below (w.heap.size + 2) ((w.alloc (.cells (m.cells (.slice sA n1 sc) (.slice oA n2 oc) (.slice iA n3 ic)).toArray 35 (0, 0))).alloc (.cells (ivs (kl m)).toArray 3 (0, 0))) w2 := ⟨_, fun _ => Iff.rfl⟩
      have HI := hide hIn
      clear hIn
      go_loopw [3, 106] (fun lv j wr => ∃ q : Nat, q ≤ n2 ∧ j = .int .i64 (q : Int) ∧ DR wr (w.heap.size + 2) lv (p15 ++ (m.ops.take q).map fun x => prow 16 (opB x)) ∧ In wr) (fun _ j _ => n2 - (Go.RowKit.intOf j).toNat)
      case atStart => exact ⟨0, by omega, rfl, by simpa using HDh.out, (HI.out _).2 HTh.out⟩
      case round =>
        obtain ⟨q, hq, rfl, hdr, hbw⟩ := hrel
        have HD := hide hdr
        have HB2 := hide ((HI.out _).1 hbw)
        have HLl := hide (HLW.out _ ((HI.out _).1 hbw))
        clear hdr hbw
        by_cases hlt : q < n2
        · obtain ⟨x, xs, b, off, oc2, hpk, hv, _, _, _, hr, hst⟩ := OpsIn.at_ (HOP.out.kept (Kept.of_below HLl.out F)) (i := q) (by rw [HN2.out]; exact hlt)
          obtain ⟨rfl, rfl⟩ : oA = some ⟨b, off, none⟩ ∧ oc = oc2 := by injection hv with e1 _ e3; exact ⟨e1, e3⟩
          obtain ⟨xA, xc, rfl, _, _, _⟩ := FlatAt.shape hst
          have hok : m.ops[q]? = some x := by rw [← HPS.out, List.getElem?_map, hpk]; rfl
          have HOK := hide hok
          have hsx := HSMS.out x (List.mem_of_getElem? hok)
          obtain ⟨nx, hnx⟩ : ∃ n, x.steps.length = n := ⟨_, rfl⟩
          have HNX := hide hnx
          rw [hnx] at hr hst
          obtain ⟨r0, r1, r2, r3, r4, r5, r6, r7, r8, r9⟩ := range_op hr
          have hstk := hst.kept (Kept.of_below (Later.alloc wr (.cells (x.cells (.slice xA nx xc)).toArray 26 (0, 0))) F)
          have C11 := hide (ropb_any (o := x) (sc := xc) hstk hnx.symm hsx (by omega) (Nat.le_trans (inn_def_room hsx) (by omega)) (Nat.le_trans (inn_op_room hsx) (by omega)))
          have HXo : Hid ((wr.alloc (.cells (x.cells (.slice xA nx xc)).toArray 26 (0, 0))).heap[wr.heap.size]? = some (.cells (x.cells (.slice xA nx xc)).toArray 26 (0, 0))) := heap_alloc_new _ _
          have HLo : Hid (Later wr (wr.alloc (.cells (x.cells (.slice xA nx xc)).toArray 26 (0, 0)))) := Later.alloc _ _
          clear hpk hv hr hst hok hsx hstk hnx
          go_wp2_with (fail)
          clear r0 r1 r2 r3 r4 r5 r6 r7 r8 r9
          refine C11.out.mono ?_
          rintro e wm ⟨A12, m12, k12, rfl, ho12, hh12, _, hb12⟩
          have HLm : Hid (Later wr wm) := HLo.out.trans hb12
          have hfd12 := own_fd (num := 16) ⟨by omega, by omega⟩ ho12 hh12.2.1
          have HTm := hide (HB2.out.trans (Below.mono HLm.out (HSZ.out _ HB2.out)))
          have C12 := hide (dtext_any (HD.out.later HLm.out) (HSZ.out _ HTm.out) (by have h1 := HNh.out; simp only [List.length_append, List.length_map, List.length_take]; omega) hfd12)
          clear ho12 hh12 hb12 hfd12 C11
          go_wp2_with (fail)
          refine C12.out.mono ?_
          rintro e wn ⟨vn, rfl, hd, hb, _⟩
          have HDn := hide hd
          have HTn := hide (HTm.out.trans hb)
          clear hd hb C12
          go_wp2
          go_roundw
          case rel =>
            refine ⟨q + 1, by omega, by go_num, ?_, (HI.out _).2 HTn.out⟩
            have h := HDn.out
            rw [List.take_add_one, HOK.out]
            simpa only [Option.toList_some, List.map_append, List.map_cons, List.map_nil, List.append_assoc] using h
          case measure => simp [Go.RowKit.intOf]; omega
        · obtain rfl : q = n2 := by omega
          have hps : p15 ++ (m.ops.take q).map (fun x => prow 16 (opB x)) = p15 ++ m.ops.map fun x => prow 16 (opB x) := by rw [List.take_of_length_le (by have h1 := HPN.out; have h2 := HN2.out; omega)]
          rw [hps] at HD
          have hnl : (p15 ++ m.ops.map fun x => prow 16 (opB x)).length ≤ 3000 := by have h1 := HNh.out; have h2 := HNO.out; simp only [List.length_append, List.length_map]; omega
          obtain ⟨p16, hp16⟩ : ∃ p16, (p15 ++ m.ops.map fun x => prow 16 (opB x)) = p16 := ⟨_, rfl⟩
          rw [hp16] at HD hnl
          have HP16 := hide hp16
          have HN16 := hide hnl
          have c33 : wr.cell? ⟨w.heap.size, 33, none⟩ = some (.slice iA n3 ic) := box_at (HS.out _ HB2.out) 33 _ rfl
          clear hps hp16 hnl
          obtain ⟨i0, hi, hz0, hz1, hz2⟩ := info_parts Tryz.infoRef9
          go_wp2
          clear c33
          go_loopw [3, 118] (fun lv j wr => ∃ u : Nat, u ≤ n3 ∧ j = .int .i64 (u : Int) ∧ DR wr (w.heap.size + 2) lv (p16 ++ (m.incs.take u).map fun x => pint 17 x) ∧ In wr) (fun _ j _ => n3 - (Go.RowKit.intOf j).toNat)
          case atStart => exact ⟨0, by omega, rfl, by simpa using HD.out, (HI.out _).2 HB2.out⟩
          case round =>
            obtain ⟨u, hu, rfl, hdr, hbw⟩ := hrel
            have HDu := hide hdr
            have HBu := hide ((HI.out _).1 hbw)
            have HLu := hide (HLW.out _ ((HI.out _).1 hbw))
            clear hdr hbw
            by_cases hlt2 : u < n3
            · obtain ⟨x, b, off, ic2, hpk, hv, _, _, _, hc⟩ := IncsAt.at_ (HIN.out.kept (Kept.of_below HLu.out F)) (i := u) (by rw [HN3.out]; exact hlt2)
              obtain ⟨rfl, rfl⟩ : iA = some ⟨b, off, none⟩ ∧ ic = ic2 := by injection hv with e1 _ e3; exact ⟨e1, e3⟩
              have HPK := hide hpk
              have HXI := hide (HWF.out.2.2.2.2.2.2.2.2.2.2.2.2.2.2.2.2.2.2.2.2 x (List.mem_of_getElem? hpk))
              obtain ⟨fds, hdr1, hdr2⟩ := HDu.out
              have hfl : fds.length ≤ 6000 := by have h1 := congrArg List.length hdr2; have h2 := HN16.out; simp only [List.length_map, List.length_append, List.length_take] at h1; omega
              have HR1 := hide hdr1
              have HR2 := hide hdr2
              have HFL := hide hfl
              have O1 := hide (HR1.out.1.alloc (.cells #[.int .i64 17, .bool false, .int .u64 (zig x : Nat), .slice none 0 0] 92))
              have HZu := hide (HSZ.out _ HBu.out)
              clear hpk hv hdr1 hdr2 hfl
              go_wp2_with (fail)
              refine (refzig_any x _ HXI.out.1 HXI.out.2).mono ?_
              rintro e w1 ⟨rfl, rfl⟩
              have hzu := HZu.out
              have hfl := HFL.out
              go_wp2_with (at_builtin; refine wpList_append_own_at _ rfl (.tmp 122) (.tmp 126) 71 rfl (w.heap.size + 2) 92 i0 _ 4 48 Tryz.underlying71 hi hz0 hz1 hz2 rfl (by omega) _ fds.length (fcells fds) rfl O1.out ⟨wr.heap.size, 0, none⟩ 1 1 [.int .i64 17, .bool false, .int .u64 (zig x : Nat), .slice none 0 0] rfl rfl (cells_new wr [.int .i64 17, .bool false, .int .u64 (zig x : Nat), .slice none 0 0] 92) (by intro u hu; simp at hu; rcases hu with rfl | rfl | rfl | rfl <;> rfl) (by simp only [maxLen]; omega) (by omega) (by simp; omega) ?_; intro x2 w2 o2 g2 _ _)
              have hA := (adds_one (f := ⟨17, false, zig x, none, 0, 0, []⟩) HR1.out (FdAt.plain ⟨by omega, by omega⟩ (zig_lt x HXI.out.1 HXI.out.2)) rfl o2 g2).dr HR1.out HR2.out HZu.out
              obtain ⟨v2, hv2, hd2, hb2, _⟩ := hA
              obtain rfl : x2 = v2 := by injection hv2
              have HD2 := hide (show DR w2 (w.heap.size + 2) x2 ((p16 ++ (m.incs.take u).map fun x => pint 17 x) ++ [pint 17 x]) from hd2)
              have HB3 := hide (HBu.out.trans hb2)
              clear o2 g2 hd2 hb2 hv2 hzu hfl
              go_roundw
              case rel =>
                refine ⟨u + 1, by omega, by go_num, ?_, (HI.out _).2 HB3.out⟩
                have h := HD2.out
                rw [List.take_add_one, HPK.out]
                simpa only [Option.toList_some, List.map_append, List.map_cons, List.map_nil, List.append_assoc] using h
              case measure => simp [Go.RowKit.intOf]; omega
            · obtain rfl : u = n3 := by omega
              have hall : p16 ++ (m.incs.take u).map (fun x => pint 17 x) = msgF m := by
                rw [List.take_of_length_le (by have h1 := HN3.out; omega), inn_msg_split, ← HP16.out, ← HP15.out, ← HP12.out, ← HP9.out]
                rfl
              rw [hall] at HDu
              have C := hide (dwrite_any HDu.out HROOM.out)
              clear hall
              go_wp2_with (fail)
              refine C.out.mono ?_
              rintro e w1 ⟨A2, nn2, c2, rfl, h1, h2, h3, h4⟩
              have H1 := hide (own_base h1 (Below.size HLu.out))
              have H2 := hide h2
              have H4 := hide (HLu.out.trans h4)
              clear h1 h2 h4 C
              go_wp2
              go_ret
              exact ⟨A2, nn2, c2, rfl, H1.out, H2.out, h3, H4.out⟩
end Go.Proofs.YtehiaeihkdfclaaGreatDoor
/- The walk over droverref09.Good and Bytes. -/
namespace Go.Proofs.YtehiaeihkdfclaaGreatDoor
open Go.RowKit

/-- The sixteen numbers of a message that must be small. -/
def m16 (m : MsgD) : List Int := [m.src, m.dst, m.view, m.last, m.num, m.commit, m.nonce, m.request, m.rsaga, m.rstate, m.rstep, m.cview, m.cstub, m.csaga, m.cstep, m.ctry]
theorem msgG0_parts (m : MsgD) : msgG0 m = (decide (1 ≤ m.kind) && decide (m.kind ≤ 14) && (m16 m).all mayB && decide (0 ≤ m.rerr) && decide (m.rerr ≤ 15) && opG m.op && decide (m.incs.length ≤ 5) && m.incs.all mayB && m.ops.all opG) := by
  simp only [msgG0, replyG, cmdG, m16, List.all_cons, List.all_nil, Bool.and_true]
  ac_rfl

set_option maxHeartbeats 8000000 in
set_option maxRecDepth 100000 in
theorem rgoodm_any {F : Nat → Prop} {w : World} {m : MsgD} {s o i : Value} (hL : Lists F w m s o i) (hwf : m.wf) (hno : m.ops.length ≤ 2000) (hni : m.incs.length ≤ 2000) :
    Calls Tryz.prog 8 #[.agg (m.cells s o i).toArray] w fun e w' => e = .returned (.bool (msgG m)) ∧ Later w w' := by
  obtain ⟨sA, sc, rfl, hsl, _, _⟩ := FlatAt.shape hL.1
  obtain ⟨ps, hps, hops⟩ := hL.2.1
  have hpn : ps.length = m.ops.length := by rw [← hps]; simp
  obtain ⟨oA, oc, rfl, _, _, _⟩ := FlatAt.shape hops.1
  obtain ⟨iA, ic, rfl, _, _, _⟩ := FlatAt.shape hL.2.2
  have hst0 := hL.1
  have hin0 := hL.2.2
  have HPS := hide hps
  have HPN := hide hpn
  have HWF := hide hwf
  have HNO := hide hno
  have HNI := hide hni
  obtain ⟨n2, hn2⟩ : ∃ n, ps.length = n := ⟨_, rfl⟩
  have HN2 := hide hn2
  have hn200 : n2 ≤ 2000 := by omega
  obtain ⟨n3, hn3⟩ : ∃ n, m.incs.length = n := ⟨_, rfl⟩
  have HN3 := hide hn3
  have hi200 : n3 ≤ 2000 := by omega
  obtain ⟨n1, hn1⟩ : ∃ n, m.op.steps.length = n := ⟨_, rfl⟩
  have HN1 := hide hn1
  rw [hn2] at hops
  rw [hn3] at hin0
  rw [hn1] at hst0
  have HL0 := hL
  rw [hn1, hn2, hn3] at HL0
  have HLS := hide HL0
  have HST := hide hst0
  have HOP := hide hops
  have HIN := hide hin0
  clear hL HL0 hst0 hin0 hwf hno hni hsl hps hpn hn2 hn3 hn1 hops
  rw [HN1.out, HN2.out, HN3.out]
  have HW1 : Hid (Later w (w.alloc (.cells (m.cells (.slice sA n1 sc) (.slice oA n2 oc) (.slice iA n3 ic)).toArray 35 (0, 0)))) := Later.alloc _ _
  have HX1 : Hid ((w.alloc (.cells (m.cells (.slice sA n1 sc) (.slice oA n2 oc) (.slice iA n3 ic)).toArray 35 (0, 0))).heap[w.heap.size]? = some (.cells (m.cells (.slice sA n1 sc) (.slice oA n2 oc) (.slice iA n3 ic)).toArray 35 (0, 0))) := heap_alloc_new _ _
  obtain ⟨W1, hW1⟩ : ∃ W1, W1 = w.alloc (.cells (m.cells (.slice sA n1 sc) (.slice oA n2 oc) (.slice iA n3 ic)).toArray 35 (0, 0)) := ⟨_, rfl⟩
  have hs1 : W1.heap.size = w.heap.size + 1 := by rw [hW1, World.size_alloc]
  rw [← hW1] at HW1 HX1
  have HS : Hid (∀ w', Below (w.heap.size + 1) W1 w' → w'.heap[w.heap.size]? = some (.cells (m.cells (.slice sA n1 sc) (.slice oA n2 oc) (.slice iA n3 ic)).toArray 35 (0, 0))) := fun w' h => (h.block w.heap.size (by omega)).trans HX1.out
  have HSZ : Hid (∀ w', Below (w.heap.size + 1) W1 w' → (w.heap.size + 1) ≤ w'.heap.size) := fun w' h => by have h2 := h.size; omega
  have HLW : Hid (∀ w', Below (w.heap.size + 1) W1 w' → Later w w') := fun w' h => Below.trans HW1.out (Below.mono h (by omega))
  have HE := hide hW1
  have HS1 := hide hs1
  clear hs1 hW1
  go_enter Tryz.func8, Tryz.ntmps8
  go_wp2
  rw [← HE.out]
  have HT0 : Hid (Below (w.heap.size + 1) W1 W1.drew) := drew_below _ _
  refine wp_region_R (R := fun a c => Below (w.heap.size + 1) a c) (by kernel_rfl) ?_
  refine wpAnyR_take (pre_below (w.heap.size + 1)) (i := 0) (d := some 7) (v := ?vaa0) rfl rfl (by kernel_rfl) (by kernel_rfl) (by kernel_rfl) (fun _ _ _ h => h) (by rfl) ?yaa0 ?_
  case yaa0 => (intro w' hw'; go_simp; try (with_reducible rfl))
  simp only [Act.put]; try simp only [List.setIfInBounds_toArray]; try simp only [List.set_cons_zero, List.set_cons_succ]
  refine wpAnyR_take (pre_below (w.heap.size + 1)) (i := 1) (d := some 8) (v := .agg #[.int .i64 m.cview, .int .i64 m.cstub, .int .i64 m.csaga, .int .i64 m.cstep, .int .i64 m.ctry, .bool m.cback]) rfl rfl (by kernel_rfl) (by kernel_rfl) (by kernel_rfl) (fun _ _ _ h => h) (by rfl) ?yaa1 ?_
  case yaa1 => (intro w' hw'; exact exec_load_box 31 _ (by rfl) w.heap.size 26 (by rfl) 35 _ (HS.out w' (HT0.out.trans hw')) 6 _ Tryz.underlying31 (by rfl) (by kernel_rfl) [.int .i64 m.cview, .int .i64 m.cstub, .int .i64 m.csaga, .int .i64 m.cstep, .int .i64 m.ctry, .bool m.cback] (by rfl) (by rfl))
  simp only [Act.put]; try simp only [List.setIfInBounds_toArray]; try simp only [List.set_cons_zero, List.set_cons_succ]
  refine wpAnyR_take (pre_below (w.heap.size + 1)) (i := 2) (d := some 9) (v := ?vaa2) rfl rfl (by kernel_rfl) (by kernel_rfl) (by kernel_rfl) (fun _ _ _ h => h) (by rfl) ?yaa2 ?_
  case yaa2 => (intro w' hw'; go_simp; try (with_reducible rfl))
  simp only [Act.put]; try simp only [List.setIfInBounds_toArray]; try simp only [List.set_cons_zero, List.set_cons_succ]
  refine wpAnyR_take (pre_below (w.heap.size + 1)) (i := 3) (d := some 10) (v := .agg #[.int .i64 m.rerr, .int .i64 m.rsaga, .int .i64 m.rstate, .int .i64 m.rstep]) rfl rfl (by kernel_rfl) (by kernel_rfl) (by kernel_rfl) (fun _ _ _ h => h) (by rfl) ?yaa3 ?_
  case yaa3 => (intro w' hw'; exact exec_load_box 29 _ (by rfl) w.heap.size 22 (by rfl) 35 _ (HS.out w' (HT0.out.trans hw')) 4 _ Tryz.underlying29 (by rfl) (by kernel_rfl) [.int .i64 m.rerr, .int .i64 m.rsaga, .int .i64 m.rstate, .int .i64 m.rstep] (by rfl) (by rfl))
  simp only [Act.put]; try simp only [List.setIfInBounds_toArray]; try simp only [List.set_cons_zero, List.set_cons_succ]
  refine wpAnyR_two (i := 4) (j := 5) rfl rfl (by kernel_rfl) (by rfl) (by rfl) (fun K hK => ?_) (fun K hK => ?_)
  · go_simp
    obtain ⟨W2, hW2⟩ : ∃ W2, W2 = (W1.alloc (.cells #[.int .i64 0, .int .i64 0, .int .i64 0, .int .i64 0, .int .i64 0, .bool false] 31 (0, 0))).drew := ⟨_, rfl⟩
    rw [← hW2]
    have h2 : Below (w.heap.size + 1) W1.drew W2 := by rw [hW2]; exact (Below.refl (w.heap.size + 1) W1.drew).alloc (by show _ ≤ W1.heap.size; have := HS1.out; omega) _
    have X2 : Hid (W2.heap[W1.heap.size]? = some (.cells #[.int .i64 0, .int .i64 0, .int .i64 0, .int .i64 0, .int .i64 0, .bool false] 31 (0, 0))) := by show _ = _; rw [hW2]; exact heap_alloc_new W1 _
    have S2 : Hid (W2.heap.size = W1.heap.size + 1) := by show _ = _; rw [hW2]; exact World.size_alloc _ _
    have T2 : Hid (Below (w.heap.size + 1) W1 W2) := HT0.out.trans h2
    refine hK.out _ _ h2 ?_
    clear h2 hW2
    clear hK K
    try (simp only [Act.put]; try simp only [List.setIfInBounds_toArray]; try simp only [List.set_cons_zero, List.set_cons_succ])
    refine wpAnyR_only (i := 5) rfl (by kernel_rfl) (by rfl) fun K hK => ?_
    go_simp
    obtain ⟨W3, hW3⟩ : ∃ W3, W3 = W2.alloc (.cells #[.int .i64 0, .int .i64 0, .int .i64 0, .int .i64 0] 29 (0, 0)) := ⟨_, rfl⟩
    rw [← hW3]
    have h3 : Below (w.heap.size + 1) W2 W3 := by rw [hW3]; exact (Below.refl _ W2).alloc (by have h1 := HS1.out; have h2 := S2.out; omega) _
    have X3r : Hid (W3.heap[W2.heap.size]? = some (.cells #[.int .i64 0, .int .i64 0, .int .i64 0, .int .i64 0] 29 (0, 0))) := by show _ = _; rw [hW3]; exact heap_alloc_new W2 _
    have X3c : Hid (W3.heap[W1.heap.size]? = some (.cells #[.int .i64 0, .int .i64 0, .int .i64 0, .int .i64 0, .int .i64 0, .bool false] 31 (0, 0))) := by show _ = _; rw [hW3]; exact (Below.block (Later.alloc W2 _) _ (lt_of_block X2.out)).trans X2.out
    have T3 : Hid (Below (w.heap.size + 1) W1 W3) := T2.out.trans h3
    refine hK.out _ _ h3 ?_
    clear h3 hW3 X2
    clear hK K
    try (simp only [Act.put]; try simp only [List.setIfInBounds_toArray]; try simp only [List.set_cons_zero, List.set_cons_succ])
    refine wpAnyR_only (i := 6) rfl (by kernel_rfl) (by rfl) fun K hK => ?_
    refine wp_store_box 31 _ _ (by rfl) W1.heap.size 0 #[.int .i64 m.cview, .int .i64 m.cstub, .int .i64 m.csaga, .int .i64 m.cstep, .int .i64 m.ctry, .bool m.cback] (by rfl) (by rfl) 31 _ X3c.out (by kernel_rfl) (by exact Nat.le_of_ble_eq_true rfl) (by intro u hu; simp at hu; rcases hu with rfl | rfl | rfl | rfl | rfl | rfl <;> rfl) ?_
    intro W4 hb4 hg4
    have X4c : Hid (W4.heap[W1.heap.size]? = some (.cells #[.int .i64 m.cview, .int .i64 m.cstub, .int .i64 m.csaga, .int .i64 m.cstep, .int .i64 m.ctry, .bool m.cback] 31 (0, 0))) := hb4
    have X4r : Hid (W4.heap[W2.heap.size]? = some (.cells #[.int .i64 0, .int .i64 0, .int .i64 0, .int .i64 0] 29 (0, 0))) := (hg4.block _ (lt_of_block X3r.out) (by have := S2.out; simp; omega)).trans X3r.out
    have h4 : Below (w.heap.size + 1) W3 W4 := (Below.refl _ _).grown hg4 (HSZ.out _ T3.out) (fun k hk => by have := Option.some.inj hk; have := S2.out; have := HS1.out; omega)
    have T4 : Hid (Below (w.heap.size + 1) W1 W4) := T3.out.trans h4
    refine hK.out _ _ h4 ?_
    clear h4 hb4 hg4 X3c X3r
    clear hK K
    try simp only [Act.put]
    refine wpAnyR_only (i := 7) rfl (by kernel_rfl) (by rfl) fun K hK => ?_
    refine wp_store_box 29 _ _ (by rfl) W2.heap.size 0 #[.int .i64 m.rerr, .int .i64 m.rsaga, .int .i64 m.rstate, .int .i64 m.rstep] (by rfl) (by rfl) 29 _ X4r.out (by kernel_rfl) (by exact Nat.le_of_ble_eq_true rfl) (by intro u hu; simp at hu; rcases hu with rfl | rfl | rfl | rfl <;> rfl) ?_
    intro W5 hb5 hg5
    have HXR : Hid (W5.heap[W2.heap.size]? = some (.cells #[.int .i64 m.rerr, .int .i64 m.rsaga, .int .i64 m.rstate, .int .i64 m.rstep] 29 (0, 0))) := hb5
    have HXC : Hid (W5.heap[W1.heap.size]? = some (.cells #[.int .i64 m.cview, .int .i64 m.cstub, .int .i64 m.csaga, .int .i64 m.cstep, .int .i64 m.ctry, .bool m.cback] 31 (0, 0))) := (hg5.block _ (lt_of_block X4c.out) (by have := S2.out; simp; omega)).trans X4c.out
    have h5 : Below (w.heap.size + 1) W4 W5 := (Below.refl _ _).grown hg5 (HSZ.out _ T4.out) (fun k hk => by have := Option.some.inj hk; have := S2.out; have := HS1.out; omega)
    have HT5 : Hid (Below (w.heap.size + 1) W1 W5) := T4.out.trans h5
    refine hK.out _ _ h5 ?_
    clear h5 hb5 hg5 X4c X4r T2 T3 T4
    clear hK K
    try simp only [Act.put]
    refine wpAnyR_done (by kernel_rfl) ?_ _
    have c0 : W5.cell? ⟨w.heap.size, 0, none⟩ = some (.int .i64 m.kind) := box_at (HS.out _ HT5.out) 0 _ rfl
    have c1 : W5.cell? ⟨w.heap.size, 1, none⟩ = some (.int .i64 m.src) := box_at (HS.out _ HT5.out) 1 _ rfl
    have c2 : W5.cell? ⟨w.heap.size, 2, none⟩ = some (.int .i64 m.dst) := box_at (HS.out _ HT5.out) 2 _ rfl
    have c3 : W5.cell? ⟨w.heap.size, 3, none⟩ = some (.int .i64 m.view) := box_at (HS.out _ HT5.out) 3 _ rfl
    have c4 : W5.cell? ⟨w.heap.size, 4, none⟩ = some (.int .i64 m.last) := box_at (HS.out _ HT5.out) 4 _ rfl
    have c5 : W5.cell? ⟨w.heap.size, 5, none⟩ = some (.int .i64 m.num) := box_at (HS.out _ HT5.out) 5 _ rfl
    have c6 : W5.cell? ⟨w.heap.size, 6, none⟩ = some (.int .i64 m.commit) := box_at (HS.out _ HT5.out) 6 _ rfl
    have c7 : W5.cell? ⟨w.heap.size, 7, none⟩ = some (.int .i64 m.nonce) := box_at (HS.out _ HT5.out) 7 _ rfl
    have c8 : W5.cell? ⟨w.heap.size, 8, none⟩ = some (.int .i64 m.request) := box_at (HS.out _ HT5.out) 8 _ rfl
    by_cases k0 : m.kind < 1
    · have K0 := hide k0
      go_wp2
      go_ret
      exact ⟨ret_bool (by unfold msgG; rw [msgG0_parts]; rw [decide_eq_false (Int.not_le.2 K0.out)]; simp), HLW.out _ HT5.out⟩
    by_cases k1 : 14 < m.kind
    · have K1 := hide k1
      go_wp2
      go_ret
      exact ⟨ret_bool (by unfold msgG; rw [msgG0_parts]; rw [decide_eq_false (Int.not_le.2 K1.out)]; simp), HLW.out _ HT5.out⟩
    have K0 := hide (Int.not_lt.1 k0)
    have K1 := hide (Int.not_lt.1 k1)
    have r1 : W5.cell? ⟨W2.heap.size, 1, none⟩ = some (.int .i64 m.rsaga) := box_at HXR.out 1 _ rfl
    have r2 : W5.cell? ⟨W2.heap.size, 2, none⟩ = some (.int .i64 m.rstate) := box_at HXR.out 2 _ rfl
    have r3 : W5.cell? ⟨W2.heap.size, 3, none⟩ = some (.int .i64 m.rstep) := box_at HXR.out 3 _ rfl
    have d0 : W5.cell? ⟨W1.heap.size, 0, none⟩ = some (.int .i64 m.cview) := box_at HXC.out 0 _ rfl
    have d1 : W5.cell? ⟨W1.heap.size, 1, none⟩ = some (.int .i64 m.cstub) := box_at HXC.out 1 _ rfl
    have d2 : W5.cell? ⟨W1.heap.size, 2, none⟩ = some (.int .i64 m.csaga) := box_at HXC.out 2 _ rfl
    have d3 : W5.cell? ⟨W1.heap.size, 3, none⟩ = some (.int .i64 m.cstep) := box_at HXC.out 3 _ rfl
    have d4 : W5.cell? ⟨W1.heap.size, 4, none⟩ = some (.int .i64 m.ctry) := box_at HXC.out 4 _ rfl
    obtain ⟨t, ht⟩ : ∃ t, (m16 m).all mayB = t := ⟨_, rfl⟩
    have C := rmay_any (incs_new (m16 m) W5 (by show 16 ≤ 1000; omega)) rfl
    rw [ht] at C
    unfold m16 at C
    simp only [List.map_cons, List.map_nil, List.length_cons, List.length_nil, Nat.zero_add, Nat.reduceAdd] at C
    have HC := hide C
    have HT16 := hide ht
    clear C ht
    go_wp2_with (fail)
    clear c0 c1 c2 c3 c4 c5 c6 c7 c8 r1 r2 r3 d0 d1 d2 d3 d4
    refine HC.out.mono ?_
    rintro e w6 ⟨rfl, hw6⟩
    have HT6 : Hid (Below (w.heap.size + 1) W1 w6) := by rw [hw6]; exact HT5.out.trans ((Below.refl _ _).alloc (HSZ.out _ HT5.out) _)
    have r0 : w6.cell? ⟨W2.heap.size, 0, none⟩ = some (.int .i64 m.rerr) := box_at (by rw [hw6]; exact (Below.block (Later.alloc W5 _) _ (lt_of_block HXR.out)).trans HXR.out) 0 _ rfl
    clear hw6 HC HXR HXC HT5
    cases t
    · clear r0
      go_wp2
      go_ret
      exact ⟨ret_bool (by unfold msgG; rw [msgG0_parts]; rw [HT16.out]; simp), HLW.out _ HT6.out⟩
    by_cases e0 : m.rerr < 0
    · have E0 := hide e0
      go_wp2
      go_ret
      exact ⟨ret_bool (by unfold msgG; rw [msgG0_parts]; rw [decide_eq_false (Int.not_le.2 E0.out)]; simp), HLW.out _ HT6.out⟩
    by_cases e1 : 15 < m.rerr
    · have E1 := hide e1
      go_wp2
      go_ret
      exact ⟨ret_bool (by unfold msgG; rw [msgG0_parts]; rw [decide_eq_false (Int.not_le.2 E1.out)]; simp), HLW.out _ HT6.out⟩
    have E0 := hide (Int.not_lt.1 e0)
    have E1 := hide (Int.not_lt.1 e1)
    have c12 : w6.cell? ⟨w.heap.size, 12, none⟩ = some (.int .i64 m.op.kind) := box_at (HS.out _ HT6.out) 12 _ rfl
    have c13 : w6.cell? ⟨w.heap.size, 13, none⟩ = some (.int .i64 m.op.client) := box_at (HS.out _ HT6.out) 13 _ rfl
    have c14 : w6.cell? ⟨w.heap.size, 14, none⟩ = some (.int .i64 m.op.request) := box_at (HS.out _ HT6.out) 14 _ rfl
    have c15 : w6.cell? ⟨w.heap.size, 15, none⟩ = some (.string m.op.name) := box_at (HS.out _ HT6.out) 15 _ rfl
    have c16 : w6.cell? ⟨w.heap.size, 16, none⟩ = some (.slice sA n1 sc) := box_at (HS.out _ HT6.out) 16 _ rfl
    have c17 : w6.cell? ⟨w.heap.size, 17, none⟩ = some (.int .i64 m.op.saga) := box_at (HS.out _ HT6.out) 17 _ rfl
    have c18 : w6.cell? ⟨w.heap.size, 18, none⟩ = some (.int .i64 m.op.step) := box_at (HS.out _ HT6.out) 18 _ rfl
    have c19 : w6.cell? ⟨w.heap.size, 19, none⟩ = some (.int .i64 m.op.try_) := box_at (HS.out _ HT6.out) 19 _ rfl
    have c20 : w6.cell? ⟨w.heap.size, 20, none⟩ = some (.bool m.op.back) := box_at (HS.out _ HT6.out) 20 _ rfl
    have c21 : w6.cell? ⟨w.heap.size, 21, none⟩ = some (.bool m.op.good) := box_at (HS.out _ HT6.out) 21 _ rfl
    obtain ⟨td, htd⟩ : ∃ t, opG m.op = t := ⟨_, rfl⟩
    have CG := hide (rgoodop_any (x := m.op) (sc := sc) (HST.out.kept (Kept.of_below (HLW.out _ HT6.out) F)) HN1.out.symm)
    rw [htd] at CG
    have HTD := hide htd
    clear htd
    go_wp2_with (fail)
    clear r0 c12 c13 c14 c15 c16 c17 c18 c19 c20 c21
    refine CG.out.mono ?_
    rintro e w7 ⟨rfl, hl⟩
    have HT7 : Hid (Below (w.heap.size + 1) W1 w7) := HT6.out.trans (Below.mono hl (HSZ.out _ HT6.out))
    clear hl CG HT6
    cases td
    · go_wp2
      go_ret
      exact ⟨ret_bool (by unfold msgG; rw [msgG0_parts]; rw [HTD.out]; simp), HLW.out _ HT7.out⟩
    have c33 : w7.cell? ⟨w.heap.size, 33, none⟩ = some (.slice iA n3 ic) := box_at (HS.out _ HT7.out) 33 _ rfl
    by_cases k5 : 5 < n3
    · have K5 : Hid (¬ m.incs.length ≤ 5) := by show ¬ _; rw [HN3.out]; omega
      go_wp2
      go_ret
      exact ⟨ret_bool (by unfold msgG; rw [msgG0_parts]; rw [decide_eq_false K5.out]; simp), HLW.out _ HT7.out⟩
    have K5 : Hid (m.incs.length ≤ 5) := by show _ ≤ _; rw [HN3.out]; omega
    obtain ⟨tf, htf⟩ : ∃ t, m.incs.all mayB = t := ⟨_, rfl⟩
    have CI := hide (rmay_any (HIN.out.kept (Kept.of_below (HLW.out _ HT7.out) F)) HN3.out.symm)
    rw [htf] at CI
    have HTF := hide htf
    clear htf
    go_wp2_with (fail)
    refine CI.out.mono ?_
    rintro e w8 ⟨rfl, hq⟩
    obtain rfl := hq.symm
    clear CI
    cases tf
    · clear c33
      go_wp2
      go_ret
      exact ⟨ret_bool (by unfold msgG; rw [msgG0_parts]; rw [HTF.out]; simp), HLW.out _ HT7.out⟩
    have c32 : w7.cell? ⟨w.heap.size, 32, none⟩ = some (.slice oA n2 oc) := box_at (HS.out _ HT7.out) 32 _ rfl
    go_wp2
    clear c32 c33
    obtain ⟨In, hIn⟩ : ∃ In : World → Prop, ∀ w2, In w2 ↔ Below (w.heap.size + 1) W1 w2 := ⟨_, fun _ => Iff.rfl⟩
    have HI := hide hIn
    clear hIn
    go_loopw [85] (fun j wr => ∃ q : Nat, q ≤ n2 ∧ j = .int .i64 (q : Int) ∧ (m.ops.take q).all opG = true ∧ In wr) (fun j _ => n2 - (Go.RowKit.intOf j).toNat)
    case atStart => exact ⟨0, by omega, rfl, rfl, (HI.out _).2 HT7.out⟩
    case round =>
      obtain ⟨q, hq, rfl, hall, hin⟩ := hrel
      have HA := hide hall
      have HB := hide ((HI.out _).1 hin)
      have HLB := hide (HLW.out _ ((HI.out _).1 hin))
      clear hall hin
      by_cases hlt : q < n2
      · obtain ⟨x, xs, b, off, oc2, hpk, hv, _, _, _, hr, hst⟩ := OpsIn.at_ (HOP.out.kept (Kept.of_below HLB.out F)) (i := q) (by rw [HN2.out]; exact hlt)
        obtain ⟨rfl, rfl⟩ : oA = some ⟨b, off, none⟩ ∧ oc = oc2 := by injection hv with e1 _ e3; exact ⟨e1, e3⟩
        obtain ⟨xA, xc, rfl, _, _, _⟩ := FlatAt.shape hst
        have hok : m.ops[q]? = some x := by rw [← HPS.out, List.getElem?_map, hpk]; rfl
        have HOK := hide hok
        obtain ⟨nx, hnx⟩ : ∃ n, x.steps.length = n := ⟨_, rfl⟩
        rw [hnx] at hr hst
        obtain ⟨r0, r1, r2, r3, r4, r5, r6, r7, r8, r9⟩ := range_op hr
        have hstk := hst.kept (Kept.of_below (Later.alloc wr (.cells (x.cells (.slice xA nx xc)).toArray 26 (0, 0))) F)
        obtain ⟨tx, htx⟩ : ∃ t, opG x = t := ⟨_, rfl⟩
        have C := hide (rgoodop_any (x := x) (sc := xc) hstk hnx.symm)
        rw [htx] at C
        have HTX := hide htx
        have HTo : Hid (Below (w.heap.size + 1) _ (wr.alloc (.cells (x.cells (.slice xA nx xc)).toArray 26 (0, 0)))) := HB.out.trans ((Below.refl _ _).alloc (HSZ.out _ HB.out) _)
        clear hpk hv hr hst hok hstk hnx htx
        go_wp2_with (fail)
        clear r0 r1 r2 r3 r4 r5 r6 r7 r8 r9
        refine C.out.mono ?_
        rintro e wn ⟨rfl, hl⟩
        have HTn := hide (HTo.out.trans (Below.mono hl (HSZ.out _ HTo.out)))
        clear hl C
        cases tx
        · have hno : m.ops.all opG = false := by
            rw [Bool.eq_false_iff]
            intro h2
            rw [List.all_eq_true] at h2
            have h3 := h2 x (List.mem_of_getElem? HOK.out)
            rw [HTX.out] at h3
            cases h3
          have HNO2 := hide hno
          clear hno
          go_wp2
          go_ret
          exact ⟨ret_bool (by unfold msgG; rw [msgG0_parts]; rw [HNO2.out]; simp), HLW.out _ HTn.out⟩
        have hnx : (m.ops.take (q + 1)).all opG = true := by
          rw [List.take_add_one, HOK.out, List.all_append, HA.out]
          simp [HTX.out]
        have HNX := hide hnx
        clear hnx
        go_wp2
        go_roundw
        case rel => exact ⟨q + 1, by omega, by go_num, HNX.out, (HI.out _).2 HTn.out⟩
        case measure => simp [Go.RowKit.intOf]; omega
      · obtain rfl : q = n2 := by omega
        have hall : m.ops.all opG = true := by
          have h1 := HA.out
          rwa [List.take_of_length_le (by have h1 := HPN.out; have h2 := HN2.out; omega)] at h1
        have h0 : msgG0 m = true := by rw [msgG0_parts, HT16.out, HTD.out, HTF.out, hall, decide_eq_true K0.out, decide_eq_true K1.out, decide_eq_true E0.out, decide_eq_true E1.out, decide_eq_true K5.out]; rfl
        have H0 := hide h0
        have CN := hide (rinner_any (HLS.out.kept (Kept.of_below HLB.out F)) HWF.out (opG_sm HTD.out) (fun x hx => opG_sm (List.all_eq_true.1 hall x hx)) HNO.out HNI.out)
        have hn9 := inn_msg_room (opG_sm HTD.out) (fun x hx => opG_sm (List.all_eq_true.1 hall x hx)) HNO.out HNI.out
        have hlen : (msgB m).length ≤ 10000000 := Nat.le_trans (prec_len (msgF m)) hn9
        have HLEN := hide hlen
        have HXW := hide (HS.out _ HB.out)
        clear hall h0 hn9 hlen
        go_wp2_with (refine wpList_load_box (by rfl) 35 _ (by rfl) w.heap.size 0 (by rfl) 35 _ (HXW.out) 34 _ Tryz.underlying35 (by rfl) (by kernel_rfl) (m.cells (.slice sA n1 sc) (.slice oA q oc) (.slice iA n3 ic)) (by rfl) (by rfl) ?_)
        refine CN.out.mono ?_
        rintro e wz ⟨A9, n9, c9, rfl, _, hh, _, hb⟩
        have HZ : Hid ((msgB m).length = n9) := hh.1
        have HTz := hide (HLB.out.trans hb)
        have hn9 : n9 ≤ 10000000 := by rw [← HZ.out]; exact HLEN.out
        clear hh hb CN
        go_wp2
        go_ret
        exact ⟨ret_bool (by unfold msgG; rw [H0.out, HZ.out, Bool.true_and]; by_cases h : n9 ≤ 65536 <;> simp [h] <;> omega), HTz.out⟩
  · go_simp
    obtain ⟨W2, hW2⟩ : ∃ W2, W2 = (W1.alloc (.cells #[.int .i64 0, .int .i64 0, .int .i64 0, .int .i64 0] 29 (0, 0))).drew := ⟨_, rfl⟩
    rw [← hW2]
    have h2 : Below (w.heap.size + 1) W1.drew W2 := by rw [hW2]; exact (Below.refl (w.heap.size + 1) W1.drew).alloc (by show _ ≤ W1.heap.size; have := HS1.out; omega) _
    have X2 : Hid (W2.heap[W1.heap.size]? = some (.cells #[.int .i64 0, .int .i64 0, .int .i64 0, .int .i64 0] 29 (0, 0))) := by show _ = _; rw [hW2]; exact heap_alloc_new W1 _
    have S2 : Hid (W2.heap.size = W1.heap.size + 1) := by show _ = _; rw [hW2]; exact World.size_alloc _ _
    have T2 : Hid (Below (w.heap.size + 1) W1 W2) := HT0.out.trans h2
    refine hK.out _ _ h2 ?_
    clear h2 hW2
    clear hK K
    try (simp only [Act.put]; try simp only [List.setIfInBounds_toArray]; try simp only [List.set_cons_zero, List.set_cons_succ])
    refine wpAnyR_only (i := 4) rfl (by kernel_rfl) (by rfl) fun K hK => ?_
    go_simp
    obtain ⟨W3, hW3⟩ : ∃ W3, W3 = W2.alloc (.cells #[.int .i64 0, .int .i64 0, .int .i64 0, .int .i64 0, .int .i64 0, .bool false] 31 (0, 0)) := ⟨_, rfl⟩
    rw [← hW3]
    have h3 : Below (w.heap.size + 1) W2 W3 := by rw [hW3]; exact (Below.refl _ W2).alloc (by have h1 := HS1.out; have h2 := S2.out; omega) _
    have X3c : Hid (W3.heap[W2.heap.size]? = some (.cells #[.int .i64 0, .int .i64 0, .int .i64 0, .int .i64 0, .int .i64 0, .bool false] 31 (0, 0))) := by show _ = _; rw [hW3]; exact heap_alloc_new W2 _
    have X3r : Hid (W3.heap[W1.heap.size]? = some (.cells #[.int .i64 0, .int .i64 0, .int .i64 0, .int .i64 0] 29 (0, 0))) := by show _ = _; rw [hW3]; exact (Below.block (Later.alloc W2 _) _ (lt_of_block X2.out)).trans X2.out
    have T3 : Hid (Below (w.heap.size + 1) W1 W3) := T2.out.trans h3
    refine hK.out _ _ h3 ?_
    clear h3 hW3 X2
    clear hK K
    try (simp only [Act.put]; try simp only [List.setIfInBounds_toArray]; try simp only [List.set_cons_zero, List.set_cons_succ])
    refine wpAnyR_only (i := 6) rfl (by kernel_rfl) (by rfl) fun K hK => ?_
    refine wp_store_box 31 _ _ (by rfl) W2.heap.size 0 #[.int .i64 m.cview, .int .i64 m.cstub, .int .i64 m.csaga, .int .i64 m.cstep, .int .i64 m.ctry, .bool m.cback] (by rfl) (by rfl) 31 _ X3c.out (by kernel_rfl) (by exact Nat.le_of_ble_eq_true rfl) (by intro u hu; simp at hu; rcases hu with rfl | rfl | rfl | rfl | rfl | rfl <;> rfl) ?_
    intro W4 hb4 hg4
    have X4c : Hid (W4.heap[W2.heap.size]? = some (.cells #[.int .i64 m.cview, .int .i64 m.cstub, .int .i64 m.csaga, .int .i64 m.cstep, .int .i64 m.ctry, .bool m.cback] 31 (0, 0))) := hb4
    have X4r : Hid (W4.heap[W1.heap.size]? = some (.cells #[.int .i64 0, .int .i64 0, .int .i64 0, .int .i64 0] 29 (0, 0))) := (hg4.block _ (lt_of_block X3r.out) (by have := S2.out; simp; omega)).trans X3r.out
    have h4 : Below (w.heap.size + 1) W3 W4 := (Below.refl _ _).grown hg4 (HSZ.out _ T3.out) (fun k hk => by have := Option.some.inj hk; have := S2.out; have := HS1.out; omega)
    have T4 : Hid (Below (w.heap.size + 1) W1 W4) := T3.out.trans h4
    refine hK.out _ _ h4 ?_
    clear h4 hb4 hg4 X3c X3r
    clear hK K
    try simp only [Act.put]
    refine wpAnyR_only (i := 7) rfl (by kernel_rfl) (by rfl) fun K hK => ?_
    refine wp_store_box 29 _ _ (by rfl) W1.heap.size 0 #[.int .i64 m.rerr, .int .i64 m.rsaga, .int .i64 m.rstate, .int .i64 m.rstep] (by rfl) (by rfl) 29 _ X4r.out (by kernel_rfl) (by exact Nat.le_of_ble_eq_true rfl) (by intro u hu; simp at hu; rcases hu with rfl | rfl | rfl | rfl <;> rfl) ?_
    intro W5 hb5 hg5
    have HXR : Hid (W5.heap[W1.heap.size]? = some (.cells #[.int .i64 m.rerr, .int .i64 m.rsaga, .int .i64 m.rstate, .int .i64 m.rstep] 29 (0, 0))) := hb5
    have HXC : Hid (W5.heap[W2.heap.size]? = some (.cells #[.int .i64 m.cview, .int .i64 m.cstub, .int .i64 m.csaga, .int .i64 m.cstep, .int .i64 m.ctry, .bool m.cback] 31 (0, 0))) := (hg5.block _ (lt_of_block X4c.out) (by have := S2.out; simp; omega)).trans X4c.out
    have h5 : Below (w.heap.size + 1) W4 W5 := (Below.refl _ _).grown hg5 (HSZ.out _ T4.out) (fun k hk => by have := Option.some.inj hk; have := S2.out; have := HS1.out; omega)
    have HT5 : Hid (Below (w.heap.size + 1) W1 W5) := T4.out.trans h5
    refine hK.out _ _ h5 ?_
    clear h5 hb5 hg5 X4c X4r T2 T3 T4
    clear hK K
    try simp only [Act.put]
    refine wpAnyR_done (by kernel_rfl) ?_ _
    have c0 : W5.cell? ⟨w.heap.size, 0, none⟩ = some (.int .i64 m.kind) := box_at (HS.out _ HT5.out) 0 _ rfl
    have c1 : W5.cell? ⟨w.heap.size, 1, none⟩ = some (.int .i64 m.src) := box_at (HS.out _ HT5.out) 1 _ rfl
    have c2 : W5.cell? ⟨w.heap.size, 2, none⟩ = some (.int .i64 m.dst) := box_at (HS.out _ HT5.out) 2 _ rfl
    have c3 : W5.cell? ⟨w.heap.size, 3, none⟩ = some (.int .i64 m.view) := box_at (HS.out _ HT5.out) 3 _ rfl
    have c4 : W5.cell? ⟨w.heap.size, 4, none⟩ = some (.int .i64 m.last) := box_at (HS.out _ HT5.out) 4 _ rfl
    have c5 : W5.cell? ⟨w.heap.size, 5, none⟩ = some (.int .i64 m.num) := box_at (HS.out _ HT5.out) 5 _ rfl
    have c6 : W5.cell? ⟨w.heap.size, 6, none⟩ = some (.int .i64 m.commit) := box_at (HS.out _ HT5.out) 6 _ rfl
    have c7 : W5.cell? ⟨w.heap.size, 7, none⟩ = some (.int .i64 m.nonce) := box_at (HS.out _ HT5.out) 7 _ rfl
    have c8 : W5.cell? ⟨w.heap.size, 8, none⟩ = some (.int .i64 m.request) := box_at (HS.out _ HT5.out) 8 _ rfl
    by_cases k0 : m.kind < 1
    · have K0 := hide k0
      go_wp2
      go_ret
      exact ⟨ret_bool (by unfold msgG; rw [msgG0_parts]; rw [decide_eq_false (Int.not_le.2 K0.out)]; simp), HLW.out _ HT5.out⟩
    by_cases k1 : 14 < m.kind
    · have K1 := hide k1
      go_wp2
      go_ret
      exact ⟨ret_bool (by unfold msgG; rw [msgG0_parts]; rw [decide_eq_false (Int.not_le.2 K1.out)]; simp), HLW.out _ HT5.out⟩
    have K0 := hide (Int.not_lt.1 k0)
    have K1 := hide (Int.not_lt.1 k1)
    have r1 : W5.cell? ⟨W1.heap.size, 1, none⟩ = some (.int .i64 m.rsaga) := box_at HXR.out 1 _ rfl
    have r2 : W5.cell? ⟨W1.heap.size, 2, none⟩ = some (.int .i64 m.rstate) := box_at HXR.out 2 _ rfl
    have r3 : W5.cell? ⟨W1.heap.size, 3, none⟩ = some (.int .i64 m.rstep) := box_at HXR.out 3 _ rfl
    have d0 : W5.cell? ⟨W2.heap.size, 0, none⟩ = some (.int .i64 m.cview) := box_at HXC.out 0 _ rfl
    have d1 : W5.cell? ⟨W2.heap.size, 1, none⟩ = some (.int .i64 m.cstub) := box_at HXC.out 1 _ rfl
    have d2 : W5.cell? ⟨W2.heap.size, 2, none⟩ = some (.int .i64 m.csaga) := box_at HXC.out 2 _ rfl
    have d3 : W5.cell? ⟨W2.heap.size, 3, none⟩ = some (.int .i64 m.cstep) := box_at HXC.out 3 _ rfl
    have d4 : W5.cell? ⟨W2.heap.size, 4, none⟩ = some (.int .i64 m.ctry) := box_at HXC.out 4 _ rfl
    obtain ⟨t, ht⟩ : ∃ t, (m16 m).all mayB = t := ⟨_, rfl⟩
    have C := rmay_any (incs_new (m16 m) W5 (by show 16 ≤ 1000; omega)) rfl
    rw [ht] at C
    unfold m16 at C
    simp only [List.map_cons, List.map_nil, List.length_cons, List.length_nil, Nat.zero_add, Nat.reduceAdd] at C
    have HC := hide C
    have HT16 := hide ht
    clear C ht
    go_wp2_with (fail)
    clear c0 c1 c2 c3 c4 c5 c6 c7 c8 r1 r2 r3 d0 d1 d2 d3 d4
    refine HC.out.mono ?_
    rintro e w6 ⟨rfl, hw6⟩
    have HT6 : Hid (Below (w.heap.size + 1) W1 w6) := by rw [hw6]; exact HT5.out.trans ((Below.refl _ _).alloc (HSZ.out _ HT5.out) _)
    have r0 : w6.cell? ⟨W1.heap.size, 0, none⟩ = some (.int .i64 m.rerr) := box_at (by rw [hw6]; exact (Below.block (Later.alloc W5 _) _ (lt_of_block HXR.out)).trans HXR.out) 0 _ rfl
    clear hw6 HC HXR HXC HT5
    cases t
    · clear r0
      go_wp2
      go_ret
      exact ⟨ret_bool (by unfold msgG; rw [msgG0_parts]; rw [HT16.out]; simp), HLW.out _ HT6.out⟩
    by_cases e0 : m.rerr < 0
    · have E0 := hide e0
      go_wp2
      go_ret
      exact ⟨ret_bool (by unfold msgG; rw [msgG0_parts]; rw [decide_eq_false (Int.not_le.2 E0.out)]; simp), HLW.out _ HT6.out⟩
    by_cases e1 : 15 < m.rerr
    · have E1 := hide e1
      go_wp2
      go_ret
      exact ⟨ret_bool (by unfold msgG; rw [msgG0_parts]; rw [decide_eq_false (Int.not_le.2 E1.out)]; simp), HLW.out _ HT6.out⟩
    have E0 := hide (Int.not_lt.1 e0)
    have E1 := hide (Int.not_lt.1 e1)
    have c12 : w6.cell? ⟨w.heap.size, 12, none⟩ = some (.int .i64 m.op.kind) := box_at (HS.out _ HT6.out) 12 _ rfl
    have c13 : w6.cell? ⟨w.heap.size, 13, none⟩ = some (.int .i64 m.op.client) := box_at (HS.out _ HT6.out) 13 _ rfl
    have c14 : w6.cell? ⟨w.heap.size, 14, none⟩ = some (.int .i64 m.op.request) := box_at (HS.out _ HT6.out) 14 _ rfl
    have c15 : w6.cell? ⟨w.heap.size, 15, none⟩ = some (.string m.op.name) := box_at (HS.out _ HT6.out) 15 _ rfl
    have c16 : w6.cell? ⟨w.heap.size, 16, none⟩ = some (.slice sA n1 sc) := box_at (HS.out _ HT6.out) 16 _ rfl
    have c17 : w6.cell? ⟨w.heap.size, 17, none⟩ = some (.int .i64 m.op.saga) := box_at (HS.out _ HT6.out) 17 _ rfl
    have c18 : w6.cell? ⟨w.heap.size, 18, none⟩ = some (.int .i64 m.op.step) := box_at (HS.out _ HT6.out) 18 _ rfl
    have c19 : w6.cell? ⟨w.heap.size, 19, none⟩ = some (.int .i64 m.op.try_) := box_at (HS.out _ HT6.out) 19 _ rfl
    have c20 : w6.cell? ⟨w.heap.size, 20, none⟩ = some (.bool m.op.back) := box_at (HS.out _ HT6.out) 20 _ rfl
    have c21 : w6.cell? ⟨w.heap.size, 21, none⟩ = some (.bool m.op.good) := box_at (HS.out _ HT6.out) 21 _ rfl
    obtain ⟨td, htd⟩ : ∃ t, opG m.op = t := ⟨_, rfl⟩
    have CG := hide (rgoodop_any (x := m.op) (sc := sc) (HST.out.kept (Kept.of_below (HLW.out _ HT6.out) F)) HN1.out.symm)
    rw [htd] at CG
    have HTD := hide htd
    clear htd
    go_wp2_with (fail)
    clear r0 c12 c13 c14 c15 c16 c17 c18 c19 c20 c21
    refine CG.out.mono ?_
    rintro e w7 ⟨rfl, hl⟩
    have HT7 : Hid (Below (w.heap.size + 1) W1 w7) := HT6.out.trans (Below.mono hl (HSZ.out _ HT6.out))
    clear hl CG HT6
    cases td
    · go_wp2
      go_ret
      exact ⟨ret_bool (by unfold msgG; rw [msgG0_parts]; rw [HTD.out]; simp), HLW.out _ HT7.out⟩
    have c33 : w7.cell? ⟨w.heap.size, 33, none⟩ = some (.slice iA n3 ic) := box_at (HS.out _ HT7.out) 33 _ rfl
    by_cases k5 : 5 < n3
    · have K5 : Hid (¬ m.incs.length ≤ 5) := by show ¬ _; rw [HN3.out]; omega
      go_wp2
      go_ret
      exact ⟨ret_bool (by unfold msgG; rw [msgG0_parts]; rw [decide_eq_false K5.out]; simp), HLW.out _ HT7.out⟩
    have K5 : Hid (m.incs.length ≤ 5) := by show _ ≤ _; rw [HN3.out]; omega
    obtain ⟨tf, htf⟩ : ∃ t, m.incs.all mayB = t := ⟨_, rfl⟩
    have CI := hide (rmay_any (HIN.out.kept (Kept.of_below (HLW.out _ HT7.out) F)) HN3.out.symm)
    rw [htf] at CI
    have HTF := hide htf
    clear htf
    go_wp2_with (fail)
    refine CI.out.mono ?_
    rintro e w8 ⟨rfl, hq⟩
    obtain rfl := hq.symm
    clear CI
    cases tf
    · clear c33
      go_wp2
      go_ret
      exact ⟨ret_bool (by unfold msgG; rw [msgG0_parts]; rw [HTF.out]; simp), HLW.out _ HT7.out⟩
    have c32 : w7.cell? ⟨w.heap.size, 32, none⟩ = some (.slice oA n2 oc) := box_at (HS.out _ HT7.out) 32 _ rfl
    go_wp2
    clear c32 c33
    obtain ⟨In, hIn⟩ : ∃ In : World → Prop, ∀ w2, In w2 ↔ Below (w.heap.size + 1) W1 w2 := ⟨_, fun _ => Iff.rfl⟩
    have HI := hide hIn
    clear hIn
    go_loopw [85] (fun j wr => ∃ q : Nat, q ≤ n2 ∧ j = .int .i64 (q : Int) ∧ (m.ops.take q).all opG = true ∧ In wr) (fun j _ => n2 - (Go.RowKit.intOf j).toNat)
    case atStart => exact ⟨0, by omega, rfl, rfl, (HI.out _).2 HT7.out⟩
    case round =>
      obtain ⟨q, hq, rfl, hall, hin⟩ := hrel
      have HA := hide hall
      have HB := hide ((HI.out _).1 hin)
      have HLB := hide (HLW.out _ ((HI.out _).1 hin))
      clear hall hin
      by_cases hlt : q < n2
      · obtain ⟨x, xs, b, off, oc2, hpk, hv, _, _, _, hr, hst⟩ := OpsIn.at_ (HOP.out.kept (Kept.of_below HLB.out F)) (i := q) (by rw [HN2.out]; exact hlt)
        obtain ⟨rfl, rfl⟩ : oA = some ⟨b, off, none⟩ ∧ oc = oc2 := by injection hv with e1 _ e3; exact ⟨e1, e3⟩
        obtain ⟨xA, xc, rfl, _, _, _⟩ := FlatAt.shape hst
        have hok : m.ops[q]? = some x := by rw [← HPS.out, List.getElem?_map, hpk]; rfl
        have HOK := hide hok
        obtain ⟨nx, hnx⟩ : ∃ n, x.steps.length = n := ⟨_, rfl⟩
        rw [hnx] at hr hst
        obtain ⟨r0, r1, r2, r3, r4, r5, r6, r7, r8, r9⟩ := range_op hr
        have hstk := hst.kept (Kept.of_below (Later.alloc wr (.cells (x.cells (.slice xA nx xc)).toArray 26 (0, 0))) F)
        obtain ⟨tx, htx⟩ : ∃ t, opG x = t := ⟨_, rfl⟩
        have C := hide (rgoodop_any (x := x) (sc := xc) hstk hnx.symm)
        rw [htx] at C
        have HTX := hide htx
        have HTo : Hid (Below (w.heap.size + 1) _ (wr.alloc (.cells (x.cells (.slice xA nx xc)).toArray 26 (0, 0)))) := HB.out.trans ((Below.refl _ _).alloc (HSZ.out _ HB.out) _)
        clear hpk hv hr hst hok hstk hnx htx
        go_wp2_with (fail)
        clear r0 r1 r2 r3 r4 r5 r6 r7 r8 r9
        refine C.out.mono ?_
        rintro e wn ⟨rfl, hl⟩
        have HTn := hide (HTo.out.trans (Below.mono hl (HSZ.out _ HTo.out)))
        clear hl C
        cases tx
        · have hno : m.ops.all opG = false := by
            rw [Bool.eq_false_iff]
            intro h2
            rw [List.all_eq_true] at h2
            have h3 := h2 x (List.mem_of_getElem? HOK.out)
            rw [HTX.out] at h3
            cases h3
          have HNO2 := hide hno
          clear hno
          go_wp2
          go_ret
          exact ⟨ret_bool (by unfold msgG; rw [msgG0_parts]; rw [HNO2.out]; simp), HLW.out _ HTn.out⟩
        have hnx : (m.ops.take (q + 1)).all opG = true := by
          rw [List.take_add_one, HOK.out, List.all_append, HA.out]
          simp [HTX.out]
        have HNX := hide hnx
        clear hnx
        go_wp2
        go_roundw
        case rel => exact ⟨q + 1, by omega, by go_num, HNX.out, (HI.out _).2 HTn.out⟩
        case measure => simp [Go.RowKit.intOf]; omega
      · obtain rfl : q = n2 := by omega
        have hall : m.ops.all opG = true := by
          have h1 := HA.out
          rwa [List.take_of_length_le (by have h1 := HPN.out; have h2 := HN2.out; omega)] at h1
        have h0 : msgG0 m = true := by rw [msgG0_parts, HT16.out, HTD.out, HTF.out, hall, decide_eq_true K0.out, decide_eq_true K1.out, decide_eq_true E0.out, decide_eq_true E1.out, decide_eq_true K5.out]; rfl
        have H0 := hide h0
        have CN := hide (rinner_any (HLS.out.kept (Kept.of_below HLB.out F)) HWF.out (opG_sm HTD.out) (fun x hx => opG_sm (List.all_eq_true.1 hall x hx)) HNO.out HNI.out)
        have hn9 := inn_msg_room (opG_sm HTD.out) (fun x hx => opG_sm (List.all_eq_true.1 hall x hx)) HNO.out HNI.out
        have hlen : (msgB m).length ≤ 10000000 := Nat.le_trans (prec_len (msgF m)) hn9
        have HLEN := hide hlen
        have HXW := hide (HS.out _ HB.out)
        clear hall h0 hn9 hlen
        go_wp2_with (refine wpList_load_box (by rfl) 35 _ (by rfl) w.heap.size 0 (by rfl) 35 _ (HXW.out) 34 _ Tryz.underlying35 (by rfl) (by kernel_rfl) (m.cells (.slice sA n1 sc) (.slice oA q oc) (.slice iA n3 ic)) (by rfl) (by rfl) ?_)
        refine CN.out.mono ?_
        rintro e wz ⟨A9, n9, c9, rfl, _, hh, _, hb⟩
        have HZ : Hid ((msgB m).length = n9) := hh.1
        have HTz := hide (HLB.out.trans hb)
        have hn9 : n9 ≤ 10000000 := by rw [← HZ.out]; exact HLEN.out
        clear hh hb CN
        go_wp2
        go_ret
        exact ⟨ret_bool (by unfold msgG; rw [H0.out, HZ.out, Bool.true_and]; by_cases h : n9 ≤ 65536 <;> simp [h] <;> omega), HTz.out⟩
end Go.Proofs.YtehiaeihkdfclaaGreatDoor
