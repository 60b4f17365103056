/- The walk over droverlaw06.OplogActs: whatever is done to a log, it is the document's. -/
import Derived.Test.YtehcaigkohkbnaaRPair
import Derived.Deep.CutBlock
namespace Go.Proofs.Ytehcaigkohkbnaa
open Go.RowKit

theorem act6_cells {w : World} {g : Nat} {a0 a1 : Int} {op : OpD} {ops : List OpD} {s o : Value} (h : w.heap[g]? = some (.cells (ActV.cells ⟨⟨a0, a1, op, ops⟩, s, o⟩).toArray 71 (0, 0))) :
    w.cell? ⟨g, 0, none⟩ = some (.int .i64 a0) ∧ w.cell? ⟨g, 1, none⟩ = some (.int .i64 a1) ∧ w.cell? ⟨g, 12, none⟩ = some o := by
  refine ⟨?_, ?_, ?_⟩ <;> (rw [cell_of_row w g _ _ _ _ h]; rfl)
theorem kept_at {B : Nat} {w w' : World} (h : Below B w w') : Kept (· < B) w w' := ⟨h.size, fun i _ hF => h.block i hF⟩
theorem drop_zero_of {L : List OpD} : L.drop (fromOf L.length 0) = L := by
  rw [show fromOf L.length 0 = 0 from by unfold fromOf; omega, List.drop_zero]

set_option maxHeartbeats 100000000 in
set_option maxRecDepth 100000 in
theorem law_acts (v : Value) (ps : List ActV) (w : World) (h : ActsIn (· < w.heap.size) w v ps) (hw : ∀ p ∈ ps, p.a.wf) :
    Calls Try.prog 4 #[v] w fun e w' => e = .returned (.bool true) ∧ Below w.heap.size w w' := by
  have LG := hide (light_any _ v ps w h hw)
  have LIVE : Hid (∀ w', Calls Try.prog 26 #[] w' fun e w'' => e = .returned (.bool true) ∧ Below w'.heap.size w' w'') := lives_any
  have H := hide h
  have HWF := hide hw
  obtain ⟨A, cp, rfl, h1, h2, _⟩ := FlatAt.shape h.1
  unfold maxLen at h2
  clear h hw
  go_enter Try.func4, Try.ntmps4
  go_wp2_with (fail)
  refine LG.out.mono ?_
  rintro e w1 ⟨bl, rfl, hok, hb1⟩
  have HBW := hide hb1
  have HOK := hide hok
  clear hb1 hok LG
  cases bl with
  | false =>
    go_wp2_with (fail)
    refine (LIVE.out _).mono ?_
    rintro e w2 ⟨rfl, hb2⟩
    have B2 := hide (HBW.out.trans (hb2.mono HBW.out.size))
    clear hb2
    go_wp2
    go_ret
    exact ⟨rfl, B2.out⟩
  | true =>
    go_wp2_with (fail)
    refine (lg_new w1).mono ?_
    rintro e w2 ⟨l, S0, rfl, hl2, hb2⟩
    obtain ⟨w3, hw3⟩ : ∃ w3, w3 = w2.alloc (.cells #[.slice none 0 0, .int .i64 0] 69 (0, 0)) := ⟨_, rfl⟩
    have hb3 : Below w2.heap.size w2 w3 := by rw [hw3]; exact (Below.refl _ _).alloc (Nat.le_refl _) _
    have P3 : Hid (PL0 w1.heap.size w3 l w2.heap.size [] 0) := PL0.start hl2 (by rw [hw3]; exact heap_alloc_new _ _) hb3
    have BL3 : Hid (Below w1.heap.size w1 w3) := hb2.trans (hb3.mono hb2.size)
    obtain ⟨r, hr⟩ : ∃ r, r = w2.heap.size := ⟨_, rfl⟩
    have HW3 := hide hw3
    rw [← hr] at P3
    have HRR := hide hr
    clear hl2 hb2 hb3 hw3 hr
    go_wp2
    rw [← HRR.out]
    go_loopw [26] (fun j wr => ∃ (k : Nat) (L : List OpD) (c : Nat), k ≤ ps.length ∧ j = .int .i64 (k : Int) ∧ PL0 w1.heap.size wr l r L c ∧ Below w1.heap.size w1 wr) (fun j _ => ps.length - (Go.RowKit.intOf j).toNat)
    case atStart => exact ⟨0, [], 0, by omega, rfl, by have h := HW3.out; exact h ▸ P3.out, by have h := HW3.out; exact h ▸ BL3.out⟩
    case round =>
      obtain ⟨k, L, c, hk, rfl, hp, hb⟩ := hrel
      have PR := hide hp
      have BL := hide hb
      clear hp hb P3 BL3
      by_cases hkn : k < ps.length
      · obtain ⟨x, b, off, c', hx, hv, _, _, _, hr, hli⟩ := ActsIn.at_ (H.out.kept (Kept.of_below (HBW.out.trans (BL.out.mono HBW.out.size)) _)) (k := k) hkn
        obtain ⟨rfl, rfl⟩ : A = some ⟨b, off, none⟩ ∧ cp = c' := by injection hv with e1 _ e3; exact ⟨e1, e3⟩
        have HAOK : Hid (x.a.ok) := (HOK.out trivial).2 x (List.mem_of_getElem? hx)
        have hwf := HWF.out x (List.mem_of_getElem? hx)
        have HR := hide hr
        obtain ⟨⟨a0, a1, op, ops⟩, s, o⟩ := x
        have HI1 : Hid (I64 a1) := hwf.2.1
        obtain ⟨AO, cO, rfl, hO1, hO2⟩ : ∃ AO cO, o = .slice AO ops.length cO ∧ ops.length ≤ cO ∧ cO ≤ maxLen := by
          obtain ⟨_, po, hpo, hop⟩ := hli
          obtain ⟨AO, cO, rfl, z1, z2, _⟩ := FlatAt.shape hop.1
          have hl : po.length = ops.length := by have := congrArg List.length hpo; simpa using this
          exact ⟨AO, cO, by rw [hl], by rw [← hl]; exact z1, z2⟩
        obtain ⟨k1, k2⟩ := hli.cell
        have AL : Hid (∀ w', Below wr.heap.size wr w' ∨ Kept (fun i => i < w1.heap.size) wr w' → ALists (· < w1.heap.size) w' ⟨a0, a1, op, ops⟩ s (.slice AO ops.length cO)) := fun w' hb => (hli.mono fun i _ hi => Nat.lt_of_lt_of_le hi HBW.out.size).kept (hb.elim (fun h => Kept.of_below h _) id)
        have HZ : Hid ((wr.alloc (.cells actZero 71 (0, 0))).heap[wr.heap.size]? = some (.cells actZero 71 (0, 0))) := heap_alloc_new _ _
        have HMO : Hid (Mild ops) := SmallOps.mild HAOK.out.1
        have HOL : Hid (ops.length ≤ 300) := HAOK.out.1.1
        have HSL : Hid (op.steps.length ≤ 1000000) := by have h9 : op.steps.length ≤ 300 := HAOK.out.2; show _ ≤ _; omega
        unfold maxLen at hO2
        clear hx hv hr hli hwf HAOK
        go_upto_block 2 with (first | (refine wpList_load_mid (by rfl) 71 _ (by rfl) b (off + k * 13) (by rfl) _ _ HR.out Try.underlying71 (by rfl) (by kernel_rfl) ?_) | (refine wpList_store_box (by rfl) 71 _ _ (by rfl) wr.heap.size 0 (ActV.cells ⟨⟨a0, a1, op, ops⟩, s, .slice AO ops.length cO⟩).toArray (by rfl) (by rfl) 71 actZero HZ.out (by kernel_rfl) (by exact Nat.le_of_ble_eq_true rfl) (by exact act_one _ k1 k2) ?_; intro w2 hb2 hg2; have X2 : Hid (w2.heap[wr.heap.size]? = some (.cells (ActV.cells ⟨⟨a0, a1, op, ops⟩, s, .slice AO ops.length cO⟩).toArray 71 (0, 0))) := (by have hb3 : w2.heap[wr.heap.size]? = some (.cells (putAt actZero 0 (ActV.cells ⟨⟨a0, a1, op, ops⟩, s, .slice AO ops.length cO⟩)) 71 (0, 0)) := hb2; rw [put_act] at hb3; exact hb3); have Q2 : Hid (Below wr.heap.size wr w2) := ((Below.refl _ _).alloc (Nat.le_refl _) _).grown hg2 (by simp) (fun k hk => by have := Option.some.inj hk; omega); obtain ⟨e0, e1, e12⟩ := act6_cells X2.out; clear hb2 hg2))
        clear e0 e1 e12
        have P2 : Hid (PL w1.heap.size w2 l r L c L c wr.heap.size (.slice none 0 0) []) := PR.out.box Q2.out (lt_of_block X2.out)
        have KB2 : Hid (Kept (fun i => i < w1.heap.size) wr w2) := Kept.of_below Q2.out _
        have BB2 : Hid (Below w1.heap.size w1 w2) := BL.out.trans (Q2.out.mono BL.out.size)
        go_cut [7] from 27 to 198 (fun s7 wx => s7 = .bool true ∧ ∃ L2 c2 v2 M2, PL w1.heap.size wx l r L2 c2 L2 c2 wr.heap.size v2 M2 ∧ wx.heap[wr.heap.size]? = some (.cells (ActV.cells ⟨⟨a0, a1, op, ops⟩, s, .slice AO ops.length cO⟩).toArray 71 (0, 0)) ∧ Below w1.heap.size w1 wx)
        case first =>
          by_cases hkd0 : a0 = 0
          · as_aux_lemma =>
              have hk0 : (a0 == 0) = true := by simpa using hkd0
              clear hkd0
              obtain ⟨z1, hz1⟩ : ∃ z1, (addR L op).2.1 = z1 := ⟨_, rfl⟩
              have HZ1v := hide hz1
              clear hz1
              obtain ⟨z2, hz2⟩ : ∃ z2, (addR L op).2.2 = z2 := ⟨_, rfl⟩
              have HZ2v := hide hz2
              clear hz2
              go_wp2_with (refine wpList_val rfl (by rfl) (exec_load_box 33 _ (by rfl) wr.heap.size 2 (by rfl) 71 _ X2.out 10 _ Try.underlying33 (by rfl) (by kernel_rfl) (op.cells s) (by rfl) (by rfl)) ?_)
              refine (pl_add op s P2.out (AL.out _ (.inr KB2.out)).1 HSL.out).mono ?_
              rw [HZ1v.out, HZ2v.out]
              rintro e w3 ⟨rfl, p3, q3⟩
              have P3 := hide p3
              have X3 : Hid (w3.heap[wr.heap.size]? = some (.cells (ActV.cells ⟨⟨a0, a1, op, ops⟩, s, .slice AO ops.length cO⟩).toArray 71 (0, 0))) := (q3.1.2 _ P2.out.blt (.inl rfl)).trans X2.out
              have KB3 : Hid (Kept (fun i => i < w1.heap.size) wr w3) := KB2.out.trans (q3.1.mono fun _ _ h => .inr h)
              have BB3 : Hid (Below w1.heap.size w1 w3) := BB2.out.trans (show Below w1.heap.size w2 w3 by first | exact q3.2 | exact (Below.refl _ _).drew.trans q3.2)
              clear p3 q3
              go_wp2_with (refine wpList_val rfl (by rfl) (exec_load_box 33 _ (by rfl) wr.heap.size 2 (by rfl) 71 _ X3.out 10 _ Try.underlying33 (by rfl) (by kernel_rfl) (op.cells s) (by rfl) (by rfl)) ?_)
              refine (pl_refadd op s P3.out (AL.out _ (.inr KB3.out)).1).mono ?_
              rw [HZ1v.out, HZ2v.out]
              rintro e w4 ⟨rfl, p4, q4⟩
              have P4 := hide p4
              have X4 : Hid (w4.heap[wr.heap.size]? = some (.cells (ActV.cells ⟨⟨a0, a1, op, ops⟩, s, .slice AO ops.length cO⟩).toArray 71 (0, 0))) := (q4.1.2 _ P3.out.blt (.inl rfl)).trans X3.out
              have KB4 : Hid (Kept (fun i => i < w1.heap.size) wr w4) := KB3.out.trans (q4.1.mono fun _ _ h => .inr h)
              have BB4 : Hid (Below w1.heap.size w1 w4) := BB3.out.trans (show Below w1.heap.size w3 w4 by first | exact q4.2 | exact (Below.refl _ _).drew.trans q4.2)
              clear p4 q4
              go_wp2
              go_meet
              case rel => exact ⟨by first | rfl | simp, _, _, _, _, P4.out, X4.out, BB4.out⟩
          by_cases hkd1 : a0 = 1
          · as_aux_lemma =>
              have hk0 : (a0 == 0) = false := by simpa using hkd0
              have hk1 : (a0 == 1) = true := by simpa using hkd1
              clear hkd0 hkd1
              go_wp2
              have XD2 : Hid (w2.drew.heap[wr.heap.size]? = some (.cells (ActV.cells ⟨⟨a0, a1, op, ops⟩, s, .slice AO ops.length cO⟩).toArray 71 (0, 0))) := X2.out
              refine wp_region_R (R := fun a b => Kept (fun i => i = wr.heap.size) a b) (by kernel_rfl) ?_
              refine wpAnyR_take (pre_keptL (fun i => i = wr.heap.size)) (i := 0) (d := some 58) (v := ?vara0) rfl rfl (by kernel_rfl) (by kernel_rfl) (by kernel_rfl) (fun _ _ _ h => h) (by rfl) ?yara0 ?_
              case yara0 => (intro w' hw'; go_simp; try (with_reducible rfl))
              simp only [Act.put]; try simp only [List.setIfInBounds_toArray]; try simp only [List.set_cons_zero, List.set_cons_succ]
              refine wpAnyR_take (pre_keptL (fun i => i = wr.heap.size)) (i := 1) (d := some 59) (v := ?vara1) rfl rfl (by kernel_rfl) (by kernel_rfl) (by kernel_rfl) (fun _ _ _ h => h) (by rfl) ?yara1 ?_
              case yara1 => (intro w' hw'; go_simp; try (with_reducible rfl))
              simp only [Act.put]; try simp only [List.setIfInBounds_toArray]; try simp only [List.set_cons_zero, List.set_cons_succ]
              refine wpAnyR_take (pre_keptL (fun i => i = wr.heap.size)) (i := 2) (d := some 60) (v := ?vara2) rfl rfl (by kernel_rfl) (by kernel_rfl) (by kernel_rfl) (fun _ _ _ h => h) (by rfl) ?yara2 ?_
              case yara2 => (intro w' hw'; obtain ⟨e0, e1, e12⟩ := act6_cells ((hw'.2 _ (lt_of_block XD2.out) rfl).trans XD2.out); go_simp; try (with_reducible rfl))
              simp only [Act.put]; try simp only [List.setIfInBounds_toArray]; try simp only [List.set_cons_zero, List.set_cons_succ]
              refine wpAnyR_take (pre_keptL (fun i => i = wr.heap.size)) (i := 4) (d := some 62) (v := ?vara4) rfl rfl (by kernel_rfl) (by kernel_rfl) (by kernel_rfl) (fun _ _ _ h => h) (by rfl) ?yara4 ?_
              case yara4 => (intro w' hw'; go_simp; try (with_reducible rfl))
              simp only [Act.put]; try simp only [List.setIfInBounds_toArray]; try simp only [List.set_cons_zero, List.set_cons_succ]
              refine wpAnyR_take (pre_keptL (fun i => i = wr.heap.size)) (i := 5) (d := some 63) (v := ?vara5) rfl rfl (by kernel_rfl) (by kernel_rfl) (by kernel_rfl) (fun _ _ _ h => h) (by rfl) ?yara5 ?_
              case yara5 => (intro w' hw'; go_simp; try (with_reducible rfl))
              simp only [Act.put]; try simp only [List.setIfInBounds_toArray]; try simp only [List.set_cons_zero, List.set_cons_succ]
              refine wpAnyR_take (pre_keptL (fun i => i = wr.heap.size)) (i := 6) (d := some 64) (v := ?vara6) rfl rfl (by kernel_rfl) (by kernel_rfl) (by kernel_rfl) (fun _ _ _ h => h) (by rfl) ?yara6 ?_
              case yara6 => (intro w' hw'; obtain ⟨e0, e1, e12⟩ := act6_cells ((hw'.2 _ (lt_of_block XD2.out) rfl).trans XD2.out); go_simp; try (with_reducible rfl))
              simp only [Act.put]; try simp only [List.setIfInBounds_toArray]; try simp only [List.set_cons_zero, List.set_cons_succ]
              refine wpAnyR_only (i := 3) rfl (by kernel_rfl) (by rfl) fun K hK => ?_
              go_simp
              refine (pl_commit a1 (P2.out.later (Below.refl w2.heap.size w2).drew)).mono ?_
              rintro e w3 ⟨t3, rfl, p3, q3⟩
              have P3 := hide p3
              have X3 : Hid (w3.heap[wr.heap.size]? = some (.cells (ActV.cells ⟨⟨a0, a1, op, ops⟩, s, .slice AO ops.length cO⟩).toArray 71 (0, 0))) := (q3.1.2 _ P2.out.blt (.inl rfl)).trans X2.out
              have KB3 : Hid (Kept (fun i => i < w1.heap.size) wr w3) := KB2.out.trans (q3.1.mono fun _ _ h => .inr h)
              have BB3 : Hid (Below w1.heap.size w1 w3) := BB2.out.trans (show Below w1.heap.size w2 w3 by first | exact q3.2 | exact (Below.refl _ _).drew.trans q3.2)
              have hkx := q3.kb
              refine hK.out _ _ hkx ?_
              clear p3 q3 hkx
              clear hK K
              try (simp only [Act.put]; try simp only [List.setIfInBounds_toArray]; try simp only [List.set_cons_zero, List.set_cons_succ])
              refine wpAnyR_only (i := 7) rfl (by kernel_rfl) (by rfl) fun K hK => ?_
              go_simp
              refine (pl_refcommit a1 P3.out).mono ?_
              rintro e w4 ⟨t4, rfl, ho4, p4, q4⟩
              have HT4 := hide ho4
              have P4 := hide p4
              have X4 : Hid (w4.heap[wr.heap.size]? = some (.cells (ActV.cells ⟨⟨a0, a1, op, ops⟩, s, .slice AO ops.length cO⟩).toArray 71 (0, 0))) := (q4.1.2 _ P3.out.blt (.inl rfl)).trans X3.out
              have KB4 : Hid (Kept (fun i => i < w1.heap.size) wr w4) := KB3.out.trans (q4.1.mono fun _ _ h => .inr h)
              have BB4 : Hid (Below w1.heap.size w1 w4) := BB3.out.trans (show Below w1.heap.size w3 w4 by first | exact q4.2 | exact (Below.refl _ _).drew.trans q4.2)
              have hkx := q4.kb
              refine hK.out _ _ hkx ?_
              clear ho4 p4 q4 hkx
              clear hK K
              try (simp only [Act.put]; try simp only [List.setIfInBounds_toArray]; try simp only [List.set_cons_zero, List.set_cons_succ])
              refine wpAnyR_only (i := 8) rfl (by kernel_rfl) (by rfl) fun K hK => ?_
              go_simp
              refine (same_self _ P4.out.list HT4.out).mono ?_
              rintro e w5 ⟨rfl, hb5⟩
              have P5 := hide (P4.out.later hb5)
              have X5 : Hid (w5.heap[wr.heap.size]? = some (.cells (ActV.cells ⟨⟨a0, a1, op, ops⟩, s, .slice AO ops.length cO⟩).toArray 71 (0, 0))) := ((hb5).block _ (lt_of_block X4.out)).trans X4.out
              have KB5 : Hid (Kept (fun i => i < w1.heap.size) wr w5) := KB4.out.trans (Kept.of_below (hb5) _)
              have BB5 : Hid (Below w1.heap.size w1 w5) := BB4.out.trans ((hb5).mono BB4.out.size)
              refine hK.out _ _ (Kept.of_below hb5 _) ?_
              clear hb5
              clear hK K
              try (simp only [Act.put]; try simp only [List.setIfInBounds_toArray]; try simp only [List.set_cons_zero, List.set_cons_succ])
              refine wpAnyR_take (pre_keptL (fun i => i = wr.heap.size)) (i := 9) (d := some 7) (v := ?vara9) rfl rfl (by kernel_rfl) (by kernel_rfl) (by kernel_rfl) (fun _ _ _ h => h) (by rfl) ?yara9 ?_
              case yara9 => (intro w' hw'; go_simp; try (with_reducible rfl))
              simp only [Act.put]; try simp only [List.setIfInBounds_toArray]; try simp only [List.set_cons_zero, List.set_cons_succ]
              refine wpAnyR_done (by kernel_rfl) ?_ _
              go_wp2
              go_meet
              case rel => exact ⟨by first | rfl | simp, _, _, _, _, P5.out, X5.out, BB5.out⟩
          by_cases hkd2 : a0 = 2
          · as_aux_lemma =>
              have hk0 : (a0 == 0) = false := by simpa using hkd0
              have hk1 : (a0 == 1) = false := by simpa using hkd1
              have hk2 : (a0 == 2) = true := by simpa using hkd2
              clear hkd0 hkd1 hkd2
              obtain ⟨z1, hz1⟩ : ∃ z1, (cutR L c a1).2 = z1 := ⟨_, rfl⟩
              have HZ1v := hide hz1
              clear hz1
              go_wp2
              have XD2 : Hid (w2.drew.heap[wr.heap.size]? = some (.cells (ActV.cells ⟨⟨a0, a1, op, ops⟩, s, .slice AO ops.length cO⟩).toArray 71 (0, 0))) := X2.out
              refine wp_region_R (R := fun a b => Kept (fun i => i = wr.heap.size) a b) (by kernel_rfl) ?_
              refine wpAnyR_take (pre_keptL (fun i => i = wr.heap.size)) (i := 0) (d := some 69) (v := ?varb0) rfl rfl (by kernel_rfl) (by kernel_rfl) (by kernel_rfl) (fun _ _ _ h => h) (by rfl) ?yarb0 ?_
              case yarb0 => (intro w' hw'; go_simp; try (with_reducible rfl))
              simp only [Act.put]; try simp only [List.setIfInBounds_toArray]; try simp only [List.set_cons_zero, List.set_cons_succ]
              refine wpAnyR_take (pre_keptL (fun i => i = wr.heap.size)) (i := 1) (d := some 70) (v := ?varb1) rfl rfl (by kernel_rfl) (by kernel_rfl) (by kernel_rfl) (fun _ _ _ h => h) (by rfl) ?yarb1 ?_
              case yarb1 => (intro w' hw'; go_simp; try (with_reducible rfl))
              simp only [Act.put]; try simp only [List.setIfInBounds_toArray]; try simp only [List.set_cons_zero, List.set_cons_succ]
              refine wpAnyR_take (pre_keptL (fun i => i = wr.heap.size)) (i := 2) (d := some 71) (v := ?varb2) rfl rfl (by kernel_rfl) (by kernel_rfl) (by kernel_rfl) (fun _ _ _ h => h) (by rfl) ?yarb2 ?_
              case yarb2 => (intro w' hw'; obtain ⟨e0, e1, e12⟩ := act6_cells ((hw'.2 _ (lt_of_block XD2.out) rfl).trans XD2.out); go_simp; try (with_reducible rfl))
              simp only [Act.put]; try simp only [List.setIfInBounds_toArray]; try simp only [List.set_cons_zero, List.set_cons_succ]
              refine wpAnyR_take (pre_keptL (fun i => i = wr.heap.size)) (i := 4) (d := some 73) (v := ?varb4) rfl rfl (by kernel_rfl) (by kernel_rfl) (by kernel_rfl) (fun _ _ _ h => h) (by rfl) ?yarb4 ?_
              case yarb4 => (intro w' hw'; go_simp; try (with_reducible rfl))
              simp only [Act.put]; try simp only [List.setIfInBounds_toArray]; try simp only [List.set_cons_zero, List.set_cons_succ]
              refine wpAnyR_take (pre_keptL (fun i => i = wr.heap.size)) (i := 5) (d := some 74) (v := ?varb5) rfl rfl (by kernel_rfl) (by kernel_rfl) (by kernel_rfl) (fun _ _ _ h => h) (by rfl) ?yarb5 ?_
              case yarb5 => (intro w' hw'; go_simp; try (with_reducible rfl))
              simp only [Act.put]; try simp only [List.setIfInBounds_toArray]; try simp only [List.set_cons_zero, List.set_cons_succ]
              refine wpAnyR_take (pre_keptL (fun i => i = wr.heap.size)) (i := 6) (d := some 75) (v := ?varb6) rfl rfl (by kernel_rfl) (by kernel_rfl) (by kernel_rfl) (fun _ _ _ h => h) (by rfl) ?yarb6 ?_
              case yarb6 => (intro w' hw'; obtain ⟨e0, e1, e12⟩ := act6_cells ((hw'.2 _ (lt_of_block XD2.out) rfl).trans XD2.out); go_simp; try (with_reducible rfl))
              simp only [Act.put]; try simp only [List.setIfInBounds_toArray]; try simp only [List.set_cons_zero, List.set_cons_succ]
              refine wpAnyR_only (i := 3) rfl (by kernel_rfl) (by rfl) fun K hK => ?_
              go_simp
              refine (pl_cut a1 (P2.out.later (Below.refl w2.heap.size w2).drew)).mono ?_
              rw [HZ1v.out]
              rintro e w3 ⟨rfl, p3, q3⟩
              have P3 := hide p3
              have X3 : Hid (w3.heap[wr.heap.size]? = some (.cells (ActV.cells ⟨⟨a0, a1, op, ops⟩, s, .slice AO ops.length cO⟩).toArray 71 (0, 0))) := (q3.1.2 _ P2.out.blt (.inl rfl)).trans X2.out
              have KB3 : Hid (Kept (fun i => i < w1.heap.size) wr w3) := KB2.out.trans (q3.1.mono fun _ _ h => .inr h)
              have BB3 : Hid (Below w1.heap.size w1 w3) := BB2.out.trans (show Below w1.heap.size w2 w3 by first | exact q3.2 | exact (Below.refl _ _).drew.trans q3.2)
              have hkx := q3.kb
              refine hK.out _ _ hkx ?_
              clear p3 q3 hkx
              clear hK K
              try (simp only [Act.put]; try simp only [List.setIfInBounds_toArray]; try simp only [List.set_cons_zero, List.set_cons_succ])
              refine wpAnyR_only (i := 7) rfl (by kernel_rfl) (by rfl) fun K hK => ?_
              go_simp
              refine (pl_refcut a1 P3.out).mono ?_
              rw [HZ1v.out]
              rintro e w4 ⟨rfl, p4, q4⟩
              have P4 := hide p4
              have X4 : Hid (w4.heap[wr.heap.size]? = some (.cells (ActV.cells ⟨⟨a0, a1, op, ops⟩, s, .slice AO ops.length cO⟩).toArray 71 (0, 0))) := (q4.1.2 _ P3.out.blt (.inl rfl)).trans X3.out
              have KB4 : Hid (Kept (fun i => i < w1.heap.size) wr w4) := KB3.out.trans (q4.1.mono fun _ _ h => .inr h)
              have BB4 : Hid (Below w1.heap.size w1 w4) := BB3.out.trans (show Below w1.heap.size w3 w4 by first | exact q4.2 | exact (Below.refl _ _).drew.trans q4.2)
              have hkx := q4.kb
              refine hK.out _ _ hkx ?_
              clear p4 q4 hkx
              clear hK K
              try (simp only [Act.put]; try simp only [List.setIfInBounds_toArray]; try simp only [List.set_cons_zero, List.set_cons_succ])
              refine wpAnyR_take (pre_keptL (fun i => i = wr.heap.size)) (i := 8) (d := some 77) (v := ?varb8) rfl rfl (by kernel_rfl) (by kernel_rfl) (by kernel_rfl) (fun _ _ _ h => h) (by rfl) ?yarb8 ?_
              case yarb8 => (intro w' hw'; go_simp; try (with_reducible rfl))
              simp only [Act.put]; try simp only [List.setIfInBounds_toArray]; try simp only [List.set_cons_zero, List.set_cons_succ]
              refine wpAnyR_take (pre_keptL (fun i => i = wr.heap.size)) (i := 9) (d := some 7) (v := ?varb9) rfl rfl (by kernel_rfl) (by kernel_rfl) (by kernel_rfl) (fun _ _ _ h => h) (by rfl) ?yarb9 ?_
              case yarb9 => (intro w' hw'; go_simp; try (with_reducible rfl))
              simp only [Act.put]; try simp only [List.setIfInBounds_toArray]; try simp only [List.set_cons_zero, List.set_cons_succ]
              refine wpAnyR_done (by kernel_rfl) ?_ _
              go_wp2
              go_meet
              case rel => exact ⟨by first | rfl | simp, _, _, _, _, P4.out, X4.out, BB4.out⟩
          by_cases hkd3 : a0 = 3
          · as_aux_lemma =>
              have hk0 : (a0 == 0) = false := by simpa using hkd0
              have hk1 : (a0 == 1) = false := by simpa using hkd1
              have hk2 : (a0 == 2) = false := by simpa using hkd2
              have hk3 : (a0 == 3) = true := by simpa using hkd3
              clear hkd0 hkd1 hkd2 hkd3
              obtain ⟨z1, hz1⟩ : ∃ z1, (joinR L c a1 ops).2 = z1 := ⟨_, rfl⟩
              have HZ1v := hide hz1
              clear hz1
              go_wp2
              have P2o := hide (P2.out.args ((AL.out _ (.inr KB2.out)).2))
              clear P2
              have P2 := hide P2o.out
              clear P2o
              have XD2 : Hid (w2.drew.heap[wr.heap.size]? = some (.cells (ActV.cells ⟨⟨a0, a1, op, ops⟩, s, .slice AO ops.length cO⟩).toArray 71 (0, 0))) := X2.out
              refine wp_region_R (R := fun a b => Kept (fun i => i = wr.heap.size) a b) (by kernel_rfl) ?_
              refine wpAnyR_take (pre_keptL (fun i => i = wr.heap.size)) (i := 0) (d := some 80) (v := ?varc0) rfl rfl (by kernel_rfl) (by kernel_rfl) (by kernel_rfl) (fun _ _ _ h => h) (by rfl) ?yarc0 ?_
              case yarc0 => (intro w' hw'; go_simp; try (with_reducible rfl))
              simp only [Act.put]; try simp only [List.setIfInBounds_toArray]; try simp only [List.set_cons_zero, List.set_cons_succ]
              refine wpAnyR_take (pre_keptL (fun i => i = wr.heap.size)) (i := 1) (d := some 81) (v := ?varc1) rfl rfl (by kernel_rfl) (by kernel_rfl) (by kernel_rfl) (fun _ _ _ h => h) (by rfl) ?yarc1 ?_
              case yarc1 => (intro w' hw'; go_simp; try (with_reducible rfl))
              simp only [Act.put]; try simp only [List.setIfInBounds_toArray]; try simp only [List.set_cons_zero, List.set_cons_succ]
              refine wpAnyR_take (pre_keptL (fun i => i = wr.heap.size)) (i := 2) (d := some 82) (v := ?varc2) rfl rfl (by kernel_rfl) (by kernel_rfl) (by kernel_rfl) (fun _ _ _ h => h) (by rfl) ?yarc2 ?_
              case yarc2 => (intro w' hw'; obtain ⟨e0, e1, e12⟩ := act6_cells ((hw'.2 _ (lt_of_block XD2.out) rfl).trans XD2.out); go_simp; try (with_reducible rfl))
              simp only [Act.put]; try simp only [List.setIfInBounds_toArray]; try simp only [List.set_cons_zero, List.set_cons_succ]
              refine wpAnyR_take (pre_keptL (fun i => i = wr.heap.size)) (i := 3) (d := some 83) (v := ?varc3) rfl rfl (by kernel_rfl) (by kernel_rfl) (by kernel_rfl) (fun _ _ _ h => h) (by rfl) ?yarc3 ?_
              case yarc3 => (intro w' hw'; go_simp; try (with_reducible rfl))
              simp only [Act.put]; try simp only [List.setIfInBounds_toArray]; try simp only [List.set_cons_zero, List.set_cons_succ]
              refine wpAnyR_take (pre_keptL (fun i => i = wr.heap.size)) (i := 4) (d := some 84) (v := ?varc4) rfl rfl (by kernel_rfl) (by kernel_rfl) (by kernel_rfl) (fun _ _ _ h => h) (by rfl) ?yarc4 ?_
              case yarc4 => (intro w' hw'; obtain ⟨e0, e1, e12⟩ := act6_cells ((hw'.2 _ (lt_of_block XD2.out) rfl).trans XD2.out); go_simp; try (with_reducible rfl))
              simp only [Act.put]; try simp only [List.setIfInBounds_toArray]; try simp only [List.set_cons_zero, List.set_cons_succ]
              refine wpAnyR_take (pre_keptL (fun i => i = wr.heap.size)) (i := 6) (d := some 86) (v := ?varc6) rfl rfl (by kernel_rfl) (by kernel_rfl) (by kernel_rfl) (fun _ _ _ h => h) (by rfl) ?yarc6 ?_
              case yarc6 => (intro w' hw'; go_simp; try (with_reducible rfl))
              simp only [Act.put]; try simp only [List.setIfInBounds_toArray]; try simp only [List.set_cons_zero, List.set_cons_succ]
              refine wpAnyR_take (pre_keptL (fun i => i = wr.heap.size)) (i := 7) (d := some 87) (v := ?varc7) rfl rfl (by kernel_rfl) (by kernel_rfl) (by kernel_rfl) (fun _ _ _ h => h) (by rfl) ?yarc7 ?_
              case yarc7 => (intro w' hw'; go_simp; try (with_reducible rfl))
              simp only [Act.put]; try simp only [List.setIfInBounds_toArray]; try simp only [List.set_cons_zero, List.set_cons_succ]
              refine wpAnyR_take (pre_keptL (fun i => i = wr.heap.size)) (i := 8) (d := some 88) (v := ?varc8) rfl rfl (by kernel_rfl) (by kernel_rfl) (by kernel_rfl) (fun _ _ _ h => h) (by rfl) ?yarc8 ?_
              case yarc8 => (intro w' hw'; obtain ⟨e0, e1, e12⟩ := act6_cells ((hw'.2 _ (lt_of_block XD2.out) rfl).trans XD2.out); go_simp; try (with_reducible rfl))
              simp only [Act.put]; try simp only [List.setIfInBounds_toArray]; try simp only [List.set_cons_zero, List.set_cons_succ]
              refine wpAnyR_take (pre_keptL (fun i => i = wr.heap.size)) (i := 9) (d := some 89) (v := ?varc9) rfl rfl (by kernel_rfl) (by kernel_rfl) (by kernel_rfl) (fun _ _ _ h => h) (by rfl) ?yarc9 ?_
              case yarc9 => (intro w' hw'; go_simp; try (with_reducible rfl))
              simp only [Act.put]; try simp only [List.setIfInBounds_toArray]; try simp only [List.set_cons_zero, List.set_cons_succ]
              refine wpAnyR_take (pre_keptL (fun i => i = wr.heap.size)) (i := 10) (d := some 90) (v := ?varc10) rfl rfl (by kernel_rfl) (by kernel_rfl) (by kernel_rfl) (fun _ _ _ h => h) (by rfl) ?yarc10 ?_
              case yarc10 => (intro w' hw'; obtain ⟨e0, e1, e12⟩ := act6_cells ((hw'.2 _ (lt_of_block XD2.out) rfl).trans XD2.out); go_simp; try (with_reducible rfl))
              simp only [Act.put]; try simp only [List.setIfInBounds_toArray]; try simp only [List.set_cons_zero, List.set_cons_succ]
              refine wpAnyR_only (i := 5) rfl (by kernel_rfl) (by rfl) fun K hK => ?_
              go_simp
              refine (pl_join a1 (P2.out.later (Below.refl w2.heap.size w2).drew) HMO.out).mono ?_
              rw [HZ1v.out]
              rintro e w3 ⟨rfl, p3, q3⟩
              have P3 := hide p3
              have X3 : Hid (w3.heap[wr.heap.size]? = some (.cells (ActV.cells ⟨⟨a0, a1, op, ops⟩, s, .slice AO ops.length cO⟩).toArray 71 (0, 0))) := (q3.1.2 _ P2.out.blt (.inl rfl)).trans X2.out
              have KB3 : Hid (Kept (fun i => i < w1.heap.size) wr w3) := KB2.out.trans (q3.1.mono fun _ _ h => .inr h)
              have BB3 : Hid (Below w1.heap.size w1 w3) := BB2.out.trans (show Below w1.heap.size w2 w3 by first | exact q3.2 | exact (Below.refl _ _).drew.trans q3.2)
              have hkx := q3.kb
              refine hK.out _ _ hkx ?_
              clear p3 q3 hkx
              clear hK K
              try (simp only [Act.put]; try simp only [List.setIfInBounds_toArray]; try simp only [List.set_cons_zero, List.set_cons_succ])
              refine wpAnyR_only (i := 11) rfl (by kernel_rfl) (by rfl) fun K hK => ?_
              go_simp
              refine (pl_refjoin a1 P3.out (Nat.le_trans (show ops.length ≤ 300 from HOL.out) (by decide))).mono ?_
              rw [HZ1v.out]
              rintro e w4 ⟨rfl, p4, q4⟩
              have P4 := hide p4
              have X4 : Hid (w4.heap[wr.heap.size]? = some (.cells (ActV.cells ⟨⟨a0, a1, op, ops⟩, s, .slice AO ops.length cO⟩).toArray 71 (0, 0))) := (q4.1.2 _ P3.out.blt (.inl rfl)).trans X3.out
              have KB4 : Hid (Kept (fun i => i < w1.heap.size) wr w4) := KB3.out.trans (q4.1.mono fun _ _ h => .inr h)
              have BB4 : Hid (Below w1.heap.size w1 w4) := BB3.out.trans (show Below w1.heap.size w3 w4 by first | exact q4.2 | exact (Below.refl _ _).drew.trans q4.2)
              have hkx := q4.kb
              refine hK.out _ _ hkx ?_
              clear p4 q4 hkx
              clear hK K
              try (simp only [Act.put]; try simp only [List.setIfInBounds_toArray]; try simp only [List.set_cons_zero, List.set_cons_succ])
              refine wpAnyR_take (pre_keptL (fun i => i = wr.heap.size)) (i := 12) (d := some 92) (v := ?varc12) rfl rfl (by kernel_rfl) (by kernel_rfl) (by kernel_rfl) (fun _ _ _ h => h) (by rfl) ?yarc12 ?_
              case yarc12 => (intro w' hw'; go_simp; try (with_reducible rfl))
              simp only [Act.put]; try simp only [List.setIfInBounds_toArray]; try simp only [List.set_cons_zero, List.set_cons_succ]
              refine wpAnyR_take (pre_keptL (fun i => i = wr.heap.size)) (i := 13) (d := some 7) (v := ?varc13) rfl rfl (by kernel_rfl) (by kernel_rfl) (by kernel_rfl) (fun _ _ _ h => h) (by rfl) ?yarc13 ?_
              case yarc13 => (intro w' hw'; go_simp; try (with_reducible rfl))
              simp only [Act.put]; try simp only [List.setIfInBounds_toArray]; try simp only [List.set_cons_zero, List.set_cons_succ]
              refine wpAnyR_done (by kernel_rfl) ?_ _
              go_wp2
              go_meet
              case rel => exact ⟨by first | rfl | simp, _, _, _, _, P4.out, X4.out, BB4.out⟩
          by_cases hkd4 : a0 = 4
          · as_aux_lemma =>
              have hk0 : (a0 == 0) = false := by simpa using hkd0
              have hk1 : (a0 == 1) = false := by simpa using hkd1
              have hk2 : (a0 == 2) = false := by simpa using hkd2
              have hk3 : (a0 == 3) = false := by simpa using hkd3
              have hk4 : (a0 == 4) = true := by simpa using hkd4
              clear hkd0 hkd1 hkd2 hkd3 hkd4
              obtain ⟨z1, hz1⟩ : ∃ z1, (replR L c ops a1).2.2 = z1 := ⟨_, rfl⟩
              have HZ1v := hide hz1
              clear hz1
              go_wp2
              have P2o := hide (P2.out.args ((AL.out _ (.inr KB2.out)).2))
              clear P2
              have P2 := hide P2o.out
              clear P2o
              have XD2 : Hid (w2.drew.heap[wr.heap.size]? = some (.cells (ActV.cells ⟨⟨a0, a1, op, ops⟩, s, .slice AO ops.length cO⟩).toArray 71 (0, 0))) := X2.out
              refine wp_region_R (R := fun a b => Kept (fun i => i = wr.heap.size) a b) (by kernel_rfl) ?_
              refine wpAnyR_take (pre_keptL (fun i => i = wr.heap.size)) (i := 0) (d := some 95) (v := ?vard0) rfl rfl (by kernel_rfl) (by kernel_rfl) (by kernel_rfl) (fun _ _ _ h => h) (by rfl) ?yard0 ?_
              case yard0 => (intro w' hw'; go_simp; try (with_reducible rfl))
              simp only [Act.put]; try simp only [List.setIfInBounds_toArray]; try simp only [List.set_cons_zero, List.set_cons_succ]
              refine wpAnyR_take (pre_keptL (fun i => i = wr.heap.size)) (i := 1) (d := some 96) (v := ?vard1) rfl rfl (by kernel_rfl) (by kernel_rfl) (by kernel_rfl) (fun _ _ _ h => h) (by rfl) ?yard1 ?_
              case yard1 => (intro w' hw'; go_simp; try (with_reducible rfl))
              simp only [Act.put]; try simp only [List.setIfInBounds_toArray]; try simp only [List.set_cons_zero, List.set_cons_succ]
              refine wpAnyR_take (pre_keptL (fun i => i = wr.heap.size)) (i := 2) (d := some 97) (v := ?vard2) rfl rfl (by kernel_rfl) (by kernel_rfl) (by kernel_rfl) (fun _ _ _ h => h) (by rfl) ?yard2 ?_
              case yard2 => (intro w' hw'; obtain ⟨e0, e1, e12⟩ := act6_cells ((hw'.2 _ (lt_of_block XD2.out) rfl).trans XD2.out); go_simp; try (with_reducible rfl))
              simp only [Act.put]; try simp only [List.setIfInBounds_toArray]; try simp only [List.set_cons_zero, List.set_cons_succ]
              refine wpAnyR_take (pre_keptL (fun i => i = wr.heap.size)) (i := 3) (d := some 98) (v := ?vard3) rfl rfl (by kernel_rfl) (by kernel_rfl) (by kernel_rfl) (fun _ _ _ h => h) (by rfl) ?yard3 ?_
              case yard3 => (intro w' hw'; go_simp; try (with_reducible rfl))
              simp only [Act.put]; try simp only [List.setIfInBounds_toArray]; try simp only [List.set_cons_zero, List.set_cons_succ]
              refine wpAnyR_take (pre_keptL (fun i => i = wr.heap.size)) (i := 4) (d := some 99) (v := ?vard4) rfl rfl (by kernel_rfl) (by kernel_rfl) (by kernel_rfl) (fun _ _ _ h => h) (by rfl) ?yard4 ?_
              case yard4 => (intro w' hw'; obtain ⟨e0, e1, e12⟩ := act6_cells ((hw'.2 _ (lt_of_block XD2.out) rfl).trans XD2.out); go_simp; try (with_reducible rfl))
              simp only [Act.put]; try simp only [List.setIfInBounds_toArray]; try simp only [List.set_cons_zero, List.set_cons_succ]
              refine wpAnyR_take (pre_keptL (fun i => i = wr.heap.size)) (i := 6) (d := some 101) (v := ?vard6) rfl rfl (by kernel_rfl) (by kernel_rfl) (by kernel_rfl) (fun _ _ _ h => h) (by rfl) ?yard6 ?_
              case yard6 => (intro w' hw'; go_simp; try (with_reducible rfl))
              simp only [Act.put]; try simp only [List.setIfInBounds_toArray]; try simp only [List.set_cons_zero, List.set_cons_succ]
              refine wpAnyR_take (pre_keptL (fun i => i = wr.heap.size)) (i := 7) (d := some 102) (v := ?vard7) rfl rfl (by kernel_rfl) (by kernel_rfl) (by kernel_rfl) (fun _ _ _ h => h) (by rfl) ?yard7 ?_
              case yard7 => (intro w' hw'; go_simp; try (with_reducible rfl))
              simp only [Act.put]; try simp only [List.setIfInBounds_toArray]; try simp only [List.set_cons_zero, List.set_cons_succ]
              refine wpAnyR_take (pre_keptL (fun i => i = wr.heap.size)) (i := 8) (d := some 103) (v := ?vard8) rfl rfl (by kernel_rfl) (by kernel_rfl) (by kernel_rfl) (fun _ _ _ h => h) (by rfl) ?yard8 ?_
              case yard8 => (intro w' hw'; obtain ⟨e0, e1, e12⟩ := act6_cells ((hw'.2 _ (lt_of_block XD2.out) rfl).trans XD2.out); go_simp; try (with_reducible rfl))
              simp only [Act.put]; try simp only [List.setIfInBounds_toArray]; try simp only [List.set_cons_zero, List.set_cons_succ]
              refine wpAnyR_take (pre_keptL (fun i => i = wr.heap.size)) (i := 9) (d := some 104) (v := ?vard9) rfl rfl (by kernel_rfl) (by kernel_rfl) (by kernel_rfl) (fun _ _ _ h => h) (by rfl) ?yard9 ?_
              case yard9 => (intro w' hw'; go_simp; try (with_reducible rfl))
              simp only [Act.put]; try simp only [List.setIfInBounds_toArray]; try simp only [List.set_cons_zero, List.set_cons_succ]
              refine wpAnyR_take (pre_keptL (fun i => i = wr.heap.size)) (i := 10) (d := some 105) (v := ?vard10) rfl rfl (by kernel_rfl) (by kernel_rfl) (by kernel_rfl) (fun _ _ _ h => h) (by rfl) ?yard10 ?_
              case yard10 => (intro w' hw'; obtain ⟨e0, e1, e12⟩ := act6_cells ((hw'.2 _ (lt_of_block XD2.out) rfl).trans XD2.out); go_simp; try (with_reducible rfl))
              simp only [Act.put]; try simp only [List.setIfInBounds_toArray]; try simp only [List.set_cons_zero, List.set_cons_succ]
              refine wpAnyR_only (i := 5) rfl (by kernel_rfl) (by rfl) fun K hK => ?_
              go_simp
              refine (pl_replace a1 (P2.out.later (Below.refl w2.heap.size w2).drew) HMO.out).mono ?_
              rw [HZ1v.out]
              rintro e w3 ⟨rfl, p3, q3⟩
              have P3 := hide p3
              have X3 : Hid (w3.heap[wr.heap.size]? = some (.cells (ActV.cells ⟨⟨a0, a1, op, ops⟩, s, .slice AO ops.length cO⟩).toArray 71 (0, 0))) := (q3.1.2 _ P2.out.blt (.inl rfl)).trans X2.out
              have KB3 : Hid (Kept (fun i => i < w1.heap.size) wr w3) := KB2.out.trans (q3.1.mono fun _ _ h => .inr h)
              have BB3 : Hid (Below w1.heap.size w1 w3) := BB2.out.trans (show Below w1.heap.size w2 w3 by first | exact q3.2 | exact (Below.refl _ _).drew.trans q3.2)
              have hkx := q3.kb
              refine hK.out _ _ hkx ?_
              clear p3 q3 hkx
              clear hK K
              try (simp only [Act.put]; try simp only [List.setIfInBounds_toArray]; try simp only [List.set_cons_zero, List.set_cons_succ])
              refine wpAnyR_only (i := 11) rfl (by kernel_rfl) (by rfl) fun K hK => ?_
              go_simp
              refine (pl_refreplace a1 P3.out).mono ?_
              rw [HZ1v.out]
              rintro e w4 ⟨rfl, p4, q4⟩
              have P4 := hide p4
              have X4 : Hid (w4.heap[wr.heap.size]? = some (.cells (ActV.cells ⟨⟨a0, a1, op, ops⟩, s, .slice AO ops.length cO⟩).toArray 71 (0, 0))) := (q4.1.2 _ P3.out.blt (.inl rfl)).trans X3.out
              have KB4 : Hid (Kept (fun i => i < w1.heap.size) wr w4) := KB3.out.trans (q4.1.mono fun _ _ h => .inr h)
              have BB4 : Hid (Below w1.heap.size w1 w4) := BB3.out.trans (show Below w1.heap.size w3 w4 by first | exact q4.2 | exact (Below.refl _ _).drew.trans q4.2)
              have hkx := q4.kb
              refine hK.out _ _ hkx ?_
              clear p4 q4 hkx
              clear hK K
              try (simp only [Act.put]; try simp only [List.setIfInBounds_toArray]; try simp only [List.set_cons_zero, List.set_cons_succ])
              refine wpAnyR_take (pre_keptL (fun i => i = wr.heap.size)) (i := 12) (d := some 107) (v := ?vard12) rfl rfl (by kernel_rfl) (by kernel_rfl) (by kernel_rfl) (fun _ _ _ h => h) (by rfl) ?yard12 ?_
              case yard12 => (intro w' hw'; go_simp; try (with_reducible rfl))
              simp only [Act.put]; try simp only [List.setIfInBounds_toArray]; try simp only [List.set_cons_zero, List.set_cons_succ]
              refine wpAnyR_take (pre_keptL (fun i => i = wr.heap.size)) (i := 13) (d := some 7) (v := ?vard13) rfl rfl (by kernel_rfl) (by kernel_rfl) (by kernel_rfl) (fun _ _ _ h => h) (by rfl) ?yard13 ?_
              case yard13 => (intro w' hw'; go_simp; try (with_reducible rfl))
              simp only [Act.put]; try simp only [List.setIfInBounds_toArray]; try simp only [List.set_cons_zero, List.set_cons_succ]
              refine wpAnyR_done (by kernel_rfl) ?_ _
              go_wp2
              go_meet
              case rel => exact ⟨by first | rfl | simp, _, _, _, _, P4.out, X4.out, BB4.out⟩
          by_cases hkd5 : a0 = 5
          · as_aux_lemma =>
              have hk0 : (a0 == 0) = false := by simpa using hkd0
              have hk1 : (a0 == 1) = false := by simpa using hkd1
              have hk2 : (a0 == 2) = false := by simpa using hkd2
              have hk3 : (a0 == 3) = false := by simpa using hkd3
              have hk4 : (a0 == 4) = false := by simpa using hkd4
              have hk5 : (a0 == 5) = true := by simpa using hkd5
              clear hkd0 hkd1 hkd2 hkd3 hkd4 hkd5
              obtain ⟨z1, hz1⟩ : ∃ z1, (replR L c (L ++ ops) a1).2.2 = z1 := ⟨_, rfl⟩
              have HZ1v := hide hz1
              clear hz1
              go_wp2
              obtain ⟨G, uR, pR, hR, hG, hshut⟩ := P2.out.open_
              obtain ⟨AR5, cpR5, rfl, hc5, _⟩ := hR.shape
              have HR5 := hide hR
              have HG5 := hide hG
              have HSH := hide hshut
              have hl5 := hR.len
              have HPL5 : Hid (pR.length = L.length) := by show _ = _; rw [← hR.says, List.length_map]
              have HA5 : Hid (∀ w', Below w2.heap.size w2 w' → OpsAt G w' (.slice AO ops.length cO) ops) := fun w' hb => (((AL.out _ (.inr KB2.out)).2).mono fun i _ hi => HG5.out i hi).kept (Kept.of_below hb _)
              obtain ⟨n5, hn5⟩ : ∃ n5, L.length = n5 := ⟨_, rfl⟩
              have HN5 := hide hn5
              rw [hn5] at hl5 hc5 HR5
              clear hR hG hshut hn5
              have hr5 := HR5.out.lt
              go_wp2
              refine wp_region_R (R := fun a b => Kept (fun i => i < w2.heap.size) a b) (by kernel_rfl) ?_
              refine wpAnyR_take (pre_keptL (fun i => i < w2.heap.size)) (i := 1) (d := some 111) (v := ?vare1) rfl rfl (by kernel_rfl) (by kernel_rfl) (by kernel_rfl) (fun _ _ _ h => h) (by rfl) ?yare1 ?_
              case yare1 => (intro w' hw'; go_simp; try (with_reducible rfl))
              simp only [Act.put]; try simp only [List.setIfInBounds_toArray]; try simp only [List.set_cons_zero, List.set_cons_succ]
              refine wpAnyR_take (pre_keptL (fun i => i < w2.heap.size)) (i := 2) (d := some 112) (v := ?vare2) rfl rfl (by kernel_rfl) (by kernel_rfl) (by kernel_rfl) (fun _ _ _ h => h) (by rfl) ?yare2 ?_
              case yare2 => (intro w' hw'; go_simp; try (with_reducible rfl))
              simp only [Act.put]; try simp only [List.setIfInBounds_toArray]; try simp only [List.set_cons_zero, List.set_cons_succ]
              refine wpAnyR_take (pre_keptL (fun i => i < w2.heap.size)) (i := 3) (d := some 113) (v := ?vare3) rfl rfl (by kernel_rfl) (by kernel_rfl) (by kernel_rfl) (fun _ _ _ h => h) (by rfl) ?yare3 ?_
              case yare3 => (intro w' hw'; go_simp; try (with_reducible rfl))
              simp only [Act.put]; try simp only [List.setIfInBounds_toArray]; try simp only [List.set_cons_zero, List.set_cons_succ]
              refine wpAnyR_take (pre_keptL (fun i => i < w2.heap.size)) (i := 4) (d := some 114) (v := .slice AR5 n5 cpR5) rfl rfl (by kernel_rfl) (by kernel_rfl) (by kernel_rfl) (fun _ _ _ h => h) (by rfl) ?yare4 ?_
              case yare4 => (intro w' hw'; obtain ⟨d0, d1⟩ := (HR5.out.later (Below.refl w2.heap.size w2).drew).cellsK hw' hr5; go_simp; try (with_reducible rfl))
              simp only [Act.put]; try simp only [List.setIfInBounds_toArray]; try simp only [List.set_cons_zero, List.set_cons_succ]
              refine wpAnyR_take (pre_keptL (fun i => i < w2.heap.size)) (i := 6) (d := some 116) (v := ?vare6) rfl rfl (by kernel_rfl) (by kernel_rfl) (by kernel_rfl) (fun _ _ _ h => h) (by rfl) ?yare6 ?_
              case yare6 => (intro w' hw'; go_simp; try (with_reducible rfl))
              simp only [Act.put]; try simp only [List.setIfInBounds_toArray]; try simp only [List.set_cons_zero, List.set_cons_succ]
              refine wpAnyR_take (pre_keptL (fun i => i < w2.heap.size)) (i := 7) (d := some 117) (v := .slice AO ops.length cO) rfl rfl (by kernel_rfl) (by kernel_rfl) (by kernel_rfl) (fun _ _ _ h => h) (by rfl) ?yare7 ?_
              case yare7 => (intro w' hw'; obtain ⟨e0, e1, e12⟩ := act6_cells ((hw'.2 _ (lt_of_block X2.out) (lt_of_block X2.out)).trans X2.out); go_simp; try (with_reducible rfl))
              simp only [Act.put]; try simp only [List.setIfInBounds_toArray]; try simp only [List.set_cons_zero, List.set_cons_succ]
              refine wpAnyR_only (i := 0) rfl (by kernel_rfl) (by rfl) fun K hK => ?_
              refine wp_empty (by rfl) ?_
              intro w3 he
              have HE := hide he
              have QB3 : Hid (Below w2.heap.size w2 w3) := (Below.refl _ _).drew.trans he.2.1
              refine hK.out _ _ (Kept.of_below he.2.1 _) (?_ : wpAnyR _ _ _ _ _ _ _ (Act.put _ (some 110) _) _)
              clear he
              clear hK K
              try (simp only [Act.put]; try simp only [List.setIfInBounds_toArray]; try simp only [List.set_cons_zero, List.set_cons_succ])
              refine wpAnyR_only (i := 5) rfl (by kernel_rfl) (by rfl) fun K hK => ?_
              refine wp_append_ops (B := w2.heap.size) (qs := []) (rs := pR) (F := G) (G := G) _ _ (by rfl) (by rfl) HE.out.1 (by simp) (by rfl) (HR5.out.later QB3.out).ops (by have := HPL5.out; have := HN5.out; simp; omega) QB3.out.size ?_
              intro ts4 A4 cp4 w4 e4 ho4 hg4 hc4
              have HO4 := hide ho4
              have QB4 : Hid (Below w2.heap.size w2 w4) := own_grown QB3.out HE.out.1 hg4
              have hk4 : Kept (fun i => i < w2.heap.size) w3 w4 := emp_grown hg4 (Nat.le_refl _)
              refine hK.out _ _ hk4 (?_ : wpAnyR _ _ _ _ _ _ _ (Act.put _ (some 115) _) _)
              clear ho4 hg4 hk4
              clear hK K
              try (simp only [Act.put]; try simp only [List.setIfInBounds_toArray]; try simp only [List.set_cons_zero, List.set_cons_succ])
              refine wpAnyR_only (i := 8) rfl (by kernel_rfl) (by rfl) fun K hK => ?_
              obtain ⟨po, hpo, hop2⟩ := HA5.out w2 (Below.refl _ _)
              have hopB : ∀ p ∈ po, StepsAt G w2 p.2 p.1.steps := hop2.2
              have hop := hop2.kept (Kept.of_below QB4.out _)
              have HPO := hide hpo
              have HPOL : Hid (po.length = ops.length) := by show _ = _; rw [← hpo, List.length_map]
              have hst4 : ∀ p ∈ ts4, StepsAt G w4 p.2 p.1.steps := fun p hp => by
                rw [e4.out, List.nil_append] at hp
                exact (HR5.out.later QB4.out).ops.2 p hp
              refine wp_append_ops (B := w2.heap.size) (qs := ts4) (rs := po) (F := G) (G := G) _ _ (by rfl) (by rfl) HO4.out hst4 (by rfl) hop (by have h1 := HPL5.out; have h2 := HN5.out; have h3 := HPOL.out; have h4 := HOL.out; rw [e4.out]; simp; omega) QB4.out.size ?_
              intro ts5 A5 cp5 w5 e5 ho5 hg5 hc5x
              have HO5 := hide ho5
              have QB5 : Hid (Below w2.heap.size w2 w5) := own_grown QB4.out HO4.out hg5
              have hk5 : Kept (fun i => i < w2.heap.size) w4 w5 := Kept.of_grown hg5 (fun q e hq => by have h1 := (HO4.out.lt q e).1; have h2 : q < w2.heap.size := hq; omega)
              have HS5 : Hid (∀ p ∈ ts5, StepsAt G w5 p.2 p.1.steps) := fun p hp => by
                rw [e5.out] at hp
                rcases List.mem_append.1 hp with hp | hp
                · rw [e4.out, List.nil_append] at hp
                  exact (HR5.out.later QB5.out).ops.2 p hp
                · have hp2 := (hopB p hp).kept (Kept.of_below (QB5.out) _)
                  exact hp2
              refine hK.out _ _ hk5 (?_ : wpAnyR _ _ _ _ _ _ _ (Act.put _ (some 118) _) _)
              clear ho5 hg5 hk5 hst4 hop hpo
              clear hK K
              try (simp only [Act.put]; try simp only [List.setIfInBounds_toArray]; try simp only [List.set_cons_zero, List.set_cons_succ])
              refine wpAnyR_take (pre_keptL (fun i => i < w2.heap.size)) (i := 9) (d := some 12) (v := ?vare9) rfl rfl (by kernel_rfl) (by kernel_rfl) (by kernel_rfl) (fun _ _ _ h => h) (by rfl) ?yare9 ?_
              case yare9 => (intro w' hw'; go_simp; try (with_reducible rfl))
              simp only [Act.put]; try simp only [List.setIfInBounds_toArray]; try simp only [List.set_cons_zero, List.set_cons_succ]
              refine wpAnyR_done (by kernel_rfl) ?_ _
              have hM5 : ts5.map (·.1) = L ++ ops := by rw [e5.out, e4.out, List.nil_append, List.map_append, HR5.out.says, HPO.out]
              have P5 : Hid (PL w1.heap.size w5 l r L c L c wr.heap.size (.slice A5 ts5.length cp5) (L ++ ops)) := HSH.out _ _ _ QB5.out ⟨ts5, hM5, own_ops HO5.out HR5.out.new HS5.out⟩
              clear hM5
              have X5 : Hid (w5.heap[wr.heap.size]? = some (.cells (ActV.cells ⟨⟨a0, a1, op, ops⟩, s, .slice AO ops.length cO⟩).toArray 71 (0, 0))) := ((QB5.out).block _ (lt_of_block X2.out)).trans X2.out
              have KB5 : Hid (Kept (fun i => i < w1.heap.size) wr w5) := KB2.out.trans (Kept.of_below (QB5.out) _)
              have BB5 : Hid (Below w1.heap.size w1 w5) := BB2.out.trans ((QB5.out).mono BB2.out.size)
              have HMX : Hid (Mild (L ++ ops)) := fun q hq => (List.mem_append.1 hq).elim (P2.out.mild q) (HMO.out q)
              go_wp2
              have XD5 : Hid (w5.drew.heap[wr.heap.size]? = some (.cells (ActV.cells ⟨⟨a0, a1, op, ops⟩, s, .slice AO ops.length cO⟩).toArray 71 (0, 0))) := X5.out
              refine wp_region_R (R := fun a b => Kept (fun i => i = wr.heap.size) a b) (by kernel_rfl) ?_
              refine wpAnyR_take (pre_keptL (fun i => i = wr.heap.size)) (i := 0) (d := some 119) (v := ?varf0) rfl rfl (by kernel_rfl) (by kernel_rfl) (by kernel_rfl) (fun _ _ _ h => h) (by rfl) ?yarf0 ?_
              case yarf0 => (intro w' hw'; go_simp; try (with_reducible rfl))
              simp only [Act.put]; try simp only [List.setIfInBounds_toArray]; try simp only [List.set_cons_zero, List.set_cons_succ]
              refine wpAnyR_take (pre_keptL (fun i => i = wr.heap.size)) (i := 1) (d := some 120) (v := ?varf1) rfl rfl (by kernel_rfl) (by kernel_rfl) (by kernel_rfl) (fun _ _ _ h => h) (by rfl) ?yarf1 ?_
              case yarf1 => (intro w' hw'; go_simp; try (with_reducible rfl))
              simp only [Act.put]; try simp only [List.setIfInBounds_toArray]; try simp only [List.set_cons_zero, List.set_cons_succ]
              refine wpAnyR_take (pre_keptL (fun i => i = wr.heap.size)) (i := 2) (d := some 121) (v := ?varf2) rfl rfl (by kernel_rfl) (by kernel_rfl) (by kernel_rfl) (fun _ _ _ h => h) (by rfl) ?yarf2 ?_
              case yarf2 => (intro w' hw'; go_simp; try (with_reducible rfl))
              simp only [Act.put]; try simp only [List.setIfInBounds_toArray]; try simp only [List.set_cons_zero, List.set_cons_succ]
              refine wpAnyR_take (pre_keptL (fun i => i = wr.heap.size)) (i := 3) (d := some 122) (v := ?varf3) rfl rfl (by kernel_rfl) (by kernel_rfl) (by kernel_rfl) (fun _ _ _ h => h) (by rfl) ?yarf3 ?_
              case yarf3 => (intro w' hw'; obtain ⟨e0, e1, e12⟩ := act6_cells ((hw'.2 _ (lt_of_block XD5.out) rfl).trans XD5.out); go_simp; try (with_reducible rfl))
              simp only [Act.put]; try simp only [List.setIfInBounds_toArray]; try simp only [List.set_cons_zero, List.set_cons_succ]
              refine wpAnyR_take (pre_keptL (fun i => i = wr.heap.size)) (i := 5) (d := some 124) (v := ?varf5) rfl rfl (by kernel_rfl) (by kernel_rfl) (by kernel_rfl) (fun _ _ _ h => h) (by rfl) ?yarf5 ?_
              case yarf5 => (intro w' hw'; go_simp; try (with_reducible rfl))
              simp only [Act.put]; try simp only [List.setIfInBounds_toArray]; try simp only [List.set_cons_zero, List.set_cons_succ]
              refine wpAnyR_take (pre_keptL (fun i => i = wr.heap.size)) (i := 6) (d := some 125) (v := ?varf6) rfl rfl (by kernel_rfl) (by kernel_rfl) (by kernel_rfl) (fun _ _ _ h => h) (by rfl) ?yarf6 ?_
              case yarf6 => (intro w' hw'; go_simp; try (with_reducible rfl))
              simp only [Act.put]; try simp only [List.setIfInBounds_toArray]; try simp only [List.set_cons_zero, List.set_cons_succ]
              refine wpAnyR_take (pre_keptL (fun i => i = wr.heap.size)) (i := 7) (d := some 126) (v := ?varf7) rfl rfl (by kernel_rfl) (by kernel_rfl) (by kernel_rfl) (fun _ _ _ h => h) (by rfl) ?yarf7 ?_
              case yarf7 => (intro w' hw'; go_simp; try (with_reducible rfl))
              simp only [Act.put]; try simp only [List.setIfInBounds_toArray]; try simp only [List.set_cons_zero, List.set_cons_succ]
              refine wpAnyR_take (pre_keptL (fun i => i = wr.heap.size)) (i := 8) (d := some 127) (v := ?varf8) rfl rfl (by kernel_rfl) (by kernel_rfl) (by kernel_rfl) (fun _ _ _ h => h) (by rfl) ?yarf8 ?_
              case yarf8 => (intro w' hw'; obtain ⟨e0, e1, e12⟩ := act6_cells ((hw'.2 _ (lt_of_block XD5.out) rfl).trans XD5.out); go_simp; try (with_reducible rfl))
              simp only [Act.put]; try simp only [List.setIfInBounds_toArray]; try simp only [List.set_cons_zero, List.set_cons_succ]
              refine wpAnyR_only (i := 4) rfl (by kernel_rfl) (by rfl) fun K hK => ?_
              go_simp
              refine (pl_replace a1 (P5.out.later (Below.refl w5.heap.size w5).drew) HMX.out).mono ?_
              rw [HZ1v.out]
              rintro e w6 ⟨rfl, p6, q6⟩
              have P6 := hide p6
              have X6 : Hid (w6.heap[wr.heap.size]? = some (.cells (ActV.cells ⟨⟨a0, a1, op, ops⟩, s, .slice AO ops.length cO⟩).toArray 71 (0, 0))) := (q6.1.2 _ P5.out.blt (.inl rfl)).trans X5.out
              have KB6 : Hid (Kept (fun i => i < w1.heap.size) wr w6) := KB5.out.trans (q6.1.mono fun _ _ h => .inr h)
              have BB6 : Hid (Below w1.heap.size w1 w6) := BB5.out.trans (show Below w1.heap.size w5 w6 by first | exact q6.2 | exact (Below.refl _ _).drew.trans q6.2)
              have hkx := q6.kb
              refine hK.out _ _ hkx ?_
              clear p6 q6 hkx
              clear hK K
              try (simp only [Act.put]; try simp only [List.setIfInBounds_toArray]; try simp only [List.set_cons_zero, List.set_cons_succ])
              refine wpAnyR_only (i := 9) rfl (by kernel_rfl) (by rfl) fun K hK => ?_
              go_simp
              refine (pl_refreplace a1 P6.out).mono ?_
              rw [HZ1v.out]
              rintro e w7 ⟨rfl, p7, q7⟩
              have P7 := hide p7
              have X7 : Hid (w7.heap[wr.heap.size]? = some (.cells (ActV.cells ⟨⟨a0, a1, op, ops⟩, s, .slice AO ops.length cO⟩).toArray 71 (0, 0))) := (q7.1.2 _ P6.out.blt (.inl rfl)).trans X6.out
              have KB7 : Hid (Kept (fun i => i < w1.heap.size) wr w7) := KB6.out.trans (q7.1.mono fun _ _ h => .inr h)
              have BB7 : Hid (Below w1.heap.size w1 w7) := BB6.out.trans (show Below w1.heap.size w6 w7 by first | exact q7.2 | exact (Below.refl _ _).drew.trans q7.2)
              have hkx := q7.kb
              refine hK.out _ _ hkx ?_
              clear p7 q7 hkx
              clear hK K
              try (simp only [Act.put]; try simp only [List.setIfInBounds_toArray]; try simp only [List.set_cons_zero, List.set_cons_succ])
              refine wpAnyR_take (pre_keptL (fun i => i = wr.heap.size)) (i := 10) (d := some 129) (v := ?varf10) rfl rfl (by kernel_rfl) (by kernel_rfl) (by kernel_rfl) (fun _ _ _ h => h) (by rfl) ?yarf10 ?_
              case yarf10 => (intro w' hw'; go_simp; try (with_reducible rfl))
              simp only [Act.put]; try simp only [List.setIfInBounds_toArray]; try simp only [List.set_cons_zero, List.set_cons_succ]
              refine wpAnyR_take (pre_keptL (fun i => i = wr.heap.size)) (i := 11) (d := some 7) (v := ?varf11) rfl rfl (by kernel_rfl) (by kernel_rfl) (by kernel_rfl) (fun _ _ _ h => h) (by rfl) ?yarf11 ?_
              case yarf11 => (intro w' hw'; go_simp; try (with_reducible rfl))
              simp only [Act.put]; try simp only [List.setIfInBounds_toArray]; try simp only [List.set_cons_zero, List.set_cons_succ]
              refine wpAnyR_done (by kernel_rfl) ?_ _
              go_wp2
              go_meet
              case rel => exact ⟨by first | rfl | simp, _, _, _, _, P7.out, X7.out, BB7.out⟩
          · as_aux_lemma =>
              have hk0 : (a0 == 0) = false := by simpa using hkd0
              have hk1 : (a0 == 1) = false := by simpa using hkd1
              have hk2 : (a0 == 2) = false := by simpa using hkd2
              have hk3 : (a0 == 3) = false := by simpa using hkd3
              have hk4 : (a0 == 4) = false := by simpa using hkd4
              have hk5 : (a0 == 5) = false := by simpa using hkd5
              clear hkd0 hkd1 hkd2 hkd3 hkd4 hkd5
              go_wp2
              go_wp2
              go_meet
              case rel => exact ⟨by first | rfl | simp, _, _, _, _, P2.out, X2.out, BB2.out⟩
        case rest =>
          as_aux_lemma =>
            obtain ⟨rfl, L2, c2, v2, M2, hpC, hxC, hbC⟩ := hcut
            have Pc := hide hpC
            have Xc := hide hxC
            have BBc := hide hbC
            clear hpC hxC hbC
            have PA := hide Pc.out
            have XA := hide Xc.out
            have BA := hide BBc.out
            obtain ⟨AR, n0, cpR, hn0, hcR, hread⟩ := pl_read PA.out
            have HRD := hide hread
            have HN0 := hide hn0
            clear hread hn0
            obtain ⟨e0, e1, e12⟩ := act6_cells XA.out
            go_wp2_with (fail)
            clear e0 e1 e12
            refine (pl_at a1 PA.out).mono ?_
            rintro e mw1 ⟨s1, rfl, hs1, hb1⟩
            have UB1 := hide hb1
            have US1 := hide hs1
            clear hb1 hs1
            obtain ⟨y0, hy0⟩ : ∃ y0, y0 = atV (atR L2 a1) := ⟨_, rfl⟩
            have HY := hide hy0
            rw [← hy0] at US1 ⊢
            clear hy0
            go_wp2_with (refine wpList_store_box (by rfl) 33 _ _ (by rfl) mw1.heap.size 0 (y0.1.cells s1).toArray (by rfl) (by rfl) 33 zOp (heap_alloc_new mw1 _) (by kernel_rfl) (by exact Nat.le_refl 10) (by exact y0.1.one (FlatAt.oneCell US1.out)) ?_; intro mw2 hx hg; have V2 : Hid (mw2.heap[mw1.heap.size]? = some (.cells (y0.1.cells s1).toArray 33 (0, 0))) := (by have h3 : mw2.heap[mw1.heap.size]? = some (.cells (putAt zOp 0 (y0.1.cells s1)) 33 (0, 0)) := hx; rw [put_op] at h3; exact h3); have UB2 : Hid (Below wc.heap.size wc mw2) := UB1.out.trans ((((Below.refl _ _).alloc (Nat.le_refl _) _).grown hg (by simp) (fun k hk => by have := Option.some.inj hk; omega)).mono UB1.out.size); have US2 : Hid (StepsAt (fun _ => True) mw2 s1 y0.1.steps) := US1.out.kept (Kept.of_below (((Below.refl _ _).alloc (Nat.le_refl _) _).grown hg (by simp) (fun k hk => by have := Option.some.inj hk; omega)) _); obtain ⟨e0, e1, e12⟩ := act6_cells ((UB2.out.block _ (lt_of_block XA.out)).trans XA.out); clear hx hg)
            clear e0 e1 e12
            refine (pl_refat a1 (PA.out.later UB2.out) HI1.out).mono ?_
            rw [← HY.out]
            rintro e mw3 ⟨s3, rfl, hs3, hb3⟩
            have US3 := hide hs3
            have UB3 : Hid (Below wc.heap.size wc mw3) := UB2.out.trans (hb3.mono UB2.out.size)
            have V3 := hide ((hb3.block _ (lt_of_block V2.out)).trans V2.out)
            have US2b := hide (US2.out.kept (Kept.of_below hb3 _))
            clear hs3 hb3
            go_wp2_with (refine wpList_store_box (by rfl) 33 _ _ (by rfl) mw3.heap.size 0 (y0.1.cells s3).toArray (by rfl) (by rfl) 33 zOp (heap_alloc_new mw3 _) (by kernel_rfl) (by exact Nat.le_refl 10) (by exact y0.1.one (FlatAt.oneCell US3.out)) ?_; intro mw4 hx hg; have hb4 : Below mw3.heap.size mw3 mw4 := ((Below.refl _ _).alloc (Nat.le_refl _) _).grown hg (by simp) (fun k hk => by have := Option.some.inj hk; omega); have W4 : Hid (mw4.heap[mw3.heap.size]? = some (.cells (y0.1.cells s3).toArray 33 (0, 0))) := (by have h3 : mw4.heap[mw3.heap.size]? = some (.cells (putAt zOp 0 (y0.1.cells s3)) 33 (0, 0)) := hx; rw [put_op] at h3; exact h3); have UB4 : Hid (Below wc.heap.size wc mw4) := UB3.out.trans (hb4.mono UB3.out.size); have US4 := hide (US3.out.kept (Kept.of_below hb4 _)); have V4 := hide ((hb4.block _ (lt_of_block V3.out)).trans V3.out); have US2c := hide (US2b.out.kept (Kept.of_below hb4 _)); clear hx hg hb4)
            refine wp_region_L (by kernel_rfl) ?_
            refine wpAnyL_take (i := 0) (d := some 144) (v := ?vatt0) rfl rfl (by kernel_rfl) (by kernel_rfl) (by kernel_rfl) (fun _ _ _ h => h) (by rfl) ?yatt0 ?_
            case yatt0 => (intro w' hw'; go_simp; try (with_reducible rfl))
            simp only [Act.put]; try simp only [List.setIfInBounds_toArray]; try simp only [List.set_cons_zero, List.set_cons_succ]
            refine wpAnyL_take (i := 1) (d := some 145) (v := ?vatt1) rfl rfl (by kernel_rfl) (by kernel_rfl) (by kernel_rfl) (fun _ _ _ h => h) (by rfl) ?yatt1 ?_
            case yatt1 => (intro w' hw'; go_simp; try (with_reducible rfl))
            simp only [Act.put]; try simp only [List.setIfInBounds_toArray]; try simp only [List.set_cons_zero, List.set_cons_succ]
            refine wpAnyL_take (i := 2) (d := some 146) (v := ?vatt2) rfl rfl (by kernel_rfl) (by kernel_rfl) (by kernel_rfl) (fun _ _ _ h => h) (by rfl) ?yatt2 ?_
            case yatt2 => (intro w' hw'; go_simp; try (with_reducible rfl))
            simp only [Act.put]; try simp only [List.setIfInBounds_toArray]; try simp only [List.set_cons_zero, List.set_cons_succ]
            refine wpAnyL_take (i := 3) (d := some 147) (v := .agg (y0.1.cells s1).toArray) rfl rfl (by kernel_rfl) (by kernel_rfl) (by kernel_rfl) (fun _ _ _ h => h) (by rfl) ?yatt3 ?_
            case yatt3 => (intro w' hw'; exact exec_load_box 33 _ (by rfl) mw1.heap.size 0 (by rfl) 33 _ ((((Below.refl mw4.heap.size mw4).drew.trans hw').block _ (lt_of_block V4.out)).trans V4.out) 10 _ Try.underlying33 (by rfl) (by kernel_rfl) (y0.1.cells s1) (by rfl) (by rfl))
            simp only [Act.put]; try simp only [List.setIfInBounds_toArray]; try simp only [List.set_cons_zero, List.set_cons_succ]
            refine wpAnyL_take (i := 4) (d := some 148) (v := .agg (y0.1.cells s3).toArray) rfl rfl (by kernel_rfl) (by kernel_rfl) (by kernel_rfl) (fun _ _ _ h => h) (by rfl) ?yatt4 ?_
            case yatt4 => (intro w' hw'; exact exec_load_box 33 _ (by rfl) mw3.heap.size 0 (by rfl) 33 _ ((((Below.refl mw4.heap.size mw4).drew.trans hw').block _ (lt_of_block W4.out)).trans W4.out) 10 _ Try.underlying33 (by rfl) (by kernel_rfl) (y0.1.cells s3) (by rfl) (by rfl))
            simp only [Act.put]; try simp only [List.setIfInBounds_toArray]; try simp only [List.set_cons_zero, List.set_cons_succ]
            refine wpAnyL_only (i := 5) rfl (by kernel_rfl) (by rfl) fun K hK => ?_
            go_simp
            refine (sameop_self _ (US2c.out.kept (Kept.of_below (Below.refl mw4.heap.size mw4).drew _)) (US4.out.kept (Kept.of_below (Below.refl mw4.heap.size mw4).drew _))).mono ?_
            rintro e z1 ⟨rfl, hz1⟩
            have HZ1 : Hid (Below mw4.heap.size mw4 z1) := (Below.refl mw4.heap.size mw4).drew.trans hz1
            refine hK.out _ _ hz1 ?_
            clear hz1
            clear hK K
            try (simp only [Act.put]; try simp only [List.setIfInBounds_toArray]; try simp only [List.set_cons_zero, List.set_cons_succ])
            refine wpAnyL_take (i := 6) (d := some 150) (v := ?vatt6) rfl rfl (by kernel_rfl) (by kernel_rfl) (by kernel_rfl) (fun _ _ _ h => h) (by rfl) ?yatt6 ?_
            case yatt6 => (intro w' hw'; go_simp; try (with_reducible rfl))
            simp only [Act.put]; try simp only [List.setIfInBounds_toArray]; try simp only [List.set_cons_zero, List.set_cons_succ]
            refine wpAnyL_take (i := 7) (d := some 151) (v := ?vatt7) rfl rfl (by kernel_rfl) (by kernel_rfl) (by kernel_rfl) (fun _ _ _ h => h) (by rfl) ?yatt7 ?_
            case yatt7 => (intro w' hw'; go_simp; try (with_reducible rfl))
            simp only [Act.put]; try simp only [List.setIfInBounds_toArray]; try simp only [List.set_cons_zero, List.set_cons_succ]
            refine wpAnyL_take (i := 8) (d := some 152) (v := ?vatt8) rfl rfl (by kernel_rfl) (by kernel_rfl) (by kernel_rfl) (fun _ _ _ h => h) (by rfl) ?yatt8 ?_
            case yatt8 => (intro w' hw'; go_simp; try (with_reducible rfl))
            simp only [Act.put]; try simp only [List.setIfInBounds_toArray]; try simp only [List.set_cons_zero, List.set_cons_succ]
            refine wpAnyL_take (i := 9) (d := some 153) (v := ?vatt9) rfl rfl (by kernel_rfl) (by kernel_rfl) (by kernel_rfl) (fun _ _ _ h => h) (by rfl) ?yatt9 ?_
            case yatt9 => (intro w' hw'; go_simp; try (with_reducible rfl))
            simp only [Act.put]; try simp only [List.setIfInBounds_toArray]; try simp only [List.set_cons_zero, List.set_cons_succ]
            refine wpAnyL_take (i := 10) (d := some 154) (v := ?vatt10) rfl rfl (by kernel_rfl) (by kernel_rfl) (by kernel_rfl) (fun _ _ _ h => h) (by rfl) ?yatt10 ?_
            case yatt10 => (intro w' hw'; go_simp; try (with_reducible rfl))
            simp only [Act.put]; try simp only [List.setIfInBounds_toArray]; try simp only [List.set_cons_zero, List.set_cons_succ]
            refine wpAnyL_take (i := 11) (d := some 155) (v := ?vatt11) rfl rfl (by kernel_rfl) (by kernel_rfl) (by kernel_rfl) (fun _ _ _ h => h) (by rfl) ?yatt11 ?_
            case yatt11 => (intro w' hw'; go_simp; try (with_reducible rfl))
            simp only [Act.put]; try simp only [List.setIfInBounds_toArray]; try simp only [List.set_cons_zero, List.set_cons_succ]
            refine wpAnyL_take (i := 12) (d := some 156) (v := ?vatt12) rfl rfl (by kernel_rfl) (by kernel_rfl) (by kernel_rfl) (fun _ _ _ h => h) (by rfl) ?yatt12 ?_
            case yatt12 => (intro w' hw'; go_simp; try (with_reducible rfl))
            simp only [Act.put]; try simp only [List.setIfInBounds_toArray]; try simp only [List.set_cons_zero, List.set_cons_succ]
            refine wpAnyL_take (i := 13) (d := some 157) (v := ?vatt13) rfl rfl (by kernel_rfl) (by kernel_rfl) (by kernel_rfl) (fun _ _ _ h => h) (by rfl) ?yatt13 ?_
            case yatt13 => (intro w' hw'; go_simp; try (with_reducible rfl))
            simp only [Act.put]; try simp only [List.setIfInBounds_toArray]; try simp only [List.set_cons_zero, List.set_cons_succ]
            refine wpAnyL_take (i := 14) (d := some 158) (v := ?vatt14) rfl rfl (by kernel_rfl) (by kernel_rfl) (by kernel_rfl) (fun _ _ _ h => h) (by rfl) ?yatt14 ?_
            case yatt14 => (intro w' hw'; go_simp; try (with_reducible rfl))
            simp only [Act.put]; try simp only [List.setIfInBounds_toArray]; try simp only [List.set_cons_zero, List.set_cons_succ]
            refine wpAnyL_take (i := 16) (d := some 160) (v := ?vatt16) rfl rfl (by kernel_rfl) (by kernel_rfl) (by kernel_rfl) (fun _ _ _ h => h) (by rfl) ?yatt16 ?_
            case yatt16 => (intro w' hw'; go_simp; try (with_reducible rfl))
            simp only [Act.put]; try simp only [List.setIfInBounds_toArray]; try simp only [List.set_cons_zero, List.set_cons_succ]
            refine wpAnyL_take (i := 17) (d := some 161) (v := ?vatt17) rfl rfl (by kernel_rfl) (by kernel_rfl) (by kernel_rfl) (fun _ _ _ h => h) (by rfl) ?yatt17 ?_
            case yatt17 => (intro w' hw'; go_simp; try (with_reducible rfl))
            simp only [Act.put]; try simp only [List.setIfInBounds_toArray]; try simp only [List.set_cons_zero, List.set_cons_succ]
            refine wpAnyL_take (i := 18) (d := some 162) (v := ?vatt18) rfl rfl (by kernel_rfl) (by kernel_rfl) (by kernel_rfl) (fun _ _ _ h => h) (by rfl) ?yatt18 ?_
            case yatt18 => (intro w' hw'; go_simp; try (with_reducible rfl))
            simp only [Act.put]; try simp only [List.setIfInBounds_toArray]; try simp only [List.set_cons_zero, List.set_cons_succ]
            refine wpAnyL_take (i := 19) (d := some 163) (v := .slice AR n0 cpR) rfl rfl (by kernel_rfl) (by kernel_rfl) (by kernel_rfl) (fun _ _ _ h => h) (by rfl) ?yatt19 ?_
            case yatt19 => (intro w' hw'; obtain ⟨d0, d1, _⟩ := HRD.out w' (UB4.out.trans ((HZ1.out.trans (Below.mono hw' HZ1.out.size)).mono UB4.out.size)); go_simp; try (with_reducible rfl))
            simp only [Act.put]; try simp only [List.setIfInBounds_toArray]; try simp only [List.set_cons_zero, List.set_cons_succ]
            refine wpAnyL_take (i := 20) (d := some 164) (v := ?vatt20) rfl rfl (by kernel_rfl) (by kernel_rfl) (by kernel_rfl) (fun _ _ _ h => h) (by rfl) ?yatt20 ?_
            case yatt20 => (intro w' hw'; go_simp; try (with_reducible rfl))
            simp only [Act.put]; try simp only [List.setIfInBounds_toArray]; try simp only [List.set_cons_zero, List.set_cons_succ]
            refine wpAnyL_only (i := 15) rfl (by kernel_rfl) (by rfl) fun K hK => ?_
            go_simp
            refine (pl_last (PA.out.later (UB4.out.trans ((HZ1.out).mono UB4.out.size)))).mono ?_
            rw [← HN0.out]
            rintro e z2 ⟨rfl, rfl⟩
            refine hK.out _ _ (Later.refl _) ?_
            clear hK K
            try (simp only [Act.put]; try simp only [List.setIfInBounds_toArray]; try simp only [List.set_cons_zero, List.set_cons_succ])
            refine wpAnyL_take (i := 21) (d := some 165) (v := ?vatt21) rfl rfl (by kernel_rfl) (by kernel_rfl) (by kernel_rfl) (fun _ _ _ h => h) (by rfl) ?yatt21 ?_
            case yatt21 => (intro w' hw'; go_simp; try (with_reducible rfl))
            simp only [Act.put]; try simp only [List.setIfInBounds_toArray]; try simp only [List.set_cons_zero, List.set_cons_succ]
            refine wpAnyL_take (i := 22) (d := some 166) (v := ?vatt22) rfl rfl (by kernel_rfl) (by kernel_rfl) (by kernel_rfl) (fun _ _ _ h => h) (by rfl) ?yatt22 ?_
            case yatt22 => (intro w' hw'; go_simp; try (with_reducible rfl))
            simp only [Act.put]; try simp only [List.setIfInBounds_toArray]; try simp only [List.set_cons_zero, List.set_cons_succ]
            refine wpAnyL_take (i := 23) (d := some 167) (v := ?vatt23) rfl rfl (by kernel_rfl) (by kernel_rfl) (by kernel_rfl) (fun _ _ _ h => h) (by rfl) ?yatt23 ?_
            case yatt23 => (intro w' hw'; go_simp; try (with_reducible rfl))
            simp only [Act.put]; try simp only [List.setIfInBounds_toArray]; try simp only [List.set_cons_zero, List.set_cons_succ]
            refine wpAnyL_take (i := 24) (d := some 168) (v := ?vatt24) rfl rfl (by kernel_rfl) (by kernel_rfl) (by kernel_rfl) (fun _ _ _ h => h) (by rfl) ?yatt24 ?_
            case yatt24 => (intro w' hw'; go_simp; try (with_reducible rfl))
            simp only [Act.put]; try simp only [List.setIfInBounds_toArray]; try simp only [List.set_cons_zero, List.set_cons_succ]
            refine wpAnyL_take (i := 26) (d := some 170) (v := ?vatt26) rfl rfl (by kernel_rfl) (by kernel_rfl) (by kernel_rfl) (fun _ _ _ h => h) (by rfl) ?yatt26 ?_
            case yatt26 => (intro w' hw'; go_simp; try (with_reducible rfl))
            simp only [Act.put]; try simp only [List.setIfInBounds_toArray]; try simp only [List.set_cons_zero, List.set_cons_succ]
            refine wpAnyL_take (i := 27) (d := some 171) (v := ?vatt27) rfl rfl (by kernel_rfl) (by kernel_rfl) (by kernel_rfl) (fun _ _ _ h => h) (by rfl) ?yatt27 ?_
            case yatt27 => (intro w' hw'; go_simp; try (with_reducible rfl))
            simp only [Act.put]; try simp only [List.setIfInBounds_toArray]; try simp only [List.set_cons_zero, List.set_cons_succ]
            refine wpAnyL_take (i := 28) (d := some 172) (v := ?vatt28) rfl rfl (by kernel_rfl) (by kernel_rfl) (by kernel_rfl) (fun _ _ _ h => h) (by rfl) ?yatt28 ?_
            case yatt28 => (intro w' hw'; go_simp; try (with_reducible rfl))
            simp only [Act.put]; try simp only [List.setIfInBounds_toArray]; try simp only [List.set_cons_zero, List.set_cons_succ]
            refine wpAnyL_take (i := 29) (d := some 173) (v := ?vatt29) rfl rfl (by kernel_rfl) (by kernel_rfl) (by kernel_rfl) (fun _ _ _ h => h) (by rfl) ?yatt29 ?_
            case yatt29 => (intro w' hw'; obtain ⟨d0, d1, _⟩ := HRD.out w' (UB4.out.trans ((HZ1.out.trans (Below.mono hw' HZ1.out.size)).mono UB4.out.size)); go_simp; try (with_reducible rfl))
            simp only [Act.put]; try simp only [List.setIfInBounds_toArray]; try simp only [List.set_cons_zero, List.set_cons_succ]
            refine wpAnyL_only (i := 25) rfl (by kernel_rfl) (by rfl) fun K hK => ?_
            go_simp
            refine (pl_committed (PA.out.later (UB4.out.trans ((HZ1.out).mono UB4.out.size)))).mono ?_
            rintro e z3 ⟨rfl, rfl⟩
            refine hK.out _ _ (Later.refl _) ?_
            clear hK K
            try (simp only [Act.put]; try simp only [List.setIfInBounds_toArray]; try simp only [List.set_cons_zero, List.set_cons_succ])
            refine wpAnyL_take (i := 30) (d := some 174) (v := ?vatt30) rfl rfl (by kernel_rfl) (by kernel_rfl) (by kernel_rfl) (fun _ _ _ h => h) (by rfl) ?yatt30 ?_
            case yatt30 => (intro w' hw'; go_simp; try (with_reducible rfl))
            simp only [Act.put]; try simp only [List.setIfInBounds_toArray]; try simp only [List.set_cons_zero, List.set_cons_succ]
            refine wpAnyL_take (i := 31) (d := some 175) (v := ?vatt31) rfl rfl (by kernel_rfl) (by kernel_rfl) (by kernel_rfl) (fun _ _ _ h => h) (by rfl) ?yatt31 ?_
            case yatt31 => (intro w' hw'; go_simp; try (with_reducible rfl))
            simp only [Act.put]; try simp only [List.setIfInBounds_toArray]; try simp only [List.set_cons_zero, List.set_cons_succ]
            refine wpAnyL_take (i := 32) (d := some 176) (v := ?vatt32) rfl rfl (by kernel_rfl) (by kernel_rfl) (by kernel_rfl) (fun _ _ _ h => h) (by rfl) ?yatt32 ?_
            case yatt32 => (intro w' hw'; go_simp; try (with_reducible rfl))
            simp only [Act.put]; try simp only [List.setIfInBounds_toArray]; try simp only [List.set_cons_zero, List.set_cons_succ]
            refine wpAnyL_take (i := 33) (d := some 177) (v := ?vatt33) rfl rfl (by kernel_rfl) (by kernel_rfl) (by kernel_rfl) (fun _ _ _ h => h) (by rfl) ?yatt33 ?_
            case yatt33 => (intro w' hw'; go_simp; try (with_reducible rfl))
            simp only [Act.put]; try simp only [List.setIfInBounds_toArray]; try simp only [List.set_cons_zero, List.set_cons_succ]
            refine wpAnyL_take (i := 34) (d := some 178) (v := ?vatt34) rfl rfl (by kernel_rfl) (by kernel_rfl) (by kernel_rfl) (fun _ _ _ h => h) (by rfl) ?yatt34 ?_
            case yatt34 => (intro w' hw'; go_simp; try (with_reducible rfl))
            simp only [Act.put]; try simp only [List.setIfInBounds_toArray]; try simp only [List.set_cons_zero, List.set_cons_succ]
            refine wpAnyL_take (i := 35) (d := some 179) (v := ?vatt35) rfl rfl (by kernel_rfl) (by kernel_rfl) (by kernel_rfl) (fun _ _ _ h => h) (by rfl) ?yatt35 ?_
            case yatt35 => (intro w' hw'; obtain ⟨e0, e1, e12⟩ := act6_cells (((UB4.out.trans ((HZ1.out.trans (Below.mono hw' HZ1.out.size)).mono UB4.out.size)).block _ (lt_of_block XA.out)).trans XA.out); go_simp; try (with_reducible rfl))
            simp only [Act.put]; try simp only [List.setIfInBounds_toArray]; try simp only [List.set_cons_zero, List.set_cons_succ]
            refine wpAnyL_take (i := 37) (d := some 181) (v := ?vatt37) rfl rfl (by kernel_rfl) (by kernel_rfl) (by kernel_rfl) (fun _ _ _ h => h) (by rfl) ?yatt37 ?_
            case yatt37 => (intro w' hw'; go_simp; try (with_reducible rfl))
            simp only [Act.put]; try simp only [List.setIfInBounds_toArray]; try simp only [List.set_cons_zero, List.set_cons_succ]
            refine wpAnyL_take (i := 38) (d := some 182) (v := ?vatt38) rfl rfl (by kernel_rfl) (by kernel_rfl) (by kernel_rfl) (fun _ _ _ h => h) (by rfl) ?yatt38 ?_
            case yatt38 => (intro w' hw'; go_simp; try (with_reducible rfl))
            simp only [Act.put]; try simp only [List.setIfInBounds_toArray]; try simp only [List.set_cons_zero, List.set_cons_succ]
            refine wpAnyL_take (i := 39) (d := some 183) (v := ?vatt39) rfl rfl (by kernel_rfl) (by kernel_rfl) (by kernel_rfl) (fun _ _ _ h => h) (by rfl) ?yatt39 ?_
            case yatt39 => (intro w' hw'; obtain ⟨e0, e1, e12⟩ := act6_cells (((UB4.out.trans ((HZ1.out.trans (Below.mono hw' HZ1.out.size)).mono UB4.out.size)).block _ (lt_of_block XA.out)).trans XA.out); go_simp; try (with_reducible rfl))
            simp only [Act.put]; try simp only [List.setIfInBounds_toArray]; try simp only [List.set_cons_zero, List.set_cons_succ]
            refine wpAnyL_only (i := 36) rfl (by kernel_rfl) (by rfl) fun K hK => ?_
            go_simp
            refine (pl_since a1 (PA.out.later (UB4.out.trans ((HZ1.out).mono UB4.out.size)))).mono ?_
            rintro e z4 ⟨t4, rfl, ho4, hz4⟩
            have HT4 := hide ho4
            have HZ4 : Hid (Below mw4.heap.size mw4 z4) := HZ1.out.trans (hz4.mono HZ1.out.size)
            refine hK.out _ _ hz4 ?_
            clear ho4 hz4
            clear hK K
            try (simp only [Act.put]; try simp only [List.setIfInBounds_toArray]; try simp only [List.set_cons_zero, List.set_cons_succ])
            refine wpAnyL_only (i := 40) rfl (by kernel_rfl) (by rfl) fun K hK => ?_
            go_simp
            refine (pl_refsince a1 (PA.out.later (UB4.out.trans ((HZ4.out).mono UB4.out.size)))).mono ?_
            rintro e z5 ⟨t5, rfl, ho5, hz5⟩
            have HT5 := hide ho5
            have HT4b := hide (HT4.out.kept (Kept.of_below hz5 _))
            have HZ5 : Hid (Below mw4.heap.size mw4 z5) := HZ4.out.trans (hz5.mono HZ4.out.size)
            refine hK.out _ _ hz5 ?_
            clear ho5 hz5
            clear hK K
            try (simp only [Act.put]; try simp only [List.setIfInBounds_toArray]; try simp only [List.set_cons_zero, List.set_cons_succ])
            refine wpAnyL_only (i := 41) rfl (by kernel_rfl) (by rfl) fun K hK => ?_
            go_simp
            refine (same_self _ HT4b.out HT5.out).mono ?_
            rintro e z6 ⟨rfl, hz6⟩
            have HZ6 : Hid (Below mw4.heap.size mw4 z6) := HZ5.out.trans (hz6.mono HZ5.out.size)
            refine hK.out _ _ hz6 ?_
            clear hz6
            clear hK K
            try (simp only [Act.put]; try simp only [List.setIfInBounds_toArray]; try simp only [List.set_cons_zero, List.set_cons_succ])
            refine wpAnyL_take (i := 42) (d := some 186) (v := ?vatt42) rfl rfl (by kernel_rfl) (by kernel_rfl) (by kernel_rfl) (fun _ _ _ h => h) (by rfl) ?yatt42 ?_
            case yatt42 => (intro w' hw'; go_simp; try (with_reducible rfl))
            simp only [Act.put]; try simp only [List.setIfInBounds_toArray]; try simp only [List.set_cons_zero, List.set_cons_succ]
            refine wpAnyL_take (i := 43) (d := some 187) (v := ?vatt43) rfl rfl (by kernel_rfl) (by kernel_rfl) (by kernel_rfl) (fun _ _ _ h => h) (by rfl) ?yatt43 ?_
            case yatt43 => (intro w' hw'; go_simp; try (with_reducible rfl))
            simp only [Act.put]; try simp only [List.setIfInBounds_toArray]; try simp only [List.set_cons_zero, List.set_cons_succ]
            refine wpAnyL_take (i := 44) (d := some 188) (v := ?vatt44) rfl rfl (by kernel_rfl) (by kernel_rfl) (by kernel_rfl) (fun _ _ _ h => h) (by rfl) ?yatt44 ?_
            case yatt44 => (intro w' hw'; go_simp; try (with_reducible rfl))
            simp only [Act.put]; try simp only [List.setIfInBounds_toArray]; try simp only [List.set_cons_zero, List.set_cons_succ]
            refine wpAnyL_take (i := 45) (d := some 189) (v := ?vatt45) rfl rfl (by kernel_rfl) (by kernel_rfl) (by kernel_rfl) (fun _ _ _ h => h) (by rfl) ?yatt45 ?_
            case yatt45 => (intro w' hw'; go_simp; try (with_reducible rfl))
            simp only [Act.put]; try simp only [List.setIfInBounds_toArray]; try simp only [List.set_cons_zero, List.set_cons_succ]
            refine wpAnyL_take (i := 47) (d := some 191) (v := ?vatt47) rfl rfl (by kernel_rfl) (by kernel_rfl) (by kernel_rfl) (fun _ _ _ h => h) (by rfl) ?yatt47 ?_
            case yatt47 => (intro w' hw'; go_simp; try (with_reducible rfl))
            simp only [Act.put]; try simp only [List.setIfInBounds_toArray]; try simp only [List.set_cons_zero, List.set_cons_succ]
            refine wpAnyL_take (i := 48) (d := some 192) (v := ?vatt48) rfl rfl (by kernel_rfl) (by kernel_rfl) (by kernel_rfl) (fun _ _ _ h => h) (by rfl) ?yatt48 ?_
            case yatt48 => (intro w' hw'; go_simp; try (with_reducible rfl))
            simp only [Act.put]; try simp only [List.setIfInBounds_toArray]; try simp only [List.set_cons_zero, List.set_cons_succ]
            refine wpAnyL_take (i := 49) (d := some 193) (v := ?vatt49) rfl rfl (by kernel_rfl) (by kernel_rfl) (by kernel_rfl) (fun _ _ _ h => h) (by rfl) ?yatt49 ?_
            case yatt49 => (intro w' hw'; go_simp; try (with_reducible rfl))
            simp only [Act.put]; try simp only [List.setIfInBounds_toArray]; try simp only [List.set_cons_zero, List.set_cons_succ]
            refine wpAnyL_take (i := 50) (d := some 194) (v := .slice AR n0 cpR) rfl rfl (by kernel_rfl) (by kernel_rfl) (by kernel_rfl) (fun _ _ _ h => h) (by rfl) ?yatt50 ?_
            case yatt50 => (intro w' hw'; obtain ⟨d0, d1, _⟩ := HRD.out w' (UB4.out.trans ((HZ6.out.trans (Below.mono hw' HZ6.out.size)).mono UB4.out.size)); go_simp; try (with_reducible rfl))
            simp only [Act.put]; try simp only [List.setIfInBounds_toArray]; try simp only [List.set_cons_zero, List.set_cons_succ]
            refine wpAnyL_only (i := 46) rfl (by kernel_rfl) (by rfl) fun K hK => ?_
            go_simp
            refine (pl_since 0 (PA.out.later (UB4.out.trans ((HZ6.out).mono UB4.out.size)))).mono ?_
            rw [drop_zero_of]
            rintro e z7 ⟨t7, rfl, ho7, hz7⟩
            have HT7 := hide ho7
            have HZ7 : Hid (Below mw4.heap.size mw4 z7) := HZ6.out.trans (hz7.mono HZ6.out.size)
            refine hK.out _ _ hz7 ?_
            clear ho7 hz7
            clear hK K
            try (simp only [Act.put]; try simp only [List.setIfInBounds_toArray]; try simp only [List.set_cons_zero, List.set_cons_succ])
            refine wpAnyL_only (i := 51) rfl (by kernel_rfl) (by rfl) fun K hK => ?_
            go_simp
            refine (same_self _ HT7.out (HRD.out _ (UB4.out.trans ((HZ7.out).mono UB4.out.size))).2.2).mono ?_
            rintro e z8 ⟨rfl, hz8⟩
            have HZ8 : Hid (Below mw4.heap.size mw4 z8) := HZ7.out.trans (hz8.mono HZ7.out.size)
            refine hK.out _ _ hz8 ?_
            clear hz8
            clear hK K
            try (simp only [Act.put]; try simp only [List.setIfInBounds_toArray]; try simp only [List.set_cons_zero, List.set_cons_succ])
            refine wpAnyL_take (i := 52) (d := some 196) (v := ?vatt52) rfl rfl (by kernel_rfl) (by kernel_rfl) (by kernel_rfl) (fun _ _ _ h => h) (by rfl) ?yatt52 ?_
            case yatt52 => (intro w' hw'; go_simp; try (with_reducible rfl))
            simp only [Act.put]; try simp only [List.setIfInBounds_toArray]; try simp only [List.set_cons_zero, List.set_cons_succ]
            refine wpAnyL_take (i := 53) (d := some 197) (v := ?vatt53) rfl rfl (by kernel_rfl) (by kernel_rfl) (by kernel_rfl) (fun _ _ _ h => h) (by rfl) ?yatt53 ?_
            case yatt53 => (intro w' hw'; go_simp; try (with_reducible rfl))
            simp only [Act.put]; try simp only [List.setIfInBounds_toArray]; try simp only [List.set_cons_zero, List.set_cons_succ]
            refine wpAnyL_done (by kernel_rfl) ?_ _
            go_wp2
            go_roundw
            case rel => exact ⟨k + 1, _, _, by omega, by go_num, PA.out.drop.later (UB4.out.trans ((HZ8.out).mono UB4.out.size)), BA.out.trans ((UB4.out.trans ((HZ8.out).mono UB4.out.size)).mono BA.out.size)⟩
            case measure => simp [Go.RowKit.intOf]; omega
      · have hlt : decide (k < ps.length) = false := by simpa using hkn
        go_wp2_with (fail)
        refine (LIVE.out _).mono ?_
        rintro e w2 ⟨rfl, hb2⟩
        have B2 := hide (HBW.out.trans ((BL.out.trans (hb2.mono BL.out.size)).mono HBW.out.size))
        clear hb2
        go_wp2
        go_ret
        exact ⟨rfl, B2.out⟩
end Go.Proofs.Ytehcaigkohkbnaa
