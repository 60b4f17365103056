/- Whatever bytes come in: NoteReads returns true and changes no argument. Conditions: the package-level table of package envelope starts as the program's text lays it; the argument takes up what the row allows. -/
import Derived.Test.YtehiaeihkdfclaaGreatDoorBaseN1
import Derived.Test.YtehiaeihkdfclaaGreatDoorBaseN2
import Derived.Test.YtehiaeihkdfclaaGreatDoorBaseN3
import Derived.Test.YtehiaeihkdfclaaGreatDoorBaseN4
import Derived.Test.YtehiaeihkdfclaaGreatDoorBaseN5
import Derived.Test.YtehiaeihkdfclaaGreatDoorReC1
import Derived.Test.YtehiaeihkdfclaaGreatDoorReC2
import Derived.Test.YtehiaeihkdfclaaGreatDoorRows
import Derived.Laws.StructEq
import Derived.Deep.QuietTactic
import Derived.BigQuiet
import Derived.Test.YtehiaeihkdfclaaGreatDoorCards
import Derived.Test.YtehiaeihkdfclaaGreatDoorTie
import Derived.SevenTiedAt
import Derived.ShutString
import Derived.ChangeOld
/- The walk over droverref09.Read: a message out of bytes, or the error, as the document reads it. -/
namespace Go.Proofs.YtehiaeihkdfclaaGreatDoor
open Go.RowKit

theorem opQ_wf {b : List Nat} (hs : ∀ x ∈ b, x < 256) (hl : b.length ≤ 5000) : (opQ b).wf := by
  have h := opQ_sm hs
  have hd := h.2.2.2.1
  exact ⟨h.1, h.2.1, h.2.2.1, by have h1 : (opQ b).name.size ≤ b.length := hd.1; omega, fun s hss => by
    have h1 := hd.2.2 s hss
    exact ⟨by have h2 := h1.1; omega, h1.2.1, h1.2.2.1, h1.2.2.2⟩, h.2.2.2.2.1, h.2.2.2.2.2.1, h.2.2.2.2.2.2⟩
theorem msgQ_wf {b : List Nat} (hs : ∀ x ∈ b, x < 256) (hl : b.length ≤ 5000) : (msgQ b).wf := by
  have h13 := pb_le hs 13
  have h14 := pb_le hs 14
  have h15 := pb_le hs 15
  refine ⟨zag_i64 hs 1, zag_i64 hs 2, zag_i64 hs 3, zag_i64 hs 4, zag_i64 hs 5, zag_i64 hs 6, zag_i64 hs 7, zag_i64 hs 8, zag_i64 hs 9, opQ_wf h13.2 (by omega), zag_i64 h14.2 1, zag_i64 h14.2 2, zag_i64 h14.2 3, zag_i64 h14.2 4,
    zag_i64 h15.2 1, zag_i64 h15.2 2, zag_i64 h15.2 3, zag_i64 h15.2 4, zag_i64 h15.2 5, fun x hx => ?_, fun x hx => ?_⟩
  · obtain ⟨q, hq, rfl⟩ := List.mem_map.1 hx
    have h1 := pread_fits hs q (List.mem_filter.1 hq).1
    exact opQ_wf h1.2.1 (by omega)
  · obtain ⟨q, hq, rfl⟩ := List.mem_map.1 hx
    have h1 := pread_fits hs q (List.mem_filter.1 hq).1
    exact zag_lt _ h1.1.1
theorem Tryz.infoOpQ : (Tryz.prog.info? 26).map (fun i => (i.zero, i.size, i.bytes)) = some (some (.agg #[.int .i64 0, .int .i64 0, .int .i64 0, .string ⟨#[]⟩, .slice none 0 0, .int .i64 0, .int .i64 0, .int .i64 0, .bool false, .bool false]), 10, 96) := by kernel_rfl
theorem Tryz.infoIntQ : (Tryz.prog.info? 3).map (fun i => (i.zero, i.size, i.bytes)) = some (some (.int .i64 0), 1, 8) := by kernel_rfl
theorem built_msg0 : Tryz.prog.built 35 [] = some zMsg := by kernel_rfl
theorem built_msg12 (m : MsgD) : Tryz.prog.built 35 [(0, .int .i64 m.kind), (1, .int .i64 m.src), (2, .int .i64 m.dst), (3, .int .i64 m.view), (4, .int .i64 m.last), (5, .int .i64 m.num), (6, .int .i64 m.commit), (7, .int .i64 m.nonce), (8, .int .i64 m.request), (9, .bool m.lead), (10, .bool m.good), (11, .bool m.fenced)] =
    some (({ MsgD.zero with kind := m.kind, src := m.src, dst := m.dst, view := m.view, last := m.last, num := m.num, commit := m.commit, nonce := m.nonce, request := m.request, lead := m.lead, good := m.good, fenced := m.fenced } : MsgD).cells (.slice none 0 0) (.slice none 0 0) (.slice none 0 0)).toArray := by kernel_rfl
theorem built_reply (a b c d : Int) : Tryz.prog.built 29 [(0, .int .i64 a), (1, .int .i64 b), (2, .int .i64 c), (3, .int .i64 d)] = some #[.int .i64 a, .int .i64 b, .int .i64 c, .int .i64 d] := by kernel_rfl
theorem built_cmd (a b c d e : Int) (f : Bool) : Tryz.prog.built 31 [(0, .int .i64 a), (1, .int .i64 b), (2, .int .i64 c), (3, .int .i64 d), (4, .int .i64 e), (5, .bool f)] = some #[.int .i64 a, .int .i64 b, .int .i64 c, .int .i64 d, .int .i64 e, .bool f] := by kernel_rfl
theorem put_m0 (m : MsgD) (s o i : Value) : putAt zMsg 0 (m.cells s o i) = (m.cells s o i).toArray := zMsg_put _ rfl
theorem put_op (m : MsgD) (x : OpD) (s s' o i : Value) : putAt (m.cells s o i).toArray 12 (x.cells s') = (({ m with op := x } : MsgD).cells s' o i).toArray := by simp [MsgD.cells, OpD.cells, putAt]
theorem put_reply (m : MsgD) (a b c d : Int) (s o i : Value) : putAt (m.cells s o i).toArray 22 [.int .i64 a, .int .i64 b, .int .i64 c, .int .i64 d] = (({ m with rerr := a, rsaga := b, rstate := c, rstep := d } : MsgD).cells s o i).toArray := by simp [MsgD.cells, putAt]
theorem put_cmd (m : MsgD) (a b c d e : Int) (f : Bool) (s o i : Value) : putAt (m.cells s o i).toArray 26 [.int .i64 a, .int .i64 b, .int .i64 c, .int .i64 d, .int .i64 e, .bool f] = (({ m with cview := a, cstub := b, csaga := c, cstep := d, ctry := e, cback := f } : MsgD).cells s o i).toArray := by simp [MsgD.cells, putAt]
/-- How far the message is put together: its box, its operation's steps. -/
structure SX (v w : World) (g : Nat) (m : MsgD) (sx : Value) (l : List StepD) : Prop where
  box : w.heap[g]? = some (.cells (m.cells sx (.slice none 0 0) (.slice none 0 0)).toArray 35 (0, 0))
  st : StepsAt (fun b => g < b) w sx l
  hl : Below g v w
theorem SX.later {v w w' : World} {g : Nat} {m : MsgD} {sx : Value} {l : List StepD} (h : SX v w g m sx l) (hl : Later w w') : SX v w' g m sx l :=
  ⟨(Below.block hl g (lt_of_block h.box)).trans h.box, h.st.kept (Kept.of_below hl _), h.hl.trans (Below.mono hl (Nat.le_of_lt (lt_of_block h.box)))⟩
theorem SX.store {v w w' : World} {g : Nat} {m m' : MsgD} {sx : Value} {l : List StepD} (h : SX v w g m sx l) (hb : w'.heap[g]? = some (.cells (m'.cells sx (.slice none 0 0) (.slice none 0 0)).toArray 35 (0, 0))) (hg : w.grownBy w' (some g)) : SX v w' g m' sx l :=
  ⟨hb, h.st.kept (Kept.of_grown hg (fun k e hf => by have := Option.some.inj e; have h1 : g < k := hf; omega)), Below.grown h.hl hg (Nat.le_of_lt (lt_of_block h.box)) (fun k hk => by have := Option.some.inj hk; omega)⟩
set_option maxHeartbeats 16000000 in
set_option maxRecDepth 100000 in
theorem rreadm_any {A : Option Addr} {n c : Nat} {l : List Nat} {w : World} (hl : Holds w w.heap.size A n l) (hn : n ≤ 3000) (hc : n ≤ c) :
    Calls Tryz.prog 18 #[.slice A n c] w fun e w' => ∃ sv ov iv, e = .returned (.tuple #[.agg ((readMQ l).2.cells sv ov iv).toArray, .int .i64 ((readMQ l).1 : Nat)]) ∧ Lists (fun _ => True) w' (readMQ l).2 sv ov iv ∧ Later w w' := by
  obtain ⟨i0, hi, hz0, hz1, hz2⟩ := info_parts Tryz.infoOpQ
  obtain ⟨j0, hj, hy0, hy1, hy2⟩ := info_parts Tryz.infoIntQ
  obtain ⟨W0, hW0⟩ : ∃ W0, W0 = w.alloc (.cells zMsg 35 (0, 0)) := ⟨_, rfl⟩
  have HB0 : Hid (Later w W0) := by rw [hW0]; exact Later.alloc _ _
  have HZ0 : Hid (W0.heap[w.heap.size]? = some (.cells zMsg 35 (0, 0))) := by rw [hW0]; exact heap_alloc_new _ _
  have HSZ : Hid (w.heap.size < W0.heap.size) := lt_of_block HZ0.out
  have CO := hide (ropenq_any A n c l _ (hl.later HB0.out) (by omega) hc)
  have HIN0 : Hid (∀ w', Later w w' → Holds w' w'.heap.size A n l) := fun w' h => hl.later h
  have HS := hide hl.2.1
  have HLN := hide hl.1
  have HW0 := hide hW0
  obtain ⟨xb, hxb⟩ : ∃ xb, (opn l).1 = xb := ⟨_, rfl⟩
  have HXS : Hid (∀ x ∈ xb, x < 256) := by rw [← hxb]; exact opn_small HS.out
  have HXL : Hid (xb.length ≤ 3000) := by have h1 := opn_len l; rw [hxb] at h1; have h2 := HLN.out; show _ ≤ _; omega
  obtain ⟨N, hN⟩ : ∃ N, (opn l).2.1 = N := ⟨_, rfl⟩
  obtain ⟨er, her⟩ : ∃ er, (opn l).2.2 = er := ⟨_, rfl⟩
  have HQ1 : Hid (er ≠ 0 → readMQ l = (er, .zero)) := fun h => by unfold readMQ; rw [her, if_pos h]
  have HQ2 : Hid (er = 0 → ¬ (N = l.length ∧ msgG (msgQ xb) = true ∧ msgB (msgQ xb) = xb) → readMQ l = (4, .zero)) := fun h h2 => by unfold readMQ; rw [her, hN, hxb, if_neg (by simpa using h), if_neg h2]
  have HQ3 : Hid (er = 0 → N = l.length → msgG (msgQ xb) = true → msgB (msgQ xb) = xb → readMQ l = (0, msgQ xb)) := fun h h1 h2 h3 => by unfold readMQ; rw [her, hN, hxb, if_neg (by simpa using h), if_pos ⟨h1, h2, h3⟩]
  clear hl
  go_enter Tryz.func18, Tryz.ntmps18
  go_wp2_with (fail)
  refine (show Calls Tryz.prog 46 #[.slice A n c] (w.alloc (.cells #[.int .i64 0, .int .i64 0, .int .i64 0, .int .i64 0, .int .i64 0, .int .i64 0, .int .i64 0, .int .i64 0, .int .i64 0, .bool false, .bool false, .bool false, .int .i64 0, .int .i64 0, .int .i64 0, .string ⟨#[]⟩, .slice none 0 0, .int .i64 0, .int .i64 0, .int .i64 0, .bool false, .bool false, .int .i64 0, .int .i64 0, .int .i64 0, .int .i64 0, .int .i64 0, .int .i64 0, .int .i64 0, .int .i64 0, .int .i64 0, .bool false, .slice none 0 0, .slice none 0 0] 35 (0, 0))) (OpenIs W0 l) from by rw [show w.alloc (.cells #[.int .i64 0, .int .i64 0, .int .i64 0, .int .i64 0, .int .i64 0, .int .i64 0, .int .i64 0, .int .i64 0, .int .i64 0, .bool false, .bool false, .bool false, .int .i64 0, .int .i64 0, .int .i64 0, .string ⟨#[]⟩, .slice none 0 0, .int .i64 0, .int .i64 0, .int .i64 0, .bool false, .bool false, .int .i64 0, .int .i64 0, .int .i64 0, .int .i64 0, .int .i64 0, .int .i64 0, .int .i64 0, .int .i64 0, .int .i64 0, .bool false, .slice none 0 0, .slice none 0 0] 35 (0, 0)) = W0 from HW0.out.symm]; exact CO.out).mono ?_
  rintro e w1 ⟨A1, n1, c1, rfl, hh1, hc1, hl1⟩
  rw [hN, her]
  rw [hxb] at hh1
  have HL1 : Hid (Later W0 w1) := hl1
  have HX1 := hide hh1
  have hn1 : n1 ≤ 3000 := by have h1 := hh1.1; have h2 := HXL.out; omega
  clear hh1 hl1 CO hW0 hxb hN her
  by_cases he : er = 0
  · subst he
    go_wp2_with (fail)
    refine (rread_any A1 n1 c1 xb _ HX1.out (by omega) hc1).mono ?_
    rintro e w2 ⟨A2, n2, c2, fs, rfl, hp2, hf2, hc2, hl2⟩
    have HP := hide hp2
    have HF2 := hide hf2
    have HL2 : Hid (Later W0 w2) := HL1.out.trans hl2
    have HJ2 : Hid (Later w1 w2) := hl2
    have hn15 : n2 ≤ 1500 := by
      have h1 := hf2.1
      have h2 := pread_count HXS.out
      have h3 := HXL.out
      rw [← hp2, List.length_map] at h2
      omega
    have hn2 : n2 ≤ 3000 := by
      have h1 := hf2.1
      have h2 := pread_count HXS.out
      have h3 := HXL.out
      rw [← hp2, List.length_map] at h2
      omega
    clear hp2 hf2 hl2
    go_wp2_with (fail)
    refine (rval_is HP.out HF2.out (by omega)).mono ?_
    rintro e w3 ⟨rfl, hl⟩
    have HF3 := hide (HF2.out.later hl)
    have HL3 : Hid (Later W0 w3) := HL2.out.trans hl
    have HJ3 : Hid (Later w1 w3) := HJ2.out.trans hl
    clear hl HF2 HL2 HJ2
    go_wp2_with (fail)
    refine (rval_is HP.out HF3.out (by omega)).mono ?_
    rintro e w4 ⟨rfl, hl⟩
    have HF4 := hide (HF3.out.later hl)
    have HL4 : Hid (Later W0 w4) := HL3.out.trans hl
    have HJ4 : Hid (Later w1 w4) := HJ3.out.trans hl
    clear hl HF3 HL3 HJ3
    go_wp2_with (fail)
    refine (rval_is HP.out HF4.out (by omega)).mono ?_
    rintro e w5 ⟨rfl, hl⟩
    have HF5 := hide (HF4.out.later hl)
    have HL5 : Hid (Later W0 w5) := HL4.out.trans hl
    have HJ5 : Hid (Later w1 w5) := HJ4.out.trans hl
    clear hl HF4 HL4 HJ4
    go_wp2_with (fail)
    refine (rval_is HP.out HF5.out (by omega)).mono ?_
    rintro e w6 ⟨rfl, hl⟩
    have HF6 := hide (HF5.out.later hl)
    have HL6 : Hid (Later W0 w6) := HL5.out.trans hl
    have HJ6 : Hid (Later w1 w6) := HJ5.out.trans hl
    clear hl HF5 HL5 HJ5
    go_wp2_with (fail)
    refine (rval_is HP.out HF6.out (by omega)).mono ?_
    rintro e w7 ⟨rfl, hl⟩
    have HF7 := hide (HF6.out.later hl)
    have HL7 : Hid (Later W0 w7) := HL6.out.trans hl
    have HJ7 : Hid (Later w1 w7) := HJ6.out.trans hl
    clear hl HF6 HL6 HJ6
    go_wp2_with (fail)
    refine (rval_is HP.out HF7.out (by omega)).mono ?_
    rintro e w8 ⟨rfl, hl⟩
    have HF8 := hide (HF7.out.later hl)
    have HL8 : Hid (Later W0 w8) := HL7.out.trans hl
    have HJ8 : Hid (Later w1 w8) := HJ7.out.trans hl
    clear hl HF7 HL7 HJ7
    go_wp2_with (fail)
    refine (rval_is HP.out HF8.out (by omega)).mono ?_
    rintro e w9 ⟨rfl, hl⟩
    have HF9 := hide (HF8.out.later hl)
    have HL9 : Hid (Later W0 w9) := HL8.out.trans hl
    have HJ9 : Hid (Later w1 w9) := HJ8.out.trans hl
    clear hl HF8 HL8 HJ8
    go_wp2_with (fail)
    refine (rval_is HP.out HF9.out (by omega)).mono ?_
    rintro e w10 ⟨rfl, hl⟩
    have HF10 := hide (HF9.out.later hl)
    have HL10 : Hid (Later W0 w10) := HL9.out.trans hl
    have HJ10 : Hid (Later w1 w10) := HJ9.out.trans hl
    clear hl HF9 HL9 HJ9
    go_wp2_with (fail)
    refine (rval_is HP.out HF10.out (by omega)).mono ?_
    rintro e w11 ⟨rfl, hl⟩
    have HF11 := hide (HF10.out.later hl)
    have HL11 : Hid (Later W0 w11) := HL10.out.trans hl
    have HJ11 : Hid (Later w1 w11) := HJ10.out.trans hl
    clear hl HF10 HL10 HJ10
    go_wp2_with (fail)
    refine (ris_is HP.out HF11.out (by omega)).mono ?_
    rintro e w12 ⟨rfl, hl⟩
    have HF12 := hide (HF11.out.later hl)
    have HL12 : Hid (Later W0 w12) := HL11.out.trans hl
    have HJ12 : Hid (Later w1 w12) := HJ11.out.trans hl
    clear hl HF11 HL11 HJ11
    go_wp2_with (fail)
    refine (ris_is HP.out HF12.out (by omega)).mono ?_
    rintro e w13 ⟨rfl, hl⟩
    have HF13 := hide (HF12.out.later hl)
    have HL13 : Hid (Later W0 w13) := HL12.out.trans hl
    have HJ13 : Hid (Later w1 w13) := HJ12.out.trans hl
    clear hl HF12 HL12 HJ12
    go_wp2_with (fail)
    refine (ris_is HP.out HF13.out (by omega)).mono ?_
    rintro e w14 ⟨rfl, hl⟩
    have HF14 := hide (HF13.out.later hl)
    have HL14 : Hid (Later W0 w14) := HL13.out.trans hl
    have HJ14 : Hid (Later w1 w14) := HJ13.out.trans hl
    clear hl HF13 HL13 HJ13
    obtain ⟨B9, hB9⟩ : ∃ B9, w14.heap.size = B9 := ⟨_, rfl⟩
    have HB9 := hide hB9
    have HZ14 : Hid ((w14.alloc (.cells zMsg 35 (0, 0))).heap[w14.heap.size]? = some (.cells zMsg 35 (0, 0))) := heap_alloc_new _ _
    have HFX : Hid (∀ w', Below B9 w14 w' → FHolds w' w'.heap.size A2 n2 fs) := fun w' h => by rw [← hB9] at h; exact HF14.out.later h
    have HLX : Hid (∀ w', Below B9 w14 w' → Later W0 w') := fun w' h => by rw [← hB9] at h; exact HL14.out.trans h
    have HJX : Hid (∀ w', Below B9 w14 w' → Later w1 w') := fun w' h => by rw [← hB9] at h; exact HJ14.out.trans h
    have HWB : Hid (w.heap.size < B9) := by have h1 := HL14.out.size; have h2 := HSZ.out; show _ < _; omega
    clear hB9 HF14 HJ14
    go_wp2_with (first
      | (refine wpList_build_parts (by rfl) 35 _ (by rfl) _ (by rfl) _ (built_msg12 (msgQ xb)) ?_)
      | (refine wpList_store_box (by rfl) 35 _ _ (by rfl) w14.heap.size 0 (({ MsgD.zero with kind := (msgQ xb).kind, src := (msgQ xb).src, dst := (msgQ xb).dst, view := (msgQ xb).view, last := (msgQ xb).last, num := (msgQ xb).num, commit := (msgQ xb).commit, nonce := (msgQ xb).nonce, request := (msgQ xb).request, lead := (msgQ xb).lead, good := (msgQ xb).good, fenced := (msgQ xb).fenced } : MsgD).cells (.slice none 0 0) (.slice none 0 0) (.slice none 0 0)).toArray (by rfl) (by rfl) 35 zMsg HZ14.out (by kernel_rfl) (by exact Nat.le_of_ble_eq_true rfl) (by exact MsgD.one _ rfl rfl rfl) ?_; intro w15 hb15 hg15; rw [put_m0, HB9.out] at hb15))
    have SX15 : Hid (SX w14 w15 B9 ({ MsgD.zero with kind := (msgQ xb).kind, src := (msgQ xb).src, dst := (msgQ xb).dst, view := (msgQ xb).view, last := (msgQ xb).last, num := (msgQ xb).num, commit := (msgQ xb).commit, nonce := (msgQ xb).nonce, request := (msgQ xb).request, lead := (msgQ xb).lead, good := (msgQ xb).good, fenced := (msgQ xb).fenced } : MsgD) (.slice none 0 0) []) := ⟨hb15, StepsAt.nil_ _ _, by rw [← HB9.out]; exact ((Below.refl _ _).alloc (Nat.le_refl _) _).grown hg15 (by simp) (fun k hk => by have := Option.some.inj hk; omega)⟩
    clear hb15 hg15
    rw [HB9.out]
    refine (rbytes_is HP.out (HFX.out _ SX15.out.hl) (by omega)).mono ?_
    rintro e w16 ⟨A3, n3, c3, rfl, hh3, hc3, hl⟩
    have SX16 := hide (SX15.out.later hl)
    have hn3 : n3 ≤ 5000 := by have h1 := hh3.1; have h2 := (pb_le HXS.out 13).1; have h3 := HXL.out; omega
    have HH3 := hide hh3
    clear hl SX15 hh3
    go_wp2_with (fail)
    refine (rop_any HH3.out hn3 hc3).mono ?_
    rintro e w17 ⟨sx, rfl, hst, hl⟩
    have SX17 := hide (SX16.out.later hl)
    have HST : Hid (StepsAt (fun b => B9 < b) w17 sx (opQ (pb (pread xb).2 13)).steps) := hst.mono (fun b _ h => by have h1 := lt_of_block SX16.out.box; have h2 : w16.heap.size ≤ b := h; show B9 < b; omega)
    have hs1 : sx.oneCell' = true := FlatAt.oneCell hst
    have HS1 := hide hs1
    clear hl SX16 hst hs1 HH3
    go_wp2_with (refine wpList_store_box (by rfl) 26 _ _ (by rfl) B9 12 ((opQ (pb (pread xb).2 13)).cells sx).toArray (by rfl) (by rfl) 35 _ SX17.out.box (by kernel_rfl) (by exact Nat.le_of_ble_eq_true rfl) (by exact (opQ (pb (pread xb).2 13)).one HS1.out) ?_; intro w18 hb18 hg18; rw [put_op] at hb18)
    have SX18 : Hid (SX w14 w18 B9 ({ ({ MsgD.zero with kind := (msgQ xb).kind, src := (msgQ xb).src, dst := (msgQ xb).dst, view := (msgQ xb).view, last := (msgQ xb).last, num := (msgQ xb).num, commit := (msgQ xb).commit, nonce := (msgQ xb).nonce, request := (msgQ xb).request, lead := (msgQ xb).lead, good := (msgQ xb).good, fenced := (msgQ xb).fenced } : MsgD) with op := opQ (pb (pread xb).2 13) } : MsgD) sx (opQ (pb (pread xb).2 13)).steps) := ⟨hb18, HST.out.kept (Kept.of_grown hg18 (fun k e hf => by have := Option.some.inj e; have h1 : B9 < k := hf; omega)), Below.grown SX17.out.hl hg18 (Nat.le_of_lt (lt_of_block SX17.out.box)) (fun k hk => by have := Option.some.inj hk; omega)⟩
    clear hb18 hg18 SX17 HST
    refine (rbytes_is HP.out (HFX.out _ SX18.out.hl) (by omega)).mono ?_
    rintro e w19 ⟨A4, n4, c4, rfl, hh4, hc4, hl⟩
    have SX19 := hide (SX18.out.later hl)
    have hn4 : n4 ≤ 5000 := by have h1 := hh4.1; have h2 := (pb_le HXS.out 14).1; have h3 := HXL.out; omega
    have HS14 : Hid (∀ x ∈ pb (pread xb).2 14, x < 256) := (pb_le HXS.out 14).2
    have HH4 := hide hh4
    clear hl SX18 hh4
    go_wp2_with (fail)
    refine (rread_any A4 n4 c4 _ _ HH4.out (by omega) hc4).mono ?_
    rintro e w20 ⟨A5, n5, c5, fs5, rfl, hp5, hf5, _, hl⟩
    have SX20 := hide (SX19.out.later hl)
    have HP5 := hide hp5
    have HG20 := hide hf5
    have hn5 : n5 ≤ 5000 := by have h1 := hf5.1; have h2 := pread_count HS14.out; have h3 := HH4.out.1; rw [← hp5, List.length_map] at h2; omega
    clear hl SX19 hp5 hf5 HH4
    go_wp2_with (fail)
    refine (rval_is HP5.out HG20.out (by omega)).mono ?_
    rintro e w21 ⟨rfl, hl⟩
    have HG21 := hide (HG20.out.later hl)
    have SX21 := hide (SX20.out.later hl)
    clear hl HG20 SX20
    go_wp2_with (fail)
    refine (rval_is HP5.out HG21.out (by omega)).mono ?_
    rintro e w22 ⟨rfl, hl⟩
    have HG22 := hide (HG21.out.later hl)
    have SX22 := hide (SX21.out.later hl)
    clear hl HG21 SX21
    go_wp2_with (fail)
    refine (rval_is HP5.out HG22.out (by omega)).mono ?_
    rintro e w23 ⟨rfl, hl⟩
    have HG23 := hide (HG22.out.later hl)
    have SX23 := hide (SX22.out.later hl)
    clear hl HG22 SX22
    go_wp2_with (fail)
    refine (rval_is HP5.out HG23.out (by omega)).mono ?_
    rintro e w24 ⟨rfl, hl⟩
    have HG24 := hide (HG23.out.later hl)
    have SX24 := hide (SX23.out.later hl)
    clear hl HG23 SX23
    go_wp2_with (first
      | (refine wpList_build_parts (by rfl) 29 _ (by rfl) _ (by rfl) _ (built_reply (msgQ xb).rerr (msgQ xb).rsaga (msgQ xb).rstate (msgQ xb).rstep) ?_)
      | (refine wpList_store_box (by rfl) 29 _ _ (by rfl) B9 22 #[.int .i64 (msgQ xb).rerr, .int .i64 (msgQ xb).rsaga, .int .i64 (msgQ xb).rstate, .int .i64 (msgQ xb).rstep] (by rfl) (by rfl) 35 _ SX24.out.box (by kernel_rfl) (by exact Nat.le_of_ble_eq_true rfl) (by intro u hu; simp at hu; rcases hu with rfl | rfl | rfl | rfl <;> rfl) ?_; intro w25 hb25 hg25; rw [put_reply] at hb25))
    have SX25 := hide (SX24.out.store hb25 hg25)
    clear hb25 hg25 SX24 HG24
    refine (rbytes_is HP.out (HFX.out _ SX25.out.hl) (by omega)).mono ?_
    rintro e w26 ⟨A6, n6, c6, rfl, hh6, hc6, hl⟩
    have SX26 := hide (SX25.out.later hl)
    have hn6 : n6 ≤ 5000 := by have h1 := hh6.1; have h2 := (pb_le HXS.out 15).1; have h3 := HXL.out; omega
    have HS15 : Hid (∀ x ∈ pb (pread xb).2 15, x < 256) := (pb_le HXS.out 15).2
    have HH6 := hide hh6
    clear hl SX25 hh6
    go_wp2_with (fail)
    refine (rread_any A6 n6 c6 _ _ HH6.out (by omega) hc6).mono ?_
    rintro e w27 ⟨A7, n7, c7, fs7, rfl, hp7, hf7, _, hl⟩
    have SX27 := hide (SX26.out.later hl)
    have HP7 := hide hp7
    have HG27 := hide hf7
    have hn7 : n7 ≤ 5000 := by have h1 := hf7.1; have h2 := pread_count HS15.out; have h3 := HH6.out.1; rw [← hp7, List.length_map] at h2; omega
    clear hl SX26 hp7 hf7 HH6
    go_wp2_with (fail)
    refine (rval_is HP7.out HG27.out (by omega)).mono ?_
    rintro e w28 ⟨rfl, hl⟩
    have HG28 := hide (HG27.out.later hl)
    have SX28 := hide (SX27.out.later hl)
    clear hl HG27 SX27
    go_wp2_with (fail)
    refine (rval_is HP7.out HG28.out (by omega)).mono ?_
    rintro e w29 ⟨rfl, hl⟩
    have HG29 := hide (HG28.out.later hl)
    have SX29 := hide (SX28.out.later hl)
    clear hl HG28 SX28
    go_wp2_with (fail)
    refine (rval_is HP7.out HG29.out (by omega)).mono ?_
    rintro e w30 ⟨rfl, hl⟩
    have HG30 := hide (HG29.out.later hl)
    have SX30 := hide (SX29.out.later hl)
    clear hl HG29 SX29
    go_wp2_with (fail)
    refine (rval_is HP7.out HG30.out (by omega)).mono ?_
    rintro e w31 ⟨rfl, hl⟩
    have HG31 := hide (HG30.out.later hl)
    have SX31 := hide (SX30.out.later hl)
    clear hl HG30 SX30
    go_wp2_with (fail)
    refine (rval_is HP7.out HG31.out (by omega)).mono ?_
    rintro e w32 ⟨rfl, hl⟩
    have HG32 := hide (HG31.out.later hl)
    have SX32 := hide (SX31.out.later hl)
    clear hl HG31 SX31
    go_wp2_with (fail)
    refine (ris_is HP7.out HG32.out (by omega)).mono ?_
    rintro e w33 ⟨rfl, hl⟩
    have HG33 := hide (HG32.out.later hl)
    have SX33 := hide (SX32.out.later hl)
    clear hl HG32 SX32
    go_wp2_with (first
      | (refine wpList_build_parts (by rfl) 31 _ (by rfl) _ (by rfl) _ (built_cmd (msgQ xb).cview (msgQ xb).cstub (msgQ xb).csaga (msgQ xb).cstep (msgQ xb).ctry (msgQ xb).cback) ?_)
      | (refine wpList_store_box (by rfl) 31 _ _ (by rfl) B9 26 #[.int .i64 (msgQ xb).cview, .int .i64 (msgQ xb).cstub, .int .i64 (msgQ xb).csaga, .int .i64 (msgQ xb).cstep, .int .i64 (msgQ xb).ctry, .bool (msgQ xb).cback] (by rfl) (by rfl) 35 _ SX33.out.box (by kernel_rfl) (by exact Nat.le_of_ble_eq_true rfl) (by intro u hu; simp at hu; rcases hu with rfl | rfl | rfl | rfl | rfl | rfl <;> rfl) ?_; intro w34 hb34 hg34; rw [put_cmd] at hb34))
    have SX34 : Hid (SX w14 w34 B9 (msgN xb 0) sx (msgN xb 0).op.steps) := SX33.out.store (by rw [msgN_zero]; exact hb34) hg34
    have HMB : Hid (MB w34 B9 (msgN xb 0) sx (.slice none 0 0) (.slice none 0 0) []) := ⟨SX34.out.box, World.ownsRow_nil _ _ _ _, World.ownsRow_nil _ _ _ _, rfl, SX34.out.st.mono (fun b _ hf => ⟨hf, by simp [Value.ownBlock], by simp [Value.ownBlock]⟩), by simp⟩
    have HL34 := hide SX34.out.hl
    clear hb34 hg34 SX33 SX34 HG33
    go_wp2
    go_loopw [98] (fun i wr => ∃ (q : Nat) (ov iv : Value) (qs : List (OpD × Value)), q ≤ n2 ∧ i = .int .i64 (q : Int) ∧ MB wr B9 (msgN xb q) sx ov iv qs ∧ Below B9 w14 wr) (fun i _ => n2 - (intOf i).toNat)
    case atStart => exact ⟨0, _, _, [], by omega, by go_num, HMB.out, HL34.out⟩
    case round =>
      obtain ⟨q, ov, iv, qs, hq, rfl, hmb, hb⟩ := hrel
      have HMB := hide hmb
      have HB := hide hb
      have HBS : Hid (B9 < wr.heap.size) := lt_of_block hmb.box
      have HQN : Hid (qs.length ≤ 3000) := by
        have h1 := congrArg List.length hmb.eq
        have h2 := opq_le (pread xb).2 q
        rw [List.length_map] at h1
        have h3 : (msgN xb q).ops.length = (opq (pread xb).2 q).length := rfl
        show _ ≤ _
        omega
      have HIN : Hid ((msgN xb q).incs.length ≤ 3000) := by
        have h2 := inq_le (pread xb).2 q
        have h3 : (msgN xb q).incs.length = (inq (pread xb).2 q).length := rfl
        show _ ≤ _
        omega
      clear hmb hb HL34
      by_cases hlt : q < n2
      · obtain ⟨f, b, off, hfk, hok, hA1, hbB, q0, q1, q2, q3, _⟩ := FHolds.at_ (HFX.out wr HB.out) (k := q) hlt
        obtain ⟨num, text, fv, fa, fn, fc, fb⟩ := f
        simp only at q0 q1 q2 q3
        subst hA1
        have hpk : (pread xb).2[q]? = some (num, text, fv, fb) := by rw [← HP.out, List.getElem?_map, hfk]; rfl
        have HFV : Hid (fv < 18446744073709551616) := hok.2.1
        have HFC : Hid (fn ≤ fc) := hok.2.2.1
        have HFH := hide hok.2.2.2
        have hfn : fn ≤ 5000 := by
          have h1 := pread_fits HXS.out (num, text, fv, fb) (List.mem_of_getElem? hpk)
          have h2 : fb.length = fn := hok.2.2.2.1
          have h3 := HXL.out
          simp only at h1
          omega
        have HPK := hide hpk
        clear hfk hok hpk
        by_cases hm : num = 16
        · subst hm
          have hm2 : ((16 : Int) == 16) = true := rfl
          have hm3 : ((16 : Int) == 17) = false := rfl
          have HN1 : Hid (msgN xb (q + 1) = { msgN xb q with ops := (msgN xb q).ops ++ [opQ fb] }) := by
            show _ = _
            unfold msgN
            rw [opq_hit HPK.out rfl, inq_miss HPK.out (by simp)]
          obtain ⟨w7, hw7⟩ : ∃ w7, w7 = (wr.alloc (.cells #[.int .i64 16, .bool text, .int .u64 fv, .slice fa fn fc] 92 (0, 0))).drew := ⟨_, rfl⟩
          have HE : Hid (Later wr w7) := by rw [hw7]; exact (Later.alloc _ _).trans (Below.mono (Later.drew _) (by simp))
          have HT7 : Hid (w7.heap[wr.heap.size]? = some (.cells #[.int .i64 16, .bool text, .int .u64 fv, .slice fa fn fc] 92 (0, 0))) := by rw [hw7]; exact heap_alloc_new _ _
          have HH7 := hide (HFH.out.later HE.out)
          have HW7 := hide hw7
          clear hw7
          go_wp2
          clear q0 q1 q2 q3
          refine wp_region_S (fun j => j == 6 || j == 8) (by kernel_rfl) ?_
          rw [← HW7.out]
          refine wpAnyS_take (i := 0) (d := some 105) (v := ?vao0) rfl rfl (by kernel_rfl) (by kernel_rfl) (by kernel_rfl) (by kernel_rfl) (by kernel_rfl) (fun _ _ _ h => h) (by rfl) ?yao0 ?_
          case yao0 => (intro w' hw'; go_simp; try (with_reducible rfl))
          simp only [Act.put]; try simp only [List.setIfInBounds_toArray]; try simp only [List.set_cons_zero, List.set_cons_succ]
          refine wpAnyS_take (i := 1) (d := some 106) (v := ov) rfl rfl (by kernel_rfl) (by kernel_rfl) (by kernel_rfl) (by kernel_rfl) (by kernel_rfl) (fun _ _ _ h => h) (by rfl) ?yao1 ?_
          case yao1 => (intro w' hw'; have hc : w'.cell? ⟨B9, 32, none⟩ = some ov := box_at ((Below.block (HE.out.trans hw') B9 HBS.out).trans HMB.out.box) 32 _ rfl; go_simp; try (with_reducible rfl))
          simp only [Act.put]; try simp only [List.setIfInBounds_toArray]; try simp only [List.set_cons_zero, List.set_cons_succ]
          refine wpAnyS_take (i := 2) (d := some 107) (v := ?vao2) rfl rfl (by kernel_rfl) (by kernel_rfl) (by kernel_rfl) (by kernel_rfl) (by kernel_rfl) (fun _ _ _ h => h) (by rfl) ?yao2 ?_
          case yao2 => (intro w' hw'; go_simp; try (with_reducible rfl))
          simp only [Act.put]; try simp only [List.setIfInBounds_toArray]; try simp only [List.set_cons_zero, List.set_cons_succ]
          refine wpAnyS_take (i := 3) (d := some 108) (v := .slice fa fn fc) rfl rfl (by kernel_rfl) (by kernel_rfl) (by kernel_rfl) (by kernel_rfl) (by kernel_rfl) (fun _ _ _ h => h) (by rfl) ?yao3 ?_
          case yao3 => (intro w' hw'; have hq : w'.cell? ⟨wr.heap.size, 3, none⟩ = some (.slice fa fn fc) := box_at ((Below.block hw' wr.heap.size (lt_of_block HT7.out)).trans HT7.out) 3 _ rfl; go_simp; try (with_reducible rfl))
          simp only [Act.put]; try simp only [List.setIfInBounds_toArray]; try simp only [List.set_cons_zero, List.set_cons_succ]
          refine wpAnyS_only (i := 4) rfl (by kernel_rfl) (by rfl) fun K hK => ?_
          go_simp
          refine (rop_any (HH7.out) (by omega) HFC.out).mono ?_
          rintro e w8 ⟨sx8, rfl, hst8, hl8⟩
          have HST8 := hide hst8
          have HL8 : Hid (Later w7 w8) := hl8
          have hs8 : sx8.oneCell' = true := FlatAt.oneCell hst8
          have HS8 := hide hs8
          refine hK.out _ _ hl8 ?_
          clear hst8 hl8 hs8
          clear hK K
          try (simp only [Act.put]; try simp only [List.setIfInBounds_toArray]; try simp only [List.set_cons_zero, List.set_cons_succ])
          refine wpAnyS_only (i := 5) rfl (by kernel_rfl) (by rfl) fun K hK => ?_
          refine wp_buildSlice_one 32 26 _ (by rfl) i0 _ 10 Tryz.underlying32 hi hz0 hz1 (by decide) (by decide) ((opQ fb).cells sx8).toArray (by rfl) (by rfl) ?_
          obtain ⟨w9, hw9⟩ : ∃ w9, w9 = w8.alloc (.cells ((opQ fb).cells sx8).toArray 26 (0, 0)) := ⟨_, rfl⟩
          have hl9 : Later w8 w9 := by rw [hw9]; exact Later.alloc _ _
          have HL9 : Hid (Later w7 w9) := HL8.out.trans hl9
          have F9 : Hid (FlatAt (fun _ => True) w9 10 (.slice (some ⟨w8.heap.size, 0, none⟩) 1 1) 1 ((opQ fb).cells sx8).toArray.toList) := by rw [hw9]; exact flat_one w8 26 10 ((opQ fb).cells sx8).toArray (by rfl) (by exact (opQ fb).one HS8.out) _ trivial
          have HST9 := hide (HST8.out.kept (Kept.of_below hl9 _))
          rw [← hw9]
          refine hK.out _ _ hl9 ?_
          clear hw9 hl9
          clear hK K
          try (simp only [Act.put]; try simp only [List.setIfInBounds_toArray]; try simp only [List.set_cons_zero, List.set_cons_succ])
          refine wpAnyS_write (i := 6) rfl rfl (by kernel_rfl) (by rfl) fun K hK => ?_
          refine wp_append_flat _ _ 32 (by rfl) (B9 + 1) 26 i0 _ 10 96 Tryz.underlying32 hi hz0 hz1 hz2 (by rfl) (by decide) ov qs.length (qs.flatMap fun p => p.1.cells p.2) (by rfl) (MB.later HMB.out (HE.out.trans HL9.out)).ops w8.heap.size 1 1 ((opQ fb).cells sx8).toArray.toList (by rfl) _ F9.out (by omega) (by have := HQN.out; unfold maxLen; omega) (by have := HQN.out; omega) (by have h1 := (HE.out.trans HL9.out).size; have h2 := HBS.out; omega) ?_
          intro v10 w10 ho10 hg10 ha10
          have HM9 := MB.later HMB.out (HE.out.trans HL9.out)
          have hx9 : StepsAt (MF B9 ov iv) w9 sx8 (opQ fb).steps := HST9.out.mono (fun b _ hb => by
            have h1 : w7.heap.size ≤ b := hb
            have h2 := HE.out.size
            have h3 := HBS.out
            refine ⟨by omega, fun e => ?_, fun e => ?_⟩
            · obtain ⟨_, h4, _⟩ := own_at_block HMB.out.ops e.symm; have := lt_of_block h4; omega
            · obtain ⟨_, h4, _⟩ := own_at_block HMB.out.incs e.symm; have := lt_of_block h4; omega)
          have HMB11 := hide (MB.addOp HM9 hx9 (by simpa using ho10) hg10 ha10)
          have hngb : some B9 ≠ ov.ownBlock := fun e => by obtain ⟨_, _, h1⟩ := own_at_block HM9.ops e.symm; omega
          have hng7 : some wr.heap.size ≠ ov.ownBlock := fun e => by obtain ⟨_, h4, _⟩ := own_at_block HMB.out.ops e.symm; have := lt_of_block h4; omega
          have HX10 := hide ((hg10.block B9 (lt_of_block HM9.box) hngb).trans HM9.box)
          have HT10 := hide ((hg10.block wr.heap.size (Nat.lt_of_lt_of_le (lt_of_block HT7.out) HL9.out.size) hng7).trans ((Below.block HL9.out wr.heap.size (lt_of_block HT7.out)).trans HT7.out))
          have HL10 : Hid (Below B9 w14 w10) := Below.grown (HB.out.trans (Below.mono (HE.out.trans HL9.out) (Nat.le_of_lt HBS.out))) hg10 (by have h1 := (HE.out.trans HL9.out).size; have h2 := HBS.out; omega) (fun k hk => by obtain ⟨_, _, h1⟩ := own_at_block HM9.ops hk; omega)
          obtain ⟨A10, m10, c10, rfl⟩ := own_form ho10
          refine hK.out _ _ ?_
          clear ho10 hg10 ha10 hx9 hngb hng7
          clear hK K
          try (simp only [Act.put]; try simp only [List.setIfInBounds_toArray]; try simp only [List.set_cons_zero, List.set_cons_succ])
          refine wpAnyS_pure (i := 7) (d := some 112) (v := ?vao7) rfl rfl (by kernel_rfl) (by kernel_rfl) (by kernel_rfl) (by kernel_rfl) (fun _ _ _ h => h) (by rfl) ?yao7 ?_
          case yao7 => (intro w'; go_simp; try (with_reducible rfl))
          simp only [Act.put]; try simp only [List.setIfInBounds_toArray]; try simp only [List.set_cons_zero, List.set_cons_succ]
          refine wpAnyS_write (i := 8) rfl rfl (by kernel_rfl) (by rfl) fun K hK => ?_
          have hc2 : w10.cell? ⟨B9, 32, none⟩ = some ov := box_at HX10.out 32 _ rfl
          have hf2 := frozen_of_row w10 B9 32 _ _ HX10.out
          go_simp
          obtain ⟨w11, hw11⟩ : ∃ w11, w11 = w10.setCell ⟨B9, 32, none⟩ (.slice A10 m10 c10) := ⟨_, rfl⟩
          have HT11 : Hid (w11.heap[wr.heap.size]? = some (.cells #[.int .i64 16, .bool text, .int .u64 fv, .slice fa fn fc] 92 (0, 0))) := by rw [hw11]; exact ((grown_set w10 B9 32 _).block wr.heap.size (lt_of_block HT10.out) (fun e => by have h1 := Option.some.inj e; have h2 := HBS.out; omega)).trans HT10.out
          have HL11 : Hid (Below B9 w14 w11) := by rw [hw11]; exact HL10.out.setCell (p := ⟨B9, 32, none⟩) (Nat.le_refl _) _
          rw [← hw11] at HMB11
          rw [← hw11]
          refine hK.out _ _ ?_
          clear hw11 hc2 hf2
          clear hK K
          try simp only [Act.put]
          refine wpAnyS_done (by kernel_rfl) ?_ _
          have hc5 : w11.cell? ⟨wr.heap.size, 0, none⟩ = some (.int .i64 16) := box_at HT11.out 0 _ rfl
          go_wp2
          go_roundw
          case rel => exact ⟨q + 1, _, iv, qs ++ [(opQ fb, sx8)], by omega, by go_num, by rw [HN1.out]; exact HMB11.out, HL11.out⟩
          case measure => simp [intOf]; omega
        · have hm2 : (num == 16) = false := by simpa using hm
          by_cases hm7 : num = 17
          · subst hm7
            have hm3 : ((17 : Int) == 17) = true := rfl
            have HN1 : Hid (msgN xb (q + 1) = { msgN xb q with incs := (msgN xb q).incs ++ [zag fv] }) := by
              show _ = _
              unfold msgN
              rw [opq_miss HPK.out (by simp), inq_hit HPK.out rfl]
            obtain ⟨w7, hw7⟩ : ∃ w7, w7 = (wr.alloc (.cells #[.int .i64 17, .bool text, .int .u64 fv, .slice fa fn fc] 92 (0, 0))).drew := ⟨_, rfl⟩
            have HE : Hid (Later wr w7) := by rw [hw7]; exact (Later.alloc _ _).trans (Below.mono (Later.drew _) (by simp))
            have HT7 : Hid (w7.heap[wr.heap.size]? = some (.cells #[.int .i64 17, .bool text, .int .u64 fv, .slice fa fn fc] 92 (0, 0))) := by rw [hw7]; exact heap_alloc_new _ _
            have HW7 := hide hw7
            clear hw7
            go_wp2
            clear q0 q1 q2 q3
            refine wp_region_S (fun j => j == 6 || j == 8) (by kernel_rfl) ?_
            rw [← HW7.out]
            refine wpAnyS_take (i := 0) (d := some 116) (v := ?vai0) rfl rfl (by kernel_rfl) (by kernel_rfl) (by kernel_rfl) (by kernel_rfl) (by kernel_rfl) (fun _ _ _ h => h) (by rfl) ?yai0 ?_
            case yai0 => (intro w' hw'; go_simp; try (with_reducible rfl))
            simp only [Act.put]; try simp only [List.setIfInBounds_toArray]; try simp only [List.set_cons_zero, List.set_cons_succ]
            refine wpAnyS_take (i := 1) (d := some 117) (v := iv) rfl rfl (by kernel_rfl) (by kernel_rfl) (by kernel_rfl) (by kernel_rfl) (by kernel_rfl) (fun _ _ _ h => h) (by rfl) ?yai1 ?_
            case yai1 => (intro w' hw'; have hc : w'.cell? ⟨B9, 33, none⟩ = some iv := box_at ((Below.block (HE.out.trans hw') B9 HBS.out).trans HMB.out.box) 33 _ rfl; go_simp; try (with_reducible rfl))
            simp only [Act.put]; try simp only [List.setIfInBounds_toArray]; try simp only [List.set_cons_zero, List.set_cons_succ]
            refine wpAnyS_take (i := 2) (d := some 118) (v := ?vai2) rfl rfl (by kernel_rfl) (by kernel_rfl) (by kernel_rfl) (by kernel_rfl) (by kernel_rfl) (fun _ _ _ h => h) (by rfl) ?yai2 ?_
            case yai2 => (intro w' hw'; go_simp; try (with_reducible rfl))
            simp only [Act.put]; try simp only [List.setIfInBounds_toArray]; try simp only [List.set_cons_zero, List.set_cons_succ]
            refine wpAnyS_take (i := 3) (d := some 119) (v := .int .u64 (fv : Nat)) rfl rfl (by kernel_rfl) (by kernel_rfl) (by kernel_rfl) (by kernel_rfl) (by kernel_rfl) (fun _ _ _ h => h) (by rfl) ?yai3 ?_
            case yai3 => (intro w' hw'; have hq : w'.cell? ⟨wr.heap.size, 2, none⟩ = some (.int .u64 (fv : Nat)) := box_at ((Below.block hw' wr.heap.size (lt_of_block HT7.out)).trans HT7.out) 2 _ rfl; go_simp; try (with_reducible rfl))
            simp only [Act.put]; try simp only [List.setIfInBounds_toArray]; try simp only [List.set_cons_zero, List.set_cons_succ]
            refine wpAnyS_only (i := 4) rfl (by kernel_rfl) (by rfl) fun K hK => ?_
            go_simp
            refine (refzag_any fv _ HFV.out).mono ?_
            rintro e w8 ⟨rfl, rfl⟩
            refine hK.out _ _ (Below.refl _ _) ?_
            clear hK K
            try (simp only [Act.put]; try simp only [List.setIfInBounds_toArray]; try simp only [List.set_cons_zero, List.set_cons_succ])
            refine wpAnyS_only (i := 5) rfl (by kernel_rfl) (by rfl) fun K hK => ?_
            go_simp
            have F9 : Hid (FlatAt (fun _ => True) (w7.alloc (.cells #[.int .i64 (zag fv)] 3 (0, 0))) 1 (.slice (some ⟨w7.heap.size, 0, none⟩) 1 1) 1 [.int .i64 (zag fv)]) := flat_one w7 3 1 #[.int .i64 (zag fv)] (by rfl) (by intro u hu; simp at hu; rcases hu with rfl; rfl) _ trivial
            obtain ⟨w9, hw9⟩ : ∃ w9, w9 = w7.alloc (.cells #[.int .i64 (zag fv)] 3 (0, 0)) := ⟨_, rfl⟩
            have HL9 : Hid (Later w7 w9) := by rw [hw9]; exact Later.alloc _ _
            rw [← hw9] at F9
            rw [← hw9]
            refine hK.out _ _ HL9.out ?_
            clear hw9
            clear hK K
            try (simp only [Act.put]; try simp only [List.setIfInBounds_toArray]; try simp only [List.set_cons_zero, List.set_cons_succ])
            refine wpAnyS_write (i := 6) rfl rfl (by kernel_rfl) (by rfl) fun K hK => ?_
            refine wp_append_flat _ _ 33 (by rfl) (B9 + 1) 3 j0 _ 1 8 Tryz.underlying33 hj hy0 hy1 hy2 (by rfl) (by decide) iv (msgN xb q).incs.length ((msgN xb q).incs.map fun x => Value.int .i64 x) (by rfl) (MB.later HMB.out (HE.out.trans HL9.out)).incs w7.heap.size 1 1 [.int .i64 (zag fv)] (by rfl) _ F9.out (by omega) (by have := HIN.out; unfold maxLen; omega) (by have := HIN.out; omega) (by have h1 := (HE.out.trans HL9.out).size; have h2 := HBS.out; omega) ?_
            intro v10 w10 ho10 hg10 ha10
            have HM9 := MB.later HMB.out (HE.out.trans HL9.out)
            have HMB11 := hide (MB.addInc (x := zag fv) HM9 (by simpa using ho10) hg10 ha10)
            have hngb : some B9 ≠ iv.ownBlock := fun e => by obtain ⟨_, _, h1⟩ := own_at_block HM9.incs e.symm; omega
            have HX10 := hide ((hg10.block B9 (lt_of_block HM9.box) hngb).trans HM9.box)
            have HL10 : Hid (Below B9 w14 w10) := Below.grown (HB.out.trans (Below.mono (HE.out.trans HL9.out) (Nat.le_of_lt HBS.out))) hg10 (by have h1 := (HE.out.trans HL9.out).size; have h2 := HBS.out; omega) (fun k hk => by obtain ⟨_, _, h1⟩ := own_at_block HM9.incs hk; omega)
            obtain ⟨A10, m10, c10, rfl⟩ := own_form ho10
            refine hK.out _ _ ?_
            clear ho10 hg10 ha10 hngb
            clear hK K
            try (simp only [Act.put]; try simp only [List.setIfInBounds_toArray]; try simp only [List.set_cons_zero, List.set_cons_succ])
            refine wpAnyS_pure (i := 7) (d := some 123) (v := ?vai7) rfl rfl (by kernel_rfl) (by kernel_rfl) (by kernel_rfl) (by kernel_rfl) (fun _ _ _ h => h) (by rfl) ?yai7 ?_
            case yai7 => (intro w'; go_simp; try (with_reducible rfl))
            simp only [Act.put]; try simp only [List.setIfInBounds_toArray]; try simp only [List.set_cons_zero, List.set_cons_succ]
            refine wpAnyS_write (i := 8) rfl rfl (by kernel_rfl) (by rfl) fun K hK => ?_
            have hc2 : w10.cell? ⟨B9, 33, none⟩ = some iv := box_at HX10.out 33 _ rfl
            have hf2 := frozen_of_row w10 B9 33 _ _ HX10.out
            go_simp
            obtain ⟨w11, hw11⟩ : ∃ w11, w11 = w10.setCell ⟨B9, 33, none⟩ (.slice A10 m10 c10) := ⟨_, rfl⟩
            have HL11 : Hid (Below B9 w14 w11) := by rw [hw11]; exact HL10.out.setCell (p := ⟨B9, 33, none⟩) (Nat.le_refl _) _
            rw [← hw11] at HMB11
            rw [← hw11]
            refine hK.out _ _ ?_
            clear hw11 hc2 hf2
            clear hK K
            try simp only [Act.put]
            refine wpAnyS_done (by kernel_rfl) ?_ _
            go_wp2
            go_roundw
            case rel => exact ⟨q + 1, ov, _, qs, by omega, by go_num, by rw [HN1.out]; exact HMB11.out, HL11.out⟩
            case measure => simp [intOf]; omega
          · have hm3 : (num == 17) = false := by simpa using hm7
            have HN1 : Hid (msgN xb (q + 1) = msgN xb q) := by
              show _ = _
              unfold msgN
              rw [opq_miss HPK.out hm, inq_miss HPK.out hm7]
            clear hm hm7
            go_wp2
            go_roundw
            case rel => exact ⟨q + 1, ov, iv, qs, by omega, by go_num, by rw [HN1.out]; exact MB.later HMB.out (Later.alloc _ _), HB.out.alloc (Nat.le_of_lt HBS.out) _⟩
            case measure => simp [intOf]; omega
      · obtain rfl : q = n2 := by omega
        have hall : msgN xb q = msgQ xb := msgN_all xb (by have h1 := (HFX.out wr HB.out).1; rw [← HP.out, List.length_map]; omega)
        rw [hall] at HMB
        have HWF := hide (msgQ_wf HXS.out (show xb.length ≤ 5000 by have := HXL.out; omega))
        have HNO : Hid ((msgQ xb).ops.length ≤ 2000) := by rw [← hall]; have h1 := opq_le (pread xb).2 q; show (opq (pread xb).2 q).length ≤ 2000; omega
        have HNI : Hid ((msgQ xb).incs.length ≤ 2000) := by rw [← hall]; have h1 := inq_le (pread xb).2 q; show (inq (pread xb).2 q).length ≤ 2000; omega
        obtain ⟨w7, hw7⟩ : ∃ w7, w7 = wr.drew := ⟨_, rfl⟩
        have HE : Hid (Later wr w7) := by rw [hw7]; exact Later.drew _
        have HW7 := hide hw7
        have LMB : Hid (∀ w', Later w7 w' → MB w' B9 (msgQ xb) sx ov iv qs) := fun w' h => MB.later HMB.out (HE.out.trans h)
        have HBX : Hid (∀ w', Later w7 w' → Below B9 w14 w') := fun w' h => HB.out.trans (Below.mono (HE.out.trans h) (Nat.le_of_lt HBS.out))
        have HZ : Hid (∀ w', Later w7 w' → w'.heap[w.heap.size]? = some (.cells zMsg 35 (0, 0))) := fun w' h => (Below.block (HLX.out _ (HBX.out _ h)) w.heap.size HSZ.out).trans HZ0.out
        have HLW : Hid (∀ w', Later w7 w' → Later w w') := fun w' h => Later.trans HB0.out (HLX.out _ (HBX.out _ h))
        have HXI : Hid (∀ w', Later w7 w' → Holds w' w'.heap.size A1 n1 xb) := fun w' h => HX1.out.later (HJX.out _ (HBX.out _ h))
        have D0 : Hid (Later w7 w7) := Below.refl _ _
        clear hall hw7
        by_cases hN : N = n
        · subst hN
          have HNE : Hid (((N : Int) != (N : Int)) = false) := by show _ = _; simp
          have HNF : Hid ((N != N) = false) := by show _ = _; simp
          obtain ⟨g, hg⟩ : ∃ g, msgG (msgQ xb) = g := ⟨_, rfl⟩
          have HGD := hide hg
          cases g with
          | true =>
            have hg0 : msgG0 (msgQ xb) = true := by have h1 := hg; unfold msgG at h1; exact (Bool.and_eq_true _ _ ▸ h1 : _ ∧ _).1
            obtain ⟨_, hs16, hss16, _⟩ := msgG0_split hg0
            have HSM := hide hs16
            have HSMS := hide hss16
            clear hg hg0 hs16 hss16
            by_cases heq : msgB (msgQ xb) = xb
            · have HEQ : Hid (((str (msgB (msgQ xb))).toList == (str xb).toList) = true) := by rw [heq]; exact str_beq xb
              have HRS := hide (HQ3.out (by trivial) HLN.out.symm HGD.out heq)
              have HLL : Hid (∀ w', Later w7 w' → Lists (fun b => b ≠ w.heap.size) w' (msgQ xb) sx ov iv) := fun w' h => (LMB.out w' h).lists.mono (fun b _ hf => by have h1 : B9 < b := hf; have h2 := HWB.out; show b ≠ w.heap.size; omega)
              clear heq
              go_wp2
              refine wp_region_L (by kernel_rfl) ?_
              rw [← HW7.out]
              refine wpAnyL_take (i := 0) (d := some 125) (v := ?vazd0) rfl rfl (by kernel_rfl) (by kernel_rfl) (by kernel_rfl) (fun _ _ _ h => h) (by rfl) ?yazd0 ?_
              case yazd0 => (intro w' hw'; go_simp; try (with_reducible rfl))
              simp only [Act.put]; try simp only [List.setIfInBounds_toArray]; try simp only [List.set_cons_zero, List.set_cons_succ]
              refine wpAnyL_take (i := 1) (d := some 126) (v := ?vazd1) rfl rfl (by kernel_rfl) (by kernel_rfl) (by kernel_rfl) (fun _ _ _ h => h) (by rfl) ?yazd1 ?_
              case yazd1 => (intro w' hw'; go_simp; try (with_reducible rfl))
              simp only [Act.put]; try simp only [List.setIfInBounds_toArray]; try simp only [List.set_cons_zero, List.set_cons_succ]
              refine wpAnyL_take (i := 2) (d := some 127) (v := ?vazd2) rfl rfl (by kernel_rfl) (by kernel_rfl) (by kernel_rfl) (fun _ _ _ h => h) (by rfl) ?yazd2 ?_
              case yazd2 => (intro w' hw'; go_simp; try (with_reducible rfl))
              simp only [Act.put]; try simp only [List.setIfInBounds_toArray]; try simp only [List.set_cons_zero, List.set_cons_succ]
              refine wpAnyL_take (i := 3) (d := some 128) (v := .bool false) rfl rfl (by kernel_rfl) (by kernel_rfl) (by kernel_rfl) (fun _ _ _ h => h) (by rfl) ?yazd3 ?_
              case yazd3 => (intro w' hw'; have e0 := HNE.out; have e9 := HNF.out; go_simp; try (with_reducible rfl))
              simp only [Act.put]; try simp only [List.setIfInBounds_toArray]; try simp only [List.set_cons_zero, List.set_cons_succ]
              refine wpAnyL_take (i := 4) (d := some 129) (v := ?vazd4) rfl rfl (by kernel_rfl) (by kernel_rfl) (by kernel_rfl) (fun _ _ _ h => h) (by rfl) ?yazd4 ?_
              case yazd4 => (intro w' hw'; go_simp; try (with_reducible rfl))
              simp only [Act.put]; try simp only [List.setIfInBounds_toArray]; try simp only [List.set_cons_zero, List.set_cons_succ]
              refine wpAnyL_take (i := 5) (d := some 130) (v := .agg ((msgQ xb).cells sx ov iv).toArray) rfl rfl (by kernel_rfl) (by kernel_rfl) (by kernel_rfl) (fun _ _ _ h => h) (by rfl) ?yazd5 ?_
              case yazd5 => (intro w' hw'; exact exec_load_box 35 _ (by rfl) B9 0 (by rfl) 35 _ ((LMB.out _ (D0.out.trans hw')).box) 34 _ Tryz.underlying35 (by rfl) (by kernel_rfl) ((msgQ xb).cells sx ov iv) (by rfl) (by rfl))
              simp only [Act.put]; try simp only [List.setIfInBounds_toArray]; try simp only [List.set_cons_zero, List.set_cons_succ]
              refine wpAnyL_only (i := 6) rfl (by kernel_rfl) (by rfl) fun K hK => ?_
              go_simp
              have CG := rgoodm_any (LMB.out _ D0.out).lists HWF.out HNO.out HNI.out
              rw [HGD.out] at CG
              refine CG.mono ?_
              rintro e w8 ⟨rfl, hl8⟩
              have D8 : Hid (Later w7 w8) := hl8
              refine hK.out _ _ hl8 ?_
              clear hl8 CG
              clear hK K
              try (simp only [Act.put]; try simp only [List.setIfInBounds_toArray]; try simp only [List.set_cons_zero, List.set_cons_succ])
              refine wpAnyL_take (i := 7) (d := some 132) (v := ?vazd7) rfl rfl (by kernel_rfl) (by kernel_rfl) (by kernel_rfl) (fun _ _ _ h => h) (by rfl) ?yazd7 ?_
              case yazd7 => (intro w' hw'; go_simp; try (with_reducible rfl))
              simp only [Act.put]; try simp only [List.setIfInBounds_toArray]; try simp only [List.set_cons_zero, List.set_cons_succ]
              refine wpAnyL_take (i := 8) (d := some 133) (v := ?vazd8) rfl rfl (by kernel_rfl) (by kernel_rfl) (by kernel_rfl) (fun _ _ _ h => h) (by rfl) ?yazd8 ?_
              case yazd8 => (intro w' hw'; go_simp; try (with_reducible rfl))
              simp only [Act.put]; try simp only [List.setIfInBounds_toArray]; try simp only [List.set_cons_zero, List.set_cons_succ]
              refine wpAnyL_take (i := 9) (d := some 134) (v := ?vazd9) rfl rfl (by kernel_rfl) (by kernel_rfl) (by kernel_rfl) (fun _ _ _ h => h) (by rfl) ?yazd9 ?_
              case yazd9 => (intro w' hw'; go_simp; try (with_reducible rfl))
              simp only [Act.put]; try simp only [List.setIfInBounds_toArray]; try simp only [List.set_cons_zero, List.set_cons_succ]
              refine wpAnyL_take (i := 10) (d := some 135) (v := .agg ((msgQ xb).cells sx ov iv).toArray) rfl rfl (by kernel_rfl) (by kernel_rfl) (by kernel_rfl) (fun _ _ _ h => h) (by rfl) ?yazd10 ?_
              case yazd10 => (intro w' hw'; exact exec_load_box 35 _ (by rfl) B9 0 (by rfl) 35 _ ((LMB.out _ (D8.out.trans hw')).box) 34 _ Tryz.underlying35 (by rfl) (by kernel_rfl) ((msgQ xb).cells sx ov iv) (by rfl) (by rfl))
              simp only [Act.put]; try simp only [List.setIfInBounds_toArray]; try simp only [List.set_cons_zero, List.set_cons_succ]
              refine wpAnyL_take (i := 13) (d := some 138) (v := ?vazd13) rfl rfl (by kernel_rfl) (by kernel_rfl) (by kernel_rfl) (fun _ _ _ h => h) (by rfl) ?yazd13 ?_
              case yazd13 => (intro w' hw'; go_simp; try (with_reducible rfl))
              simp only [Act.put]; try simp only [List.setIfInBounds_toArray]; try simp only [List.set_cons_zero, List.set_cons_succ]
              refine wpAnyL_take (i := 14) (d := some 139) (v := .string (str xb)) rfl rfl (by kernel_rfl) (by kernel_rfl) (by kernel_rfl) (fun _ _ _ h => h) (by rfl) ?yazd14 ?_
              case yazd14 => (intro w' hw'; have d1 := run_str w' w'.heap.size A1 n1 c1 xb (HXI.out _ (D8.out.trans hw')); go_simp)
              simp only [Act.put]; try simp only [List.setIfInBounds_toArray]; try simp only [List.set_cons_zero, List.set_cons_succ]
              refine wpAnyL_only (i := 11) rfl (by kernel_rfl) (by rfl) fun K hK => ?_
              go_simp
              refine (rinner_any (LMB.out _ D8.out).lists HWF.out HSM.out HSMS.out HNO.out HNI.out).mono ?_
              rintro e w9 ⟨A9, n9, c9, rfl, _, hh9, _, hl9⟩
              have HH9 := hide hh9
              have D9 : Hid (Later w7 w9) := D8.out.trans hl9
              refine hK.out _ _ hl9 ?_
              clear hh9 hl9
              clear hK K
              try (simp only [Act.put]; try simp only [List.setIfInBounds_toArray]; try simp only [List.set_cons_zero, List.set_cons_succ])
              refine wpAnyL_take (i := 12) (d := some 137) (v := .string (str (msgB (msgQ xb)))) rfl rfl (by kernel_rfl) (by kernel_rfl) (by kernel_rfl) (fun _ _ _ h => h) (by rfl) ?yazd12 ?_
              case yazd12 => (intro w' hw'; have d1 := run_str w' w'.heap.size A9 n9 c9 (msgB (msgQ xb)) (HH9.out.later hw'); go_simp)
              simp only [Act.put]; try simp only [List.setIfInBounds_toArray]; try simp only [List.set_cons_zero, List.set_cons_succ]
              refine wpAnyL_take (i := 15) (d := some 140) (v := .bool false) rfl rfl (by kernel_rfl) (by kernel_rfl) (by kernel_rfl) (fun _ _ _ h => h) (by rfl) ?yazd15 ?_
              case yazd15 => (intro w' hw'; have e1 := HEQ.out; go_simp; try (with_reducible rfl))
              simp only [Act.put]; try simp only [List.setIfInBounds_toArray]; try simp only [List.set_cons_zero, List.set_cons_succ]
              refine wpAnyL_take (i := 16) (d := some 141) (v := ?vazd16) rfl rfl (by kernel_rfl) (by kernel_rfl) (by kernel_rfl) (fun _ _ _ h => h) (by rfl) ?yazd16 ?_
              case yazd16 => (intro w' hw'; go_simp; try (with_reducible rfl))
              simp only [Act.put]; try simp only [List.setIfInBounds_toArray]; try simp only [List.set_cons_zero, List.set_cons_succ]
              refine wpAnyL_done (by kernel_rfl) ?_ _
              have HZ6 := hide (HZ.out _ D9.out)
              have HLY := hide (HLW.out _ D9.out)
              have HM9 := hide (LMB.out _ D9.out)
              go_wp2_with (first
                | (refine wpList_load_box (by rfl) 35 _ (by rfl) B9 0 (by rfl) 35 _ HM9.out.box 34 _ Tryz.underlying35 (by rfl) (by kernel_rfl) ((msgQ xb).cells sx ov iv) (by rfl) (by rfl) ?_)
                | (refine wpList_store_box (by rfl) 35 _ _ (by rfl) w.heap.size 0 ((msgQ xb).cells sx ov iv).toArray (by rfl) (by rfl) 35 zMsg HZ6.out (by kernel_rfl) (by exact Nat.le_of_ble_eq_true rfl) (by exact MsgD.one _ HM9.out.lists.cell.1 HM9.out.lists.cell.2.1 HM9.out.lists.cell.2.2) ?_; intro w20 hb20 hg20; rw [put_m0] at hb20))
              refine bodyPost_ret (results_box2 Tryz.results18 _ _ w.heap.size 35 _ _ (by rfl) hb20 Tryz.underlying35 (by rfl) (by kernel_rfl) _ (by rfl)) (by rfl) ?_
              exact ⟨sx, ov, iv, by rw [HRS.out]; rfl, by rw [HRS.out]; exact ((HLL.out _ D9.out).kept (Kept.of_grown hg20 (fun k e hf => by have := Option.some.inj e; exact hf (by omega)))).mono (fun _ _ _ => trivial), Below.grown HLY.out hg20 HLY.out.size (fun k hk => by have := Option.some.inj hk; omega)⟩
            · have HEQ : Hid (((str (msgB (msgQ xb))).toList == (str xb).toList) = false) := str_bne (msgB_small (msgG0_sm (show msgG0 (msgQ xb) = true from by have h1 := HGD.out; unfold msgG at h1; exact (Bool.and_eq_true _ _ ▸ h1 : _ ∧ _).1) (Nat.le_trans HNO.out (by omega))) (Nat.le_refl _)) HXS.out heq
              have HRS := hide (HQ2.out (by trivial) (fun h => heq h.2.2))
              clear heq
              go_wp2
              refine wp_region_L (by kernel_rfl) ?_
              rw [← HW7.out]
              refine wpAnyL_take (i := 0) (d := some 125) (v := ?vazc0) rfl rfl (by kernel_rfl) (by kernel_rfl) (by kernel_rfl) (fun _ _ _ h => h) (by rfl) ?yazc0 ?_
              case yazc0 => (intro w' hw'; go_simp; try (with_reducible rfl))
              simp only [Act.put]; try simp only [List.setIfInBounds_toArray]; try simp only [List.set_cons_zero, List.set_cons_succ]
              refine wpAnyL_take (i := 1) (d := some 126) (v := ?vazc1) rfl rfl (by kernel_rfl) (by kernel_rfl) (by kernel_rfl) (fun _ _ _ h => h) (by rfl) ?yazc1 ?_
              case yazc1 => (intro w' hw'; go_simp; try (with_reducible rfl))
              simp only [Act.put]; try simp only [List.setIfInBounds_toArray]; try simp only [List.set_cons_zero, List.set_cons_succ]
              refine wpAnyL_take (i := 2) (d := some 127) (v := ?vazc2) rfl rfl (by kernel_rfl) (by kernel_rfl) (by kernel_rfl) (fun _ _ _ h => h) (by rfl) ?yazc2 ?_
              case yazc2 => (intro w' hw'; go_simp; try (with_reducible rfl))
              simp only [Act.put]; try simp only [List.setIfInBounds_toArray]; try simp only [List.set_cons_zero, List.set_cons_succ]
              refine wpAnyL_take (i := 3) (d := some 128) (v := .bool false) rfl rfl (by kernel_rfl) (by kernel_rfl) (by kernel_rfl) (fun _ _ _ h => h) (by rfl) ?yazc3 ?_
              case yazc3 => (intro w' hw'; have e0 := HNE.out; have e9 := HNF.out; go_simp; try (with_reducible rfl))
              simp only [Act.put]; try simp only [List.setIfInBounds_toArray]; try simp only [List.set_cons_zero, List.set_cons_succ]
              refine wpAnyL_take (i := 4) (d := some 129) (v := ?vazc4) rfl rfl (by kernel_rfl) (by kernel_rfl) (by kernel_rfl) (fun _ _ _ h => h) (by rfl) ?yazc4 ?_
              case yazc4 => (intro w' hw'; go_simp; try (with_reducible rfl))
              simp only [Act.put]; try simp only [List.setIfInBounds_toArray]; try simp only [List.set_cons_zero, List.set_cons_succ]
              refine wpAnyL_take (i := 5) (d := some 130) (v := .agg ((msgQ xb).cells sx ov iv).toArray) rfl rfl (by kernel_rfl) (by kernel_rfl) (by kernel_rfl) (fun _ _ _ h => h) (by rfl) ?yazc5 ?_
              case yazc5 => (intro w' hw'; exact exec_load_box 35 _ (by rfl) B9 0 (by rfl) 35 _ ((LMB.out _ (D0.out.trans hw')).box) 34 _ Tryz.underlying35 (by rfl) (by kernel_rfl) ((msgQ xb).cells sx ov iv) (by rfl) (by rfl))
              simp only [Act.put]; try simp only [List.setIfInBounds_toArray]; try simp only [List.set_cons_zero, List.set_cons_succ]
              refine wpAnyL_only (i := 6) rfl (by kernel_rfl) (by rfl) fun K hK => ?_
              go_simp
              have CG := rgoodm_any (LMB.out _ D0.out).lists HWF.out HNO.out HNI.out
              rw [HGD.out] at CG
              refine CG.mono ?_
              rintro e w8 ⟨rfl, hl8⟩
              have D8 : Hid (Later w7 w8) := hl8
              refine hK.out _ _ hl8 ?_
              clear hl8 CG
              clear hK K
              try (simp only [Act.put]; try simp only [List.setIfInBounds_toArray]; try simp only [List.set_cons_zero, List.set_cons_succ])
              refine wpAnyL_take (i := 7) (d := some 132) (v := ?vazc7) rfl rfl (by kernel_rfl) (by kernel_rfl) (by kernel_rfl) (fun _ _ _ h => h) (by rfl) ?yazc7 ?_
              case yazc7 => (intro w' hw'; go_simp; try (with_reducible rfl))
              simp only [Act.put]; try simp only [List.setIfInBounds_toArray]; try simp only [List.set_cons_zero, List.set_cons_succ]
              refine wpAnyL_take (i := 8) (d := some 133) (v := ?vazc8) rfl rfl (by kernel_rfl) (by kernel_rfl) (by kernel_rfl) (fun _ _ _ h => h) (by rfl) ?yazc8 ?_
              case yazc8 => (intro w' hw'; go_simp; try (with_reducible rfl))
              simp only [Act.put]; try simp only [List.setIfInBounds_toArray]; try simp only [List.set_cons_zero, List.set_cons_succ]
              refine wpAnyL_take (i := 9) (d := some 134) (v := ?vazc9) rfl rfl (by kernel_rfl) (by kernel_rfl) (by kernel_rfl) (fun _ _ _ h => h) (by rfl) ?yazc9 ?_
              case yazc9 => (intro w' hw'; go_simp; try (with_reducible rfl))
              simp only [Act.put]; try simp only [List.setIfInBounds_toArray]; try simp only [List.set_cons_zero, List.set_cons_succ]
              refine wpAnyL_take (i := 10) (d := some 135) (v := .agg ((msgQ xb).cells sx ov iv).toArray) rfl rfl (by kernel_rfl) (by kernel_rfl) (by kernel_rfl) (fun _ _ _ h => h) (by rfl) ?yazc10 ?_
              case yazc10 => (intro w' hw'; exact exec_load_box 35 _ (by rfl) B9 0 (by rfl) 35 _ ((LMB.out _ (D8.out.trans hw')).box) 34 _ Tryz.underlying35 (by rfl) (by kernel_rfl) ((msgQ xb).cells sx ov iv) (by rfl) (by rfl))
              simp only [Act.put]; try simp only [List.setIfInBounds_toArray]; try simp only [List.set_cons_zero, List.set_cons_succ]
              refine wpAnyL_take (i := 13) (d := some 138) (v := ?vazc13) rfl rfl (by kernel_rfl) (by kernel_rfl) (by kernel_rfl) (fun _ _ _ h => h) (by rfl) ?yazc13 ?_
              case yazc13 => (intro w' hw'; go_simp; try (with_reducible rfl))
              simp only [Act.put]; try simp only [List.setIfInBounds_toArray]; try simp only [List.set_cons_zero, List.set_cons_succ]
              refine wpAnyL_take (i := 14) (d := some 139) (v := .string (str xb)) rfl rfl (by kernel_rfl) (by kernel_rfl) (by kernel_rfl) (fun _ _ _ h => h) (by rfl) ?yazc14 ?_
              case yazc14 => (intro w' hw'; have d1 := run_str w' w'.heap.size A1 n1 c1 xb (HXI.out _ (D8.out.trans hw')); go_simp)
              simp only [Act.put]; try simp only [List.setIfInBounds_toArray]; try simp only [List.set_cons_zero, List.set_cons_succ]
              refine wpAnyL_only (i := 11) rfl (by kernel_rfl) (by rfl) fun K hK => ?_
              go_simp
              refine (rinner_any (LMB.out _ D8.out).lists HWF.out HSM.out HSMS.out HNO.out HNI.out).mono ?_
              rintro e w9 ⟨A9, n9, c9, rfl, _, hh9, _, hl9⟩
              have HH9 := hide hh9
              have D9 : Hid (Later w7 w9) := D8.out.trans hl9
              refine hK.out _ _ hl9 ?_
              clear hh9 hl9
              clear hK K
              try (simp only [Act.put]; try simp only [List.setIfInBounds_toArray]; try simp only [List.set_cons_zero, List.set_cons_succ])
              refine wpAnyL_take (i := 12) (d := some 137) (v := .string (str (msgB (msgQ xb)))) rfl rfl (by kernel_rfl) (by kernel_rfl) (by kernel_rfl) (fun _ _ _ h => h) (by rfl) ?yazc12 ?_
              case yazc12 => (intro w' hw'; have d1 := run_str w' w'.heap.size A9 n9 c9 (msgB (msgQ xb)) (HH9.out.later hw'); go_simp)
              simp only [Act.put]; try simp only [List.setIfInBounds_toArray]; try simp only [List.set_cons_zero, List.set_cons_succ]
              refine wpAnyL_take (i := 15) (d := some 140) (v := .bool true) rfl rfl (by kernel_rfl) (by kernel_rfl) (by kernel_rfl) (fun _ _ _ h => h) (by rfl) ?yazc15 ?_
              case yazc15 => (intro w' hw'; have e1 := HEQ.out; go_simp; try (with_reducible rfl))
              simp only [Act.put]; try simp only [List.setIfInBounds_toArray]; try simp only [List.set_cons_zero, List.set_cons_succ]
              refine wpAnyL_take (i := 16) (d := some 141) (v := ?vazc16) rfl rfl (by kernel_rfl) (by kernel_rfl) (by kernel_rfl) (fun _ _ _ h => h) (by rfl) ?yazc16 ?_
              case yazc16 => (intro w' hw'; go_simp; try (with_reducible rfl))
              simp only [Act.put]; try simp only [List.setIfInBounds_toArray]; try simp only [List.set_cons_zero, List.set_cons_succ]
              refine wpAnyL_done (by kernel_rfl) ?_ _
              have HZ6 := hide (HZ.out _ D9.out)
              have HLY := hide (HLW.out _ D9.out)
              go_wp2_with (first
                | (refine wpList_build_parts (by rfl) 35 _ (by rfl) _ (by rfl) _ built_msg0 ?_)
                | (refine wpList_store_box (by rfl) 35 _ _ (by rfl) w.heap.size 0 zMsg (by rfl) (by rfl) 35 zMsg HZ6.out (by kernel_rfl) (by exact Nat.le_of_ble_eq_true rfl) (by exact MsgD.one .zero rfl rfl rfl) ?_; intro w20 hb20 hg20; rw [show putAt zMsg 0 zMsg.toList = zMsg from zMsg_put _ rfl] at hb20))
              refine bodyPost_ret (results_box2 Tryz.results18 _ _ w.heap.size 35 _ _ (by rfl) hb20 Tryz.underlying35 (by rfl) (by kernel_rfl) _ (by rfl)) (by rfl) ?_
              exact ⟨(.slice none 0 0), (.slice none 0 0), (.slice none 0 0), by rw [HRS.out]; rfl, by rw [HRS.out]; exact zero_lists _ _, Below.grown HLY.out hg20 HLY.out.size (fun k hk => by have := Option.some.inj hk; omega)⟩
          | false =>
            have HRS := hide (HQ2.out (by trivial) (fun h => by have h1 := h.2.1; rw [HGD.out] at h1; cases h1))
            clear hg
            go_wp2
            refine wp_region_L (by kernel_rfl) ?_
            rw [← HW7.out]
            refine wpAnyL_take (i := 0) (d := some 125) (v := ?vazb0) rfl rfl (by kernel_rfl) (by kernel_rfl) (by kernel_rfl) (fun _ _ _ h => h) (by rfl) ?yazb0 ?_
            case yazb0 => (intro w' hw'; go_simp; try (with_reducible rfl))
            simp only [Act.put]; try simp only [List.setIfInBounds_toArray]; try simp only [List.set_cons_zero, List.set_cons_succ]
            refine wpAnyL_take (i := 1) (d := some 126) (v := ?vazb1) rfl rfl (by kernel_rfl) (by kernel_rfl) (by kernel_rfl) (fun _ _ _ h => h) (by rfl) ?yazb1 ?_
            case yazb1 => (intro w' hw'; go_simp; try (with_reducible rfl))
            simp only [Act.put]; try simp only [List.setIfInBounds_toArray]; try simp only [List.set_cons_zero, List.set_cons_succ]
            refine wpAnyL_take (i := 2) (d := some 127) (v := ?vazb2) rfl rfl (by kernel_rfl) (by kernel_rfl) (by kernel_rfl) (fun _ _ _ h => h) (by rfl) ?yazb2 ?_
            case yazb2 => (intro w' hw'; go_simp; try (with_reducible rfl))
            simp only [Act.put]; try simp only [List.setIfInBounds_toArray]; try simp only [List.set_cons_zero, List.set_cons_succ]
            refine wpAnyL_take (i := 3) (d := some 128) (v := .bool false) rfl rfl (by kernel_rfl) (by kernel_rfl) (by kernel_rfl) (fun _ _ _ h => h) (by rfl) ?yazb3 ?_
            case yazb3 => (intro w' hw'; have e0 := HNE.out; have e9 := HNF.out; go_simp; try (with_reducible rfl))
            simp only [Act.put]; try simp only [List.setIfInBounds_toArray]; try simp only [List.set_cons_zero, List.set_cons_succ]
            refine wpAnyL_take (i := 4) (d := some 129) (v := ?vazb4) rfl rfl (by kernel_rfl) (by kernel_rfl) (by kernel_rfl) (fun _ _ _ h => h) (by rfl) ?yazb4 ?_
            case yazb4 => (intro w' hw'; go_simp; try (with_reducible rfl))
            simp only [Act.put]; try simp only [List.setIfInBounds_toArray]; try simp only [List.set_cons_zero, List.set_cons_succ]
            refine wpAnyL_take (i := 5) (d := some 130) (v := .agg ((msgQ xb).cells sx ov iv).toArray) rfl rfl (by kernel_rfl) (by kernel_rfl) (by kernel_rfl) (fun _ _ _ h => h) (by rfl) ?yazb5 ?_
            case yazb5 => (intro w' hw'; exact exec_load_box 35 _ (by rfl) B9 0 (by rfl) 35 _ ((LMB.out _ (D0.out.trans hw')).box) 34 _ Tryz.underlying35 (by rfl) (by kernel_rfl) ((msgQ xb).cells sx ov iv) (by rfl) (by rfl))
            simp only [Act.put]; try simp only [List.setIfInBounds_toArray]; try simp only [List.set_cons_zero, List.set_cons_succ]
            refine wpAnyL_only (i := 6) rfl (by kernel_rfl) (by rfl) fun K hK => ?_
            go_simp
            have CG := rgoodm_any (LMB.out _ D0.out).lists HWF.out HNO.out HNI.out
            rw [HGD.out] at CG
            refine CG.mono ?_
            rintro e w8 ⟨rfl, hl8⟩
            have D8 : Hid (Later w7 w8) := hl8
            refine hK.out _ _ hl8 ?_
            clear hl8 CG
            clear hK K
            try (simp only [Act.put]; try simp only [List.setIfInBounds_toArray]; try simp only [List.set_cons_zero, List.set_cons_succ])
            refine wpAnyL_take (i := 7) (d := some 132) (v := ?vazb7) rfl rfl (by kernel_rfl) (by kernel_rfl) (by kernel_rfl) (fun _ _ _ h => h) (by rfl) ?yazb7 ?_
            case yazb7 => (intro w' hw'; go_simp; try (with_reducible rfl))
            simp only [Act.put]; try simp only [List.setIfInBounds_toArray]; try simp only [List.set_cons_zero, List.set_cons_succ]
            refine wpAnyL_take (i := 8) (d := some 133) (v := ?vazb8) rfl rfl (by kernel_rfl) (by kernel_rfl) (by kernel_rfl) (fun _ _ _ h => h) (by rfl) ?yazb8 ?_
            case yazb8 => (intro w' hw'; go_simp; try (with_reducible rfl))
            simp only [Act.put]; try simp only [List.setIfInBounds_toArray]; try simp only [List.set_cons_zero, List.set_cons_succ]
            refine wpAnyL_take (i := 9) (d := some 134) (v := ?vazb9) rfl rfl (by kernel_rfl) (by kernel_rfl) (by kernel_rfl) (fun _ _ _ h => h) (by rfl) ?yazb9 ?_
            case yazb9 => (intro w' hw'; go_simp; try (with_reducible rfl))
            simp only [Act.put]; try simp only [List.setIfInBounds_toArray]; try simp only [List.set_cons_zero, List.set_cons_succ]
            refine wpAnyL_pass (i := 10) (d := some 135) rfl rfl (by kernel_rfl) (by kernel_rfl) (by kernel_rfl) (fun _ _ _ h => h) (by rfl) ?_
            try (simp only [Act.put]; try simp only [List.setIfInBounds_toArray]; try simp only [List.set_cons_zero, List.set_cons_succ])
            refine wpAnyL_pass (i := 13) (d := some 138) rfl rfl (by kernel_rfl) (by kernel_rfl) (by kernel_rfl) (fun _ _ _ h => h) (by rfl) ?_
            try (simp only [Act.put]; try simp only [List.setIfInBounds_toArray]; try simp only [List.set_cons_zero, List.set_cons_succ])
            refine wpAnyL_pass (i := 14) (d := some 139) rfl rfl (by kernel_rfl) (by kernel_rfl) (by kernel_rfl) (fun _ _ _ h => h) (by rfl) ?_
            try (simp only [Act.put]; try simp only [List.setIfInBounds_toArray]; try simp only [List.set_cons_zero, List.set_cons_succ])
            refine wpAnyL_pass (i := 11) (d := some 136) rfl rfl (by kernel_rfl) (by kernel_rfl) (by kernel_rfl) (fun _ _ _ h => h) (by rfl) ?_
            try (simp only [Act.put]; try simp only [List.setIfInBounds_toArray]; try simp only [List.set_cons_zero, List.set_cons_succ])
            refine wpAnyL_pass (i := 12) (d := some 137) rfl rfl (by kernel_rfl) (by kernel_rfl) (by kernel_rfl) (fun _ _ _ h => h) (by rfl) ?_
            try (simp only [Act.put]; try simp only [List.setIfInBounds_toArray]; try simp only [List.set_cons_zero, List.set_cons_succ])
            refine wpAnyL_pass (i := 15) (d := some 140) rfl rfl (by kernel_rfl) (by kernel_rfl) (by kernel_rfl) (fun _ _ _ h => h) (by rfl) ?_
            try (simp only [Act.put]; try simp only [List.setIfInBounds_toArray]; try simp only [List.set_cons_zero, List.set_cons_succ])
            refine wpAnyL_take (i := 16) (d := some 141) (v := ?vazb16) rfl rfl (by kernel_rfl) (by kernel_rfl) (by kernel_rfl) (fun _ _ _ h => h) (by rfl) ?yazb16 ?_
            case yazb16 => (intro w' hw'; go_simp; try (with_reducible rfl))
            simp only [Act.put]; try simp only [List.setIfInBounds_toArray]; try simp only [List.set_cons_zero, List.set_cons_succ]
            refine wpAnyL_done (by kernel_rfl) ?_ _
            have HZ6 := hide (HZ.out _ D8.out)
            have HLY := hide (HLW.out _ D8.out)
            go_wp2_with (first
              | (refine wpList_build_parts (by rfl) 35 _ (by rfl) _ (by rfl) _ built_msg0 ?_)
              | (refine wpList_store_box (by rfl) 35 _ _ (by rfl) w.heap.size 0 zMsg (by rfl) (by rfl) 35 zMsg HZ6.out (by kernel_rfl) (by exact Nat.le_of_ble_eq_true rfl) (by exact MsgD.one .zero rfl rfl rfl) ?_; intro w20 hb20 hg20; rw [show putAt zMsg 0 zMsg.toList = zMsg from zMsg_put _ rfl] at hb20))
            refine bodyPost_ret (results_box2 Tryz.results18 _ _ w.heap.size 35 _ _ (by rfl) hb20 Tryz.underlying35 (by rfl) (by kernel_rfl) _ (by rfl)) (by rfl) ?_
            exact ⟨(.slice none 0 0), (.slice none 0 0), (.slice none 0 0), by rw [HRS.out]; rfl, by rw [HRS.out]; exact zero_lists _ _, Below.grown HLY.out hg20 HLY.out.size (fun k hk => by have := Option.some.inj hk; omega)⟩
        · have HRS := hide (HQ2.out (by trivial) (fun h => hN (by rw [h.1]; exact HLN.out)))
          have HNE : Hid (((N : Int) != (n : Int)) = true) := by show _ = _; simp; omega
          have HNF : Hid ((N != n) = true) := by show _ = _; simpa using hN
          go_wp2
          refine wp_region_L (by kernel_rfl) ?_
          rw [← HW7.out]
          refine wpAnyL_take (i := 0) (d := some 125) (v := ?vaza0) rfl rfl (by kernel_rfl) (by kernel_rfl) (by kernel_rfl) (fun _ _ _ h => h) (by rfl) ?yaza0 ?_
          case yaza0 => (intro w' hw'; go_simp; try (with_reducible rfl))
          simp only [Act.put]; try simp only [List.setIfInBounds_toArray]; try simp only [List.set_cons_zero, List.set_cons_succ]
          refine wpAnyL_take (i := 1) (d := some 126) (v := ?vaza1) rfl rfl (by kernel_rfl) (by kernel_rfl) (by kernel_rfl) (fun _ _ _ h => h) (by rfl) ?yaza1 ?_
          case yaza1 => (intro w' hw'; go_simp; try (with_reducible rfl))
          simp only [Act.put]; try simp only [List.setIfInBounds_toArray]; try simp only [List.set_cons_zero, List.set_cons_succ]
          refine wpAnyL_take (i := 2) (d := some 127) (v := ?vaza2) rfl rfl (by kernel_rfl) (by kernel_rfl) (by kernel_rfl) (fun _ _ _ h => h) (by rfl) ?yaza2 ?_
          case yaza2 => (intro w' hw'; go_simp; try (with_reducible rfl))
          simp only [Act.put]; try simp only [List.setIfInBounds_toArray]; try simp only [List.set_cons_zero, List.set_cons_succ]
          refine wpAnyL_take (i := 3) (d := some 128) (v := .bool true) rfl rfl (by kernel_rfl) (by kernel_rfl) (by kernel_rfl) (fun _ _ _ h => h) (by rfl) ?yaza3 ?_
          case yaza3 => (intro w' hw'; have e0 := HNE.out; have e9 := HNF.out; go_simp; try (with_reducible rfl))
          simp only [Act.put]; try simp only [List.setIfInBounds_toArray]; try simp only [List.set_cons_zero, List.set_cons_succ]
          refine wpAnyL_take (i := 4) (d := some 129) (v := ?vaza4) rfl rfl (by kernel_rfl) (by kernel_rfl) (by kernel_rfl) (fun _ _ _ h => h) (by rfl) ?yaza4 ?_
          case yaza4 => (intro w' hw'; go_simp; try (with_reducible rfl))
          simp only [Act.put]; try simp only [List.setIfInBounds_toArray]; try simp only [List.set_cons_zero, List.set_cons_succ]
          refine wpAnyL_pass (i := 5) (d := some 130) rfl rfl (by kernel_rfl) (by kernel_rfl) (by kernel_rfl) (fun _ _ _ h => h) (by rfl) ?_
          try (simp only [Act.put]; try simp only [List.setIfInBounds_toArray]; try simp only [List.set_cons_zero, List.set_cons_succ])
          refine wpAnyL_pass (i := 6) (d := some 131) rfl rfl (by kernel_rfl) (by kernel_rfl) (by kernel_rfl) (fun _ _ _ h => h) (by rfl) ?_
          try (simp only [Act.put]; try simp only [List.setIfInBounds_toArray]; try simp only [List.set_cons_zero, List.set_cons_succ])
          refine wpAnyL_pass (i := 7) (d := some 132) rfl rfl (by kernel_rfl) (by kernel_rfl) (by kernel_rfl) (fun _ _ _ h => h) (by rfl) ?_
          try (simp only [Act.put]; try simp only [List.setIfInBounds_toArray]; try simp only [List.set_cons_zero, List.set_cons_succ])
          refine wpAnyL_take (i := 8) (d := some 133) (v := ?vaza8) rfl rfl (by kernel_rfl) (by kernel_rfl) (by kernel_rfl) (fun _ _ _ h => h) (by rfl) ?yaza8 ?_
          case yaza8 => (intro w' hw'; go_simp; try (with_reducible rfl))
          simp only [Act.put]; try simp only [List.setIfInBounds_toArray]; try simp only [List.set_cons_zero, List.set_cons_succ]
          refine wpAnyL_take (i := 9) (d := some 134) (v := ?vaza9) rfl rfl (by kernel_rfl) (by kernel_rfl) (by kernel_rfl) (fun _ _ _ h => h) (by rfl) ?yaza9 ?_
          case yaza9 => (intro w' hw'; go_simp; try (with_reducible rfl))
          simp only [Act.put]; try simp only [List.setIfInBounds_toArray]; try simp only [List.set_cons_zero, List.set_cons_succ]
          refine wpAnyL_pass (i := 10) (d := some 135) rfl rfl (by kernel_rfl) (by kernel_rfl) (by kernel_rfl) (fun _ _ _ h => h) (by rfl) ?_
          try (simp only [Act.put]; try simp only [List.setIfInBounds_toArray]; try simp only [List.set_cons_zero, List.set_cons_succ])
          refine wpAnyL_pass (i := 13) (d := some 138) rfl rfl (by kernel_rfl) (by kernel_rfl) (by kernel_rfl) (fun _ _ _ h => h) (by rfl) ?_
          try (simp only [Act.put]; try simp only [List.setIfInBounds_toArray]; try simp only [List.set_cons_zero, List.set_cons_succ])
          refine wpAnyL_pass (i := 14) (d := some 139) rfl rfl (by kernel_rfl) (by kernel_rfl) (by kernel_rfl) (fun _ _ _ h => h) (by rfl) ?_
          try (simp only [Act.put]; try simp only [List.setIfInBounds_toArray]; try simp only [List.set_cons_zero, List.set_cons_succ])
          refine wpAnyL_pass (i := 11) (d := some 136) rfl rfl (by kernel_rfl) (by kernel_rfl) (by kernel_rfl) (fun _ _ _ h => h) (by rfl) ?_
          try (simp only [Act.put]; try simp only [List.setIfInBounds_toArray]; try simp only [List.set_cons_zero, List.set_cons_succ])
          refine wpAnyL_pass (i := 12) (d := some 137) rfl rfl (by kernel_rfl) (by kernel_rfl) (by kernel_rfl) (fun _ _ _ h => h) (by rfl) ?_
          try (simp only [Act.put]; try simp only [List.setIfInBounds_toArray]; try simp only [List.set_cons_zero, List.set_cons_succ])
          refine wpAnyL_pass (i := 15) (d := some 140) rfl rfl (by kernel_rfl) (by kernel_rfl) (by kernel_rfl) (fun _ _ _ h => h) (by rfl) ?_
          try (simp only [Act.put]; try simp only [List.setIfInBounds_toArray]; try simp only [List.set_cons_zero, List.set_cons_succ])
          refine wpAnyL_take (i := 16) (d := some 141) (v := ?vaza16) rfl rfl (by kernel_rfl) (by kernel_rfl) (by kernel_rfl) (fun _ _ _ h => h) (by rfl) ?yaza16 ?_
          case yaza16 => (intro w' hw'; go_simp; try (with_reducible rfl))
          simp only [Act.put]; try simp only [List.setIfInBounds_toArray]; try simp only [List.set_cons_zero, List.set_cons_succ]
          refine wpAnyL_done (by kernel_rfl) ?_ _
          have HZ6 := hide (HZ.out _ D0.out)
          have HLY := hide (HLW.out _ D0.out)
          go_wp2_with (first
            | (refine wpList_build_parts (by rfl) 35 _ (by rfl) _ (by rfl) _ built_msg0 ?_)
            | (refine wpList_store_box (by rfl) 35 _ _ (by rfl) w.heap.size 0 zMsg (by rfl) (by rfl) 35 zMsg HZ6.out (by kernel_rfl) (by exact Nat.le_of_ble_eq_true rfl) (by exact MsgD.one .zero rfl rfl rfl) ?_; intro w20 hb20 hg20; rw [show putAt zMsg 0 zMsg.toList = zMsg from zMsg_put _ rfl] at hb20))
          refine bodyPost_ret (results_box2 Tryz.results18 _ _ w.heap.size 35 _ _ (by rfl) hb20 Tryz.underlying35 (by rfl) (by kernel_rfl) _ (by rfl)) (by rfl) ?_
          exact ⟨(.slice none 0 0), (.slice none 0 0), (.slice none 0 0), by rw [HRS.out]; rfl, by rw [HRS.out]; exact zero_lists _ _, Below.grown HLY.out hg20 HLY.out.size (fun k hk => by have := Option.some.inj hk; omega)⟩
  · have HRS := hide (HQ1.out he)
    have hne : ((er : Int) != 0) = true := by simp; omega
    have HZ6 : Hid (w1.heap[w.heap.size]? = some (.cells zMsg 35 (0, 0))) := (Below.block HL1.out w.heap.size HSZ.out).trans HZ0.out
    have HLY : Hid (Later w w1) := Later.trans HB0.out HL1.out
    clear he
    go_wp2_with (first
      | (refine wpList_build_parts (by rfl) 35 _ (by rfl) _ (by rfl) _ built_msg0 ?_)
      | (refine wpList_store_box (by rfl) 35 _ _ (by rfl) w.heap.size 0 zMsg (by rfl) (by rfl) 35 zMsg HZ6.out (by kernel_rfl) (by exact Nat.le_of_ble_eq_true rfl) (by exact MsgD.one .zero rfl rfl rfl) ?_; intro w20 hb20 hg20; rw [show putAt zMsg 0 zMsg.toList = zMsg from zMsg_put _ rfl] at hb20))
    refine bodyPost_ret (results_box2 Tryz.results18 _ _ w.heap.size 35 _ _ (by rfl) hb20 Tryz.underlying35 (by rfl) (by kernel_rfl) _ (by rfl)) (by rfl) ?_
    exact ⟨(.slice none 0 0), (.slice none 0 0), (.slice none 0 0), by rw [HRS.out]; rfl, by rw [HRS.out]; exact zero_lists _ _, Below.grown HLY.out hg20 HLY.out.size (fun k hk => by have := Option.some.inj hk; omega)⟩
  end Go.Proofs.YtehiaeihkdfclaaGreatDoor
/- What == and != give at steps. -/
namespace Go.Proofs.YtehiaeihkdfclaaGreatDoor
open Go.RowKit

theorem toList_inj {a b : ByteArray} : a.toList = b.toList ↔ a = b := by
  rw [ByteArray.toList_eq, ByteArray.toList_eq]
  obtain ⟨⟨x⟩⟩ := a
  obtain ⟨⟨y⟩⟩ := b
  simp
theorem str_eq (a b : ByteArray) : (a.toList == b.toList) = decide (a = b) := by
  rw [Bool.eq_iff_iff, beq_iff_eq, decide_eq_true_eq, toList_inj]
theorem step_iff (s t : StepD) : s = t ↔ s.name.toList = t.name.toList ∧ s.stub = t.stub ∧ s.retry = t.retry ∧ s.wait = t.wait ∧ s.undo = t.undo ∧ s.pivot = t.pivot := by
  rw [toList_inj]
  obtain ⟨a, b, c, d, e, f⟩ := s
  obtain ⟨a', b', c', d', e', f'⟩ := t
  simp

theorem eql_step (s t : StepD) (w : World) : (binOp .eql 68 (.agg (s.cells).toArray) (.agg (t.cells).toArray)).run Tryz.prog w = .ok (.bool (decide (s = t))) w := by
  have u3 := Tryz.underlying3
  have u4 := Tryz.underlying4
  have u9 := Tryz.underlying9
  have hS : Tryz.prog.underlying 68 = some (.struct (Tryz.prog.fieldsOf 68)) := by kernel_rfl
  have hp : Tryz.prog.stoodInHeld 68 = false := by kernel_rfl
  simp only [StepD.cells]
  rw [run_eql_struct, show (10000 : Nat) = 9999 + 1 from rfl, run_equalIn_struct w 9999 68 _ _ hS hp]
  simp only [Program.fieldsOf, Tryz.underlying68]
  go_simp
  have hi := step_iff s t
  by_cases h0 : s.name.toList = t.name.toList <;> by_cases h1 : s.stub = t.stub <;> by_cases h2 : s.retry = t.retry <;> by_cases h3 : s.wait = t.wait <;> by_cases h4 : s.undo = t.undo <;> by_cases h5 : s.pivot = t.pivot <;> simp [hi, h0, h1, h2, h3, h4, h5]

theorem neq_step (s t : StepD) (w : World) : (binOp .neq 68 (.agg (s.cells).toArray) (.agg (t.cells).toArray)).run Tryz.prog w = .ok (.bool (!decide (s = t))) w := by
  have u3 := Tryz.underlying3
  have u4 := Tryz.underlying4
  have u9 := Tryz.underlying9
  have hS : Tryz.prog.underlying 68 = some (.struct (Tryz.prog.fieldsOf 68)) := by kernel_rfl
  have hp : Tryz.prog.stoodInHeld 68 = false := by kernel_rfl
  simp only [StepD.cells]
  rw [run_neq_struct, show (10000 : Nat) = 9999 + 1 from rfl, run_equalIn_struct w 9999 68 _ _ hS hp]
  simp only [Program.fieldsOf, Tryz.underlying68]
  go_simp
  have hi := step_iff s t
  by_cases h0 : s.name.toList = t.name.toList <;> by_cases h1 : s.stub = t.stub <;> by_cases h2 : s.retry = t.retry <;> by_cases h3 : s.wait = t.wait <;> by_cases h4 : s.undo = t.undo <;> by_cases h5 : s.pivot = t.pivot <;> simp [hi, h0, h1, h2, h3, h4, h5]

end Go.Proofs.YtehiaeihkdfclaaGreatDoor
/- A region whose order is open, of calls that write what was there before: what reads the same in all worlds may come up at once; from some point on text Order's laws take over. -/
namespace Go.Proofs.YtehiaeihkdfclaaGreatDoor
open Go.RowKit

section
variable {P : Program} {ops : Array Oper} {Q : Exit → Act → World → Prop} {md : Region.Mode}

/-- Whatever order is picked from here on, and behind each operation the world is a later one. -/
def wpAnyT (P : Program) (md : Region.Mode) (ops : Array Oper) (Q : Exit → Act → World → Prop) : Nat → Array Bool → Act → World → Prop
  | 0, listed, a, w => Region.ready md ops listed = [] ∧ Q .normal a w
  | fuel + 1, listed, a, w =>
    (Region.ready md ops listed = [] → Q .normal a w) ∧
    ∀ i ∈ Region.ready md ops listed, wpOp P ops Q i (wpAnyT P md ops Q fuel (listed.setIfInBounds i true)) a w

theorem wpAny_of_T : ∀ (fuel : Nat) (listed : Array Bool) (a : Act) (w : World), wpAnyT P md ops Q fuel listed a w → wpAny P md ops Q fuel listed a w
  | 0, _, _, _, h => h
  | fuel + 1, _, _, _, h => ⟨h.1, fun i hi => wpOp_mono (fun a' w' h' => wpAny_of_T fuel _ a' w' h') (h.2 i hi)⟩

/-- From here on what was there stays: operations that read it may come up at once. -/
theorem wpAnyT_of_L : ∀ (fuel : Nat) (listed : Array Bool) (a : Act) (w : World), wpAnyL P md ops Q fuel listed a w → wpAnyT P md ops Q fuel listed a w
  | 0, _, _, _, h => h
  | fuel + 1, _, _, _, h => ⟨h.1, fun i hi => wpOp_mono (fun a' w' h' => wpAnyT_of_L fuel _ a' w' h'.2) (h.2 i hi)⟩

/-- Such an operation, if it may come up, may come up at once. -/
theorem wpAnyT_first {i : Nat} {oi : Oper} {v : Value} (hi : ops[i]? = some oi) (hsel : ∀ (j : Nat) (o : Oper) cs b, ops[j]? = some o → o.op ≠ .select cs b)
    (hQ : ∀ c a w, Q (.panic c) (a.put oi.dst v) w → Q (.panic c) a w) :
    ∀ (fuel : Nat) (listed : Array Bool) (a : Act) (w : World),
      (∀ j oj, ops[j]? = some oj → j ≠ i → listed.getD j true = false → (∀ e ∈ oj.after, Region.binds md e = true → e.on ≠ i) → oi.apart ops oj = true) →
      i ∈ Region.ready md ops listed → YieldsIf P ops (fun _ => True) oi v a →
      wpAnyT P md ops Q fuel (listed.setIfInBounds i true) (a.put oi.dst v) w → wpAnyT P md ops Q (fuel + 1) listed a w := by
  intro fuel
  induction fuel with
  | zero =>
    intro listed a w _ hr hy H
    refine ⟨fun h => (by rw [h] at hr; cases hr), fun j hj => ?_⟩
    by_cases hji : j = i
    · subst hji
      exact hy.wpOp hi trivial H
    · have := ready_mono hj hji
      rw [H.1] at this
      cases this
  | succ fuel ih =>
    intro listed a w hfree hr hy H
    refine ⟨fun h => (by rw [h] at hr; cases hr), fun j hj => ?_⟩
    by_cases hji : j = i
    · subst hji
      exact hy.wpOp hi trivial H
    · have h1 := H.2 j (ready_mono hj hji)
      obtain ⟨hjun, oj, hoj, hall⟩ := mem_ready.1 hj
      have hnot : ∀ e ∈ oj.after, Region.binds md e = true → e.on ≠ i := fun e he hb heq => by
        have q1 := hall e he hb
        have q0 := (mem_ready.1 hr).1
        rw [heq] at q1
        rcases Nat.lt_or_ge i listed.size with h' | h'
        · simp [h'] at q0 q1
          rw [q0] at q1
          cases q1
        · simp [Array.getElem?_eq_none h'] at q1
      have h2 := wpOp_putIf hoj (hfree j oj hoj hji hjun hnot) (fun cs b => hsel i oi cs b hi) (fun cs b => hsel j oj cs b hoj) hQ hy h1
      have hfree' : ∀ k ok, ops[k]? = some ok → k ≠ i → (listed.setIfInBounds j true).getD k true = false →
          (∀ e ∈ ok.after, Region.binds md e = true → e.on ≠ i) → oi.apart ops ok = true := fun k ok hk hki hun hno => by
        refine hfree k ok hk hki ?_ hno
        by_cases hjk : j = k
        · subst hjk; exact hjun
        · rw [getD_set_ne true hjk] at hun; exact hun
      refine wpOp_mono (fun a' w' h3 => ih (listed.setIfInBounds j true) a' w' hfree' (ready_mono hr (Ne.symm hji)) h3.1 ?_) h2
      rw [Array.setIfInBounds_comm _ _ hji]
      exact h3.2

/-- The moves: an operation that may come up at once; the one that must; the end; the beginning. -/
theorem wpAnyT_take {i : Nat} {oi : Oper} {d : Option Tmp} {v : Value} {fuel : Nat} {listed : Array Bool} {a : Act} {w : World} (hi : ops[i]? = some oi) (hd : oi.dst = d)
    (hs : Region.noSelect ops = true) (hf : Region.free md ops listed i = true) (hr : (Region.ready md ops listed).contains i = true)
    (hQ : ∀ c a w, Q (.panic c) (a.put d v) w → Q (.panic c) a w) (hw : Region.wanted oi (yielded ops a.tmps) = true) (hy : ∀ w', (execOp a.eval oi).run P w' = .ok (.value v) w')
    (h : wpAnyT P md ops Q fuel (listed.setIfInBounds i true) (a.put d v) w) : wpAnyT P md ops Q (fuel + 1) listed a w := by
  subst hd
  exact wpAnyT_first hi (Region.noSelect_spec hs) hQ fuel listed a w (Region.free_spec hi hf) (by simpa using hr) (.inl ⟨hw, fun w' _ => hy w'⟩) h

theorem wpAnyT_pass {i : Nat} {oi : Oper} {d : Option Tmp} {fuel : Nat} {listed : Array Bool} {a : Act} {w : World} (hi : ops[i]? = some oi) (hd : oi.dst = d)
    (hs : Region.noSelect ops = true) (hf : Region.free md ops listed i = true) (hr : (Region.ready md ops listed).contains i = true)
    (hQ : ∀ c a w, Q (.panic c) (a.put d undef) w → Q (.panic c) a w) (hw : Region.wanted oi (yielded ops a.tmps) = false)
    (h : wpAnyT P md ops Q fuel (listed.setIfInBounds i true) (a.put d undef) w) : wpAnyT P md ops Q (fuel + 1) listed a w := by
  subst hd
  exact wpAnyT_first hi (Region.noSelect_spec hs) hQ fuel listed a w (Region.free_spec hi hf) (by simpa using hr) (.inr ⟨hw, rfl⟩) h

theorem wpAnyT_only {i : Nat} {o : Oper} {fuel : Nat} {listed : Array Bool} {a : Act} {w : World} (ho : ops[i]? = some o) (hr : Region.ready md ops listed = [i]) (hw : Region.wanted o (yielded ops a.tmps) = true)
    (h : ∀ K' : Act → World → Prop, Hid (∀ a' w', wpAnyT P md ops Q fuel (listed.setIfInBounds i true) a' w' → K' a' w') → Oper.wp P o a w K' Q) : wpAnyT P md ops Q (fuel + 1) listed a w := by
  refine ⟨fun h0 => absurd (hr ▸ h0) (by simp), fun j hj => ?_⟩
  rw [hr] at hj
  obtain rfl : j = i := by simpa using hj
  refine wpOp_step ho fun K' hK => ?_
  rw [if_pos hw]
  exact h K' fun a' w' hn => hK a' w' hn

theorem wpAnyT_two {i j : Nat} {oi oj : Oper} {fuel : Nat} {listed : Array Bool} {a : Act} {w : World} (hoi : ops[i]? = some oi) (hoj : ops[j]? = some oj) (hr : Region.ready md ops listed = [i, j])
    (hwi : Region.wanted oi (yielded ops a.tmps) = true) (hwj : Region.wanted oj (yielded ops a.tmps) = true)
    (hi : ∀ K' : Act → World → Prop, Hid (∀ a' w', wpAnyT P md ops Q fuel (listed.setIfInBounds i true) a' w' → K' a' w') → Oper.wp P oi a w K' Q)
    (hj : ∀ K' : Act → World → Prop, Hid (∀ a' w', wpAnyT P md ops Q fuel (listed.setIfInBounds j true) a' w' → K' a' w') → Oper.wp P oj a w K' Q) : wpAnyT P md ops Q (fuel + 1) listed a w := by
  refine ⟨fun h0 => absurd (hr ▸ h0) (by simp), fun k hk => ?_⟩
  rw [hr] at hk
  rcases List.mem_cons.1 hk with rfl | hk
  · refine wpOp_step hoi fun K' hK => ?_
    rw [if_pos hwi]
    exact hi K' fun a' w' hn => hK a' w' hn
  · obtain rfl : k = j := by simpa using hk
    refine wpOp_step hoj fun K' hK => ?_
    rw [if_pos hwj]
    exact hj K' fun a' w' hn => hK a' w' hn

theorem wpAnyT_done {listed : Array Bool} {a : Act} {w : World} (hr : Region.ready md ops listed = []) (h : Q .normal a w) : ∀ fuel, wpAnyT P md ops Q fuel listed a w
  | 0 => ⟨hr, h⟩
  | _ + 1 => ⟨fun _ => h, by rw [hr]; simp⟩

theorem wp_region_T {id : Nat} {a : Act} {w : World} (hm : P.follows .mixedOrders = true)
    (h : wpAnyT P .any ops Q ops.size (Array.replicate ops.size false) a w.drew) : (Code.region id ops true).wp P Q a w :=
  wp_region_any hm (wpAny_of_T _ _ _ _ h)
end

end Go.Proofs.YtehiaeihkdfclaaGreatDoor
/- slices.Equal at steps, the document's SameDef. -/
namespace Go.Proofs.YtehiaeihkdfclaaGreatDoor
open Go.RowKit

/-- The first k are alike. -/
def Alike {α : Type} (l m : List α) (k : Nat) : Prop := ∀ i, i < k → l[i]? = m[i]?
section
variable {α : Type} {l m : List α} {k : Nat}
theorem Alike.zero (l m : List α) : Alike l m 0 := fun i hi => by omega
theorem Alike.next (h : Alike l m k) (he : l[k]? = m[k]?) : Alike l m (k + 1) := fun i hi => by
  by_cases hk : i = k
  · rw [hk, he]
  · exact h i (by omega)
theorem Alike.all (h : Alike l m k) (h1 : l.length = k) (h2 : m.length = k) : l = m := by
  apply List.ext_getElem?
  intro i
  by_cases hi : i < k
  · exact h i hi
  · rw [List.getElem?_eq_none (by omega), List.getElem?_eq_none (by omega)]
theorem ne_at {x y : α} (hx : l[k]? = some x) (hy : m[k]? = some y) (hne : x ≠ y) : l ≠ m := by
  rintro rfl
  rw [hx] at hy
  exact hne (Option.some.inj hy)
end
theorem neq_step_same (s : StepD) (w : World) : (binOp .neq 68 (.agg (s.cells).toArray) (.agg (s.cells).toArray)).run Tryz.prog w = .ok (.bool false) w := by rw [neq_step]; simp
theorem neq_step_other {s t : StepD} (h : s ≠ t) (w : World) : (binOp .neq 68 (.agg (s.cells).toArray) (.agg (t.cells).toArray)).run Tryz.prog w = .ok (.bool true) w := by rw [neq_step]; simp [h]

set_option maxHeartbeats 1000000 in
theorem same_def (F G : Nat → Prop) (a1 a2 : ByteArray) (v v2 : Value) (l m : List StepD) (w : World) (hl : StepsAt F w v l) (hm : StepsAt G w v2 m) :
    Calls Tryz.prog 25 #[.agg #[.string a1, v], .agg #[.string a2, v2]] w fun e w' => e = .returned (.bool (decide (a1 = a2 ∧ l = m))) ∧ Below w.heap.size w w' := by
  obtain ⟨A, c, rfl, h1, h2, _⟩ := FlatAt.shape hl
  obtain ⟨A2, c2, rfl, h3, h4, _⟩ := FlatAt.shape hm
  unfold maxLen at h2 h4
  obtain ⟨n, hn⟩ : ∃ n, l.length = n := ⟨_, rfl⟩
  obtain ⟨n2, hn2⟩ : ∃ n2, m.length = n2 := ⟨_, rfl⟩
  rw [hn] at h1 hl ⊢
  rw [hn2] at h3 hm ⊢
  have hbw : Below w.heap.size w ((w.alloc (.cells #[.string a1, .slice A n c] 24 (0, 0))).alloc (.cells #[.string a2, .slice A2 n2 c2] 24 (0, 0))) := ((Below.refl _ _).alloc (Nat.le_refl _) _).alloc (by simp) _
  have H1 := hide (hl.kept (Kept.of_below hbw F))
  have H2 := hide (hm.kept (Kept.of_below hbw G))
  have HBW := hide hbw
  have HN := hide hn
  have HN2 := hide hn2
  clear hl hm hbw hn hn2
  by_cases ha : a1 = a2
  · subst ha
    have hs1 : (a1.toList == a1.toList) = true := by simp
    have hs2 : (a1.toList != a1.toList) = false := by simp
    by_cases hnm : n = n2
    · subst hnm
      have ht : ((n : Int) != (n : Int)) = false := by simp
      go_enter Tryz.func25, Tryz.ntmps25
      go_wp2
      have cA : ((w.alloc (.cells #[.string a1, .slice A n c] 24 (0, 0))).alloc (.cells #[.string a1, .slice A2 n c2] 24 (0, 0))).cell? ⟨w.heap.size, 1, none⟩ = some (.slice A n c) := cell_of_row _ _ 1 _ _ _ ((Below.block ((Below.refl _ _).alloc (Nat.le_refl _) _) w.heap.size (by simp)).trans (heap_alloc_new w _))
      have cB : ((w.alloc (.cells #[.string a1, .slice A n c] 24 (0, 0))).alloc (.cells #[.string a1, .slice A2 n c2] 24 (0, 0))).cell? ⟨w.heap.size + 1, 1, none⟩ = some (.slice A2 n c2) := cell_of_row _ _ 1 _ _ _ (heap_alloc2_new w _ _)
      generalize ((w.alloc (.cells #[.string a1, .slice A n c] 24 (0, 0))).alloc (.cells #[.string a1, .slice A2 n c2] 24 (0, 0))) = W at H1 H2 HBW cA cB ⊢
      go_loopw [23] (fun i wr => ∃ k : Nat, k ≤ n ∧ i = .int .i64 (k : Int) ∧ Alike l m k ∧ ∃ q, wr = W.drewN q) (fun i _ => n - (intOf i).toNat)
      case atStart => exact ⟨0, by omega, rfl, Alike.zero _ _, 0, rfl⟩
      case round =>
        obtain ⟨k, hk, rfl, hup, q, rfl⟩ := hrel
        have HU := hide hup
        clear hup
        by_cases hkn : k < n
        · obtain ⟨x, b, off, c', hx, hv, _, _, _, hr⟩ := StepsAt.at_ H1.out (i := k) (by rw [HN.out]; exact hkn)
          rw [HN.out] at hv
          obtain ⟨rfl, rfl⟩ : A = some ⟨b, off, none⟩ ∧ c = c' := by injection hv with e1 _ e3; exact ⟨e1, e3⟩
          obtain ⟨y, b2, off2, c2', hy, hv2, _, _, _, hr2⟩ := StepsAt.at_ H2.out (i := k) (by rw [HN2.out]; exact hkn)
          rw [HN2.out] at hv2
          obtain ⟨rfl, rfl⟩ : A2 = some ⟨b2, off2, none⟩ ∧ c2 = c2' := by injection hv2 with e1 _ e3; exact ⟨e1, e3⟩
          obtain ⟨r0, r1, r2, r3, r4, r5⟩ := range_step hr
          obtain ⟨s0, s1, s2, s3, s4, s5⟩ := range_step hr2
          have HX := hide hx
          have HY := hide hy
          clear hx hy hv hv2 hr hr2
          by_cases he : x = y
          · subst he
            have hq := fun w => neq_step_same x w
            simp only [StepD.cells] at hq
            go_wp2
            go_quiet (fail)
            go_wp2
            go_roundw
            case rel => exact ⟨k + 1, by omega, by go_num, HU.out.next (HX.out.trans HY.out.symm), _, rfl⟩
            case measure => simp [intOf]; omega
          · have hq := fun w => neq_step_other he w
            simp only [StepD.cells] at hq
            have HE := hide (ne_at HX.out HY.out he)
            clear he
            go_wp2
            go_quiet (fail)
            go_wp2
            go_ret
            exact ⟨ret_bool (by simp [HE.out]), HBW.out.trans ((below_drewN _ _ _).trans (below_drewN _ _ _))⟩
        · go_wp2
          go_ret
          exact ⟨ret_bool (by simp [HU.out.all (by have := HN.out; omega) (by have := HN2.out; omega)]), HBW.out.trans (below_drewN _ _ _)⟩
    · have ht : ((n : Int) != (n2 : Int)) = true := by simp; omega
      have HE : Hid (l ≠ m) := by
        rintro rfl
        exact hnm (HN.out.symm.trans HN2.out)
      go_enter Tryz.func25, Tryz.ntmps25
      go_wp2
      go_ret
      exact ⟨ret_bool (by simp [HE.out]), HBW.out⟩
  · have hs0 : (a1.toList == a2.toList) = false := by rw [str_eq]; simpa using ha
    have hs1 : (a1.toList != a2.toList) = true := by unfold bne; rw [hs0]; rfl
    have HE := hide ha
    clear ha
    go_enter Tryz.func25, Tryz.ntmps25
    go_wp2
    go_ret
    exact ⟨ret_bool (by simp [HE.out]), HBW.out⟩
end Go.Proofs.YtehiaeihkdfclaaGreatDoor
/- The document's SameOp. -/
namespace Go.Proofs.YtehiaeihkdfclaaGreatDoor
open Go.RowKit

theorem op_iff (x y : OpD) : x = y ↔ x.kind = y.kind ∧ x.client = y.client ∧ x.request = y.request ∧ (x.name = y.name ∧ x.steps = y.steps) ∧ x.saga = y.saga ∧ x.step = y.step ∧ x.try_ = y.try_ ∧ x.back = y.back ∧ x.good = y.good := by
  cases x
  cases y
  simp [and_assoc]

set_option maxHeartbeats 1000000 in
set_option maxRecDepth 100000 in
theorem same_op (F G : Nat → Prop) (v v2 : Value) (x y : OpD) (w : World) (hl : StepsAt F w v x.steps) (hm : StepsAt G w v2 y.steps) :
    Calls Tryz.prog 24 #[.agg (x.cells v).toArray, .agg (y.cells v2).toArray] w fun e w' => e = .returned (.bool (decide (x = y))) ∧ Below w.heap.size w w' := by
  obtain ⟨q0, h0⟩ : ∃ q, (x.kind == y.kind) = q := ⟨_, rfl⟩
  obtain ⟨q1, h1⟩ : ∃ q, (x.client == y.client) = q := ⟨_, rfl⟩
  obtain ⟨q2, h2⟩ : ∃ q, (x.request == y.request) = q := ⟨_, rfl⟩
  obtain ⟨q3, h3⟩ : ∃ q, decide (x.name = y.name ∧ x.steps = y.steps) = q := ⟨_, rfl⟩
  obtain ⟨q4, h4⟩ : ∃ q, (x.saga == y.saga) = q := ⟨_, rfl⟩
  obtain ⟨q5, h5⟩ : ∃ q, (x.step == y.step) = q := ⟨_, rfl⟩
  obtain ⟨q6, h6⟩ : ∃ q, (x.try_ == y.try_) = q := ⟨_, rfl⟩
  obtain ⟨q7, h7⟩ : ∃ q, (x.back == y.back) = q := ⟨_, rfl⟩
  obtain ⟨q8, h8⟩ : ∃ q, (x.good == y.good) = q := ⟨_, rfl⟩
  have HALL : Hid (decide (x = y) = (q0 && (q1 && (q2 && (q3 && (q4 && (q5 && (q6 && (q7 && q8))))))))) := by
    show _ = _
    rw [← h0, ← h1, ← h2, ← h3, ← h4, ← h5, ← h6, ← h7, ← h8, Bool.eq_iff_iff, decide_eq_true_eq, op_iff]
    simp
  have C := hide (fun w' (hb : Below w.heap.size w w') => same_def F G x.name y.name v v2 x.steps y.steps w' (hl.kept (Kept.of_below hb F)) (hm.kept (Kept.of_below hb G)))
  rw [h3] at C
  clear h3
  have H1 := FlatAt.oneCell hl
  have H2 := FlatAt.oneCell hm
  clear hl hm
  unfold OpD.cells
  have hbw : Below w.heap.size w ((w.alloc (.cells (x.cells v).toArray 26 (0, 0))).alloc (.cells (y.cells v2).toArray 26 (0, 0))) := ((Below.refl _ _).alloc (Nat.le_refl _) _).alloc (by simp) _
  have HBW := hide hbw
  have B1 : Hid (∀ w' : World, Below (w.heap.size + 2) ((w.alloc (.cells (x.cells v).toArray 26 (0, 0))).alloc (.cells (y.cells v2).toArray 26 (0, 0))) w' → w'.heap[w.heap.size]? = some (.cells (x.cells v).toArray 26 (0, 0)) ∧ w'.heap[w.heap.size + 1]? = some (.cells (y.cells v2).toArray 26 (0, 0))) := fun w' hb =>
    ⟨(hb.block _ (by omega)).trans ((Below.block ((Below.refl _ _).alloc (Nat.le_refl _) _) w.heap.size (by simp)).trans (heap_alloc_new w _)), (hb.block _ (by omega)).trans (heap_alloc2_new w _ _)⟩
  clear hbw
  unfold OpD.cells at HBW B1
  go_enter Tryz.func24, Tryz.ntmps24
  go_wp2_with (fail)
  all_goals (try (go_ret; exact ⟨ret_bool (by rw [HALL.out]; simp [*]), HBW.out⟩))
  refine (C.out _ HBW.out).mono ?_
  rintro e w1 ⟨rfl, hb1⟩
  have HB1 := hide (HBW.out.trans (hb1.mono HBW.out.size))
  obtain ⟨hx, hy⟩ := B1.out w1 (hb1.mono (by simp))
  obtain ⟨x0, x1, x2, x3, x4, x5, x6, x7, x8, x9⟩ := box10 hx
  obtain ⟨y0, y1, y2, y3, y4, y5, y6, y7, y8, y9⟩ := box10 hy
  clear hb1 hx hy x0 x1 x2 x3 x4 y0 y1 y2 y3 y4
  go_wp2_with (fail)
  all_goals (try (go_ret; exact ⟨ret_bool (by rw [HALL.out]; simp [*]), HB1.out⟩))
end Go.Proofs.YtehiaeihkdfclaaGreatDoor
/- The document's SameOps. -/
namespace Go.Proofs.YtehiaeihkdfclaaGreatDoor
open Go.RowKit

theorem map_at {α β : Type} {f : α → β} {ps : List α} {l : List β} (h : ps.map f = l) {k : Nat} {x : α} (hx : ps[k]? = some x) : l[k]? = some (f x) := by
  rw [← h, List.getElem?_map, hx]
  rfl

set_option maxHeartbeats 2000000 in
set_option maxRecDepth 100000 in
theorem same_ops (F G : Nat → Prop) (v v2 : Value) (l m : List OpD) (w : World) (hl : OpsAt F w v l) (hm : OpsAt G w v2 m) :
    Calls Tryz.prog 91 #[v, v2] w fun e w' => e = .returned (.bool (decide (l = m))) ∧ Below w.heap.size w w' := by
  obtain ⟨ps, hps, hl⟩ := hl
  obtain ⟨ps2, hps2, hm⟩ := hm
  obtain ⟨A, c, rfl, h1, h2, _⟩ := FlatAt.shape hl.1
  obtain ⟨A2, c2, rfl, h3, h4, _⟩ := FlatAt.shape hm.1
  unfold maxLen at h2 h4
  obtain ⟨n, hn⟩ : ∃ n, ps.length = n := ⟨_, rfl⟩
  obtain ⟨n2, hn2⟩ : ∃ n2, ps2.length = n2 := ⟨_, rfl⟩
  rw [hn] at h1 hl ⊢
  rw [hn2] at h3 hm ⊢
  have H1 := hide hl
  have H2 := hide hm
  have HN := hide hn
  have HN2 := hide hn2
  have HP := hide hps
  have HP2 := hide hps2
  have HLN : Hid (l.length = n) := by show _ = _; rw [← hps, List.length_map, hn]
  have HMN : Hid (m.length = n2) := by show _ = _; rw [← hps2, List.length_map, hn2]
  clear hl hm hn hn2 hps hps2
  by_cases hnm : n = n2
  · subst hnm
    have ht : ((n : Int) != (n : Int)) = false := by simp
    go_enter Tryz.func91, Tryz.ntmps91
    go_wp2
    go_loopw [13] (fun i wr => ∃ k : Nat, k ≤ n ∧ i = .int .i64 (k : Int) ∧ Alike l m k ∧ Later w wr) (fun i _ => n - (intOf i).toNat)
    case atStart => exact ⟨0, by omega, rfl, Alike.zero _ _, Later.refl _⟩
    case round =>
      obtain ⟨k, hk, rfl, hup, hb⟩ := hrel
      have HU := hide hup
      have HB := hide hb
      clear hup hb
      by_cases hkn : k < n
      · obtain ⟨x, s, b, off, c', hx, hv, _, _, _, hr, hs⟩ := OpsIn.at_ (H1.out.kept (Kept.of_below HB.out F)) (i := k) (by rw [HN.out]; exact hkn)
        rw [HN.out] at hv
        obtain ⟨rfl, rfl⟩ : A = some ⟨b, off, none⟩ ∧ c = c' := by injection hv with e1 _ e3; exact ⟨e1, e3⟩
        obtain ⟨y, s2, b2, off2, c2', hy, hv2, _, _, _, hr2, hs2⟩ := OpsIn.at_ (H2.out.kept (Kept.of_below HB.out G)) (i := k) (by rw [HN2.out]; exact hkn)
        rw [HN2.out] at hv2
        obtain ⟨rfl, rfl⟩ : A2 = some ⟨b2, off2, none⟩ ∧ c2 = c2' := by injection hv2 with e1 _ e3; exact ⟨e1, e3⟩
        have HX := hide (map_at HP.out hx)
        have HY := hide (map_at HP2.out hy)
        have RX : Hid (∀ w' : World, Later wr w' → w'.rangeAt b (off + k * 10) (x.cells s)) := fun w' hb j u hu => by
          have hr' := hr j u hu
          exact (World.cell?_of_block (Below.block hb b (by assumption))).trans hr'
        have RY : Hid (∀ w' : World, Later wr w' → w'.rangeAt b2 (off2 + k * 10) (y.cells s2)) := fun w' hb j u hu => by
          have hr' := hr2 j u hu
          exact (World.cell?_of_block (Below.block hb b2 (by assumption))).trans hr'
        have C := hide (fun w' (hb : Later wr w') => same_op F G s s2 x y w' (hs.kept (Kept.of_below hb F)) (hs2.kept (Kept.of_below hb G)))
        have L0 : Hid (Later wr wr.drew) := Later.drew _
        clear hx hy hv hv2 hr hr2 hs hs2
        by_cases he : x = y
        · have hd : decide (x = y) = true := decide_eq_true he
          have HE := hide he
          clear he
          rw [hd] at C
          clear hd
          go_wp2
          refine wp_region_L (by kernel_rfl) ?_
          refine wpAnyL_take (i := 0) (d := some 16) (v := ?vap0) rfl rfl (by kernel_rfl) (by kernel_rfl) (by kernel_rfl) (fun _ _ _ h => h) (by rfl) ?yap0 ?_
          case yap0 => (intro w' hw'; go_simp; try (with_reducible rfl))
          simp only [Act.put, List.setIfInBounds_toArray, List.set_cons_zero, List.set_cons_succ]
          refine wpAnyL_take (i := 1) (d := some 17) (v := ?vap1) rfl rfl (by kernel_rfl) (by kernel_rfl) (by kernel_rfl) (fun _ _ _ h => h) (by rfl) ?yap1 ?_
          case yap1 => (intro w' hw'; go_simp; try (with_reducible rfl))
          simp only [Act.put, List.setIfInBounds_toArray, List.set_cons_zero, List.set_cons_succ]
          refine wpAnyL_take (i := 2) (d := some 18) (v := ?vap2) rfl rfl (by kernel_rfl) (by kernel_rfl) (by kernel_rfl) (fun _ _ _ h => h) (by rfl) ?yap2 ?_
          case yap2 => (intro w' hw'; go_simp; try (with_reducible rfl))
          simp only [Act.put, List.setIfInBounds_toArray, List.set_cons_zero, List.set_cons_succ]
          refine wpAnyL_take (i := 3) (d := some 19) (v := ?vap3) rfl rfl (by kernel_rfl) (by kernel_rfl) (by kernel_rfl) (fun _ _ _ h => h) (by rfl) ?yap3 ?_
          case yap3 => (intro w' hw'; obtain ⟨r0, r1, r2, r3, r4, r5, r6, r7, r8, r9⟩ := range_op (RX.out w' (L0.out.trans hw')); go_simp; try (with_reducible rfl))
          simp only [Act.put, List.setIfInBounds_toArray, List.set_cons_zero, List.set_cons_succ]
          refine wpAnyL_take (i := 4) (d := some 20) (v := ?vap4) rfl rfl (by kernel_rfl) (by kernel_rfl) (by kernel_rfl) (fun _ _ _ h => h) (by rfl) ?yap4 ?_
          case yap4 => (intro w' hw'; go_simp; try (with_reducible rfl))
          simp only [Act.put, List.setIfInBounds_toArray, List.set_cons_zero, List.set_cons_succ]
          refine wpAnyL_take (i := 5) (d := some 21) (v := ?vap5) rfl rfl (by kernel_rfl) (by kernel_rfl) (by kernel_rfl) (fun _ _ _ h => h) (by rfl) ?yap5 ?_
          case yap5 => (intro w' hw'; go_simp; try (with_reducible rfl))
          simp only [Act.put, List.setIfInBounds_toArray, List.set_cons_zero, List.set_cons_succ]
          refine wpAnyL_take (i := 6) (d := some 22) (v := ?vap6) rfl rfl (by kernel_rfl) (by kernel_rfl) (by kernel_rfl) (fun _ _ _ h => h) (by rfl) ?yap6 ?_
          case yap6 => (intro w' hw'; go_simp; try (with_reducible rfl))
          simp only [Act.put, List.setIfInBounds_toArray, List.set_cons_zero, List.set_cons_succ]
          refine wpAnyL_take (i := 7) (d := some 23) (v := ?vap7) rfl rfl (by kernel_rfl) (by kernel_rfl) (by kernel_rfl) (fun _ _ _ h => h) (by rfl) ?yap7 ?_
          case yap7 => (intro w' hw'; obtain ⟨r0, r1, r2, r3, r4, r5, r6, r7, r8, r9⟩ := range_op (RY.out w' (L0.out.trans hw')); go_simp; try (with_reducible rfl))
          simp only [Act.put, List.setIfInBounds_toArray, List.set_cons_zero, List.set_cons_succ]
          refine wpAnyL_only (i := 8) rfl (by kernel_rfl) (by rfl) fun K hK => ?_
          go_simp
          refine (C.out _ L0.out).mono ?_
          rintro e w8 ⟨rfl, hb8⟩
          have L8 : Hid (Later wr w8) := L0.out.trans hb8
          have HB8 := hide hb8
          clear hb8
          refine hK.out _ _ HB8.out ?_
          clear hK K
          try simp only [Act.put, List.setIfInBounds_toArray, List.set_cons_zero, List.set_cons_succ]
          refine wpAnyL_take (i := 9) (d := some 25) (v := ?vap9) rfl rfl (by kernel_rfl) (by kernel_rfl) (by kernel_rfl) (fun _ _ _ h => h) (by rfl) ?yap9 ?_
          case yap9 => (intro w' hw'; go_simp; try (with_reducible rfl))
          simp only [Act.put, List.setIfInBounds_toArray, List.set_cons_zero, List.set_cons_succ]
          refine wpAnyL_done (by kernel_rfl) ?_ _
          go_wp2
          go_roundw
          case rel => exact ⟨k + 1, by omega, by go_num, HU.out.next (HX.out.trans (by rw [HE.out]; exact HY.out.symm)), HB.out.trans L8.out⟩
          case measure => simp [intOf]; omega
        · have hd : decide (x = y) = false := decide_eq_false he
          have HE := hide (ne_at HX.out HY.out he)
          clear he
          rw [hd] at C
          clear hd
          go_wp2
          refine wp_region_L (by kernel_rfl) ?_
          refine wpAnyL_take (i := 0) (d := some 16) (v := ?vaq0) rfl rfl (by kernel_rfl) (by kernel_rfl) (by kernel_rfl) (fun _ _ _ h => h) (by rfl) ?yaq0 ?_
          case yaq0 => (intro w' hw'; go_simp; try (with_reducible rfl))
          simp only [Act.put, List.setIfInBounds_toArray, List.set_cons_zero, List.set_cons_succ]
          refine wpAnyL_take (i := 1) (d := some 17) (v := ?vaq1) rfl rfl (by kernel_rfl) (by kernel_rfl) (by kernel_rfl) (fun _ _ _ h => h) (by rfl) ?yaq1 ?_
          case yaq1 => (intro w' hw'; go_simp; try (with_reducible rfl))
          simp only [Act.put, List.setIfInBounds_toArray, List.set_cons_zero, List.set_cons_succ]
          refine wpAnyL_take (i := 2) (d := some 18) (v := ?vaq2) rfl rfl (by kernel_rfl) (by kernel_rfl) (by kernel_rfl) (fun _ _ _ h => h) (by rfl) ?yaq2 ?_
          case yaq2 => (intro w' hw'; go_simp; try (with_reducible rfl))
          simp only [Act.put, List.setIfInBounds_toArray, List.set_cons_zero, List.set_cons_succ]
          refine wpAnyL_take (i := 3) (d := some 19) (v := ?vaq3) rfl rfl (by kernel_rfl) (by kernel_rfl) (by kernel_rfl) (fun _ _ _ h => h) (by rfl) ?yaq3 ?_
          case yaq3 => (intro w' hw'; obtain ⟨r0, r1, r2, r3, r4, r5, r6, r7, r8, r9⟩ := range_op (RX.out w' (L0.out.trans hw')); go_simp; try (with_reducible rfl))
          simp only [Act.put, List.setIfInBounds_toArray, List.set_cons_zero, List.set_cons_succ]
          refine wpAnyL_take (i := 4) (d := some 20) (v := ?vaq4) rfl rfl (by kernel_rfl) (by kernel_rfl) (by kernel_rfl) (fun _ _ _ h => h) (by rfl) ?yaq4 ?_
          case yaq4 => (intro w' hw'; go_simp; try (with_reducible rfl))
          simp only [Act.put, List.setIfInBounds_toArray, List.set_cons_zero, List.set_cons_succ]
          refine wpAnyL_take (i := 5) (d := some 21) (v := ?vaq5) rfl rfl (by kernel_rfl) (by kernel_rfl) (by kernel_rfl) (fun _ _ _ h => h) (by rfl) ?yaq5 ?_
          case yaq5 => (intro w' hw'; go_simp; try (with_reducible rfl))
          simp only [Act.put, List.setIfInBounds_toArray, List.set_cons_zero, List.set_cons_succ]
          refine wpAnyL_take (i := 6) (d := some 22) (v := ?vaq6) rfl rfl (by kernel_rfl) (by kernel_rfl) (by kernel_rfl) (fun _ _ _ h => h) (by rfl) ?yaq6 ?_
          case yaq6 => (intro w' hw'; go_simp; try (with_reducible rfl))
          simp only [Act.put, List.setIfInBounds_toArray, List.set_cons_zero, List.set_cons_succ]
          refine wpAnyL_take (i := 7) (d := some 23) (v := ?vaq7) rfl rfl (by kernel_rfl) (by kernel_rfl) (by kernel_rfl) (fun _ _ _ h => h) (by rfl) ?yaq7 ?_
          case yaq7 => (intro w' hw'; obtain ⟨r0, r1, r2, r3, r4, r5, r6, r7, r8, r9⟩ := range_op (RY.out w' (L0.out.trans hw')); go_simp; try (with_reducible rfl))
          simp only [Act.put, List.setIfInBounds_toArray, List.set_cons_zero, List.set_cons_succ]
          refine wpAnyL_only (i := 8) rfl (by kernel_rfl) (by rfl) fun K hK => ?_
          go_simp
          refine (C.out _ L0.out).mono ?_
          rintro e w8 ⟨rfl, hb8⟩
          have L8 : Hid (Later wr w8) := L0.out.trans hb8
          have HB8 := hide hb8
          clear hb8
          refine hK.out _ _ HB8.out ?_
          clear hK K
          try simp only [Act.put, List.setIfInBounds_toArray, List.set_cons_zero, List.set_cons_succ]
          refine wpAnyL_take (i := 9) (d := some 25) (v := ?vaq9) rfl rfl (by kernel_rfl) (by kernel_rfl) (by kernel_rfl) (fun _ _ _ h => h) (by rfl) ?yaq9 ?_
          case yaq9 => (intro w' hw'; go_simp; try (with_reducible rfl))
          simp only [Act.put, List.setIfInBounds_toArray, List.set_cons_zero, List.set_cons_succ]
          refine wpAnyL_done (by kernel_rfl) ?_ _
          go_wp2
          go_ret
          exact ⟨ret_bool (by simp [HE.out]), HB.out.trans L8.out⟩
      · go_wp2
        go_ret
        exact ⟨ret_bool (by simp [HU.out.all (by have := HLN.out; omega) (by have := HMN.out; omega)]), HB.out⟩
  · have ht : ((n : Int) != (n2 : Int)) = true := by simp; omega
    have HE : Hid (l ≠ m) := by
      rintro rfl
      exact hnm (HLN.out.symm.trans HMN.out)
    go_enter Tryz.func91, Tryz.ntmps91
    go_wp2
    go_ret
    exact ⟨ret_bool (by simp [HE.out]), Below.refl _ _⟩
end Go.Proofs.YtehiaeihkdfclaaGreatDoor
/- The walk over droverref01.Ints: are two lists of ints the same? -/
namespace Go.Proofs.YtehiaeihkdfclaaGreatDoor
open Go.RowKit

/-- Are they the same? -/
def eqI (l m : List Int) : Bool := decide (l = m)
theorem eqI_self (l : List Int) : eqI l l = true := by simp [eqI]
theorem eqI_len {l m : List Int} (h : l.length ≠ m.length) : false = eqI l m := by
  unfold eqI
  symm
  rw [decide_eq_false_iff_not]
  intro e
  exact h (congrArg List.length e)
theorem eqI_no {l m : List Int} {i : Nat} (h : l.getD i 0 ≠ m.getD i 0) : false = eqI l m := by
  unfold eqI
  symm
  rw [decide_eq_false_iff_not]
  intro e
  exact h (by rw [e])
def SameUp (l m : List Int) (k : Nat) : Prop := ∀ i, i < k → l.getD i 0 = m.getD i 0
theorem SameUp.zero (l m : List Int) : SameUp l m 0 := fun i hi => by omega
theorem SameUp.next {l m : List Int} {k : Nat} (h : SameUp l m k) (he : l.getD k 0 = m.getD k 0) : SameUp l m (k + 1) := fun i hi => by
  by_cases hk : i = k
  · rw [hk, he]
  · exact h i (by omega)
theorem SameUp.all {l m : List Int} {k : Nat} (h : SameUp l m k) (h1 : l.length = k) (h2 : m.length = k) : true = eqI l m := by
  unfold eqI
  symm
  rw [decide_eq_true_eq]
  apply List.ext_getElem (by omega)
  intro i hi1 hi2
  have := h i (by omega)
  simpa [List.getD, hi1, hi2] using this

set_option maxHeartbeats 400000 in
theorem refints_any (A A2 : Option Addr) (n c m c2 B B2 : Nat) (l l2 : List Int) (w : World) (hl : IHolds w B A n l) (hl2 : IHolds w B2 A2 m l2) (hn : n ≤ 1099511627000) (hm : m ≤ 1099511627000) :
    Calls Tryz.prog 92 #[.slice A n c, .slice A2 m c2] w fun e w' => e = .returned (.bool (eqI l l2)) ∧ ∃ q, w' = w.drewN q := by
  have H1 := hide hl
  have H2 := hide hl2
  clear hl hl2
  by_cases hnm : n = m
  · subst hnm
    have ht : ((n : Int) != (n : Int)) = false := by simp
    go_enter Tryz.func92, Tryz.ntmps92
    go_wp2
    go_loopw [13] (fun i wr => ∃ k : Nat, k ≤ n ∧ i = .int .i64 (k : Int) ∧ SameUp l l2 k ∧ ∃ q, wr = w.drewN q) (fun i _ => n - (intOf i).toNat)
    case atStart => exact ⟨0, by omega, rfl, SameUp.zero _ _, 0, rfl⟩
    case round =>
      obtain ⟨k, hk, rfl, hup, q, rfl⟩ := hrel
      have HU := hide hup
      clear hup
      by_cases hkn : k < n
      · obtain ⟨b, off, rfl, _, hc⟩ := H1.out.at_ hkn
        obtain ⟨b2, off2, rfl, _, hc2⟩ := H2.out.at_ hkn
        obtain ⟨x, hx⟩ : ∃ x, x = l.getD k 0 := ⟨_, rfl⟩
        obtain ⟨y, hy⟩ : ∃ y, y = l2.getD k 0 := ⟨_, rfl⟩
        rw [← hx] at hc
        rw [← hy] at hc2
        have HX := hide hx
        have HY := hide hy
        clear hx hy
        by_cases he : x = y
        · subst he
          have ht2 : (x != x) = false := by simp
          go_wp2
          go_quiet (fail)
          go_wp2
          go_roundw
          case rel => exact ⟨k + 1, by omega, by go_num, HU.out.next (by rw [← HX.out, ← HY.out]), _, rfl⟩
          case measure => simp [intOf]; omega
        · have ht2 : (x != y) = true := by simpa using he
          have HE : Hid (l.getD k 0 ≠ l2.getD k 0) := by rw [← HX.out, ← HY.out]; exact he
          clear he
          go_wp2
          go_quiet (fail)
          go_wp2
          go_ret
          exact ⟨ret_bool (eqI_no HE.out), _, World.drewN_drewN _ _ _⟩
      · go_wp2
        go_ret
        exact ⟨ret_bool (HU.out.all (by have := H1.out.1; omega) (by have := H2.out.1; omega)), _, rfl⟩
  · have ht : ((n : Int) != (m : Int)) = true := by simp; omega
    go_enter Tryz.func92, Tryz.ntmps92
    go_wp2
    go_ret
    exact ⟨ret_bool (eqI_len (by rw [H1.out.1, H2.out.1]; exact hnm)), 0, rfl⟩
end Go.Proofs.YtehiaeihkdfclaaGreatDoor
/- droverref01.Ints at two lists of incarnations; slices.Equal at them, and at steps. -/
namespace Go.Proofs.YtehiaeihkdfclaaGreatDoor
open Go.RowKit

set_option maxHeartbeats 1000000 in
theorem same_incs (F G : Nat → Prop) (v v2 : Value) (l m : List Int) (w : World) (hl : IncsAt F w v l) (hm : IncsAt G w v2 m) :
    Calls Tryz.prog 92 #[v, v2] w fun e w' => e = .returned (.bool (decide (l = m))) ∧ ∃ q, w' = w.drewN q := by
  obtain ⟨A, c, rfl, h1, h2, _⟩ := FlatAt.shape hl
  obtain ⟨A2, c2, rfl, h3, h4, _⟩ := FlatAt.shape hm
  unfold maxLen at h2 h4
  obtain ⟨n, hn⟩ : ∃ n, l.length = n := ⟨_, rfl⟩
  obtain ⟨n2, hn2⟩ : ∃ n2, m.length = n2 := ⟨_, rfl⟩
  rw [hn] at h1 hl ⊢
  rw [hn2] at h3 hm ⊢
  have H1 := hide hl
  have H2 := hide hm
  have HN := hide hn
  have HN2 := hide hn2
  clear hl hm hn hn2
  by_cases hnm : n = n2
  · subst hnm
    have ht : ((n : Int) != (n : Int)) = false := by simp
    go_enter Tryz.func92, Tryz.ntmps92
    go_wp2
    go_loopw [13] (fun i wr => ∃ k : Nat, k ≤ n ∧ i = .int .i64 (k : Int) ∧ Alike l m k ∧ ∃ q, wr = w.drewN q) (fun i _ => n - (intOf i).toNat)
    case atStart => exact ⟨0, by omega, rfl, Alike.zero _ _, 0, rfl⟩
    case round =>
      obtain ⟨k, hk, rfl, hup, q, rfl⟩ := hrel
      have HU := hide hup
      clear hup
      by_cases hkn : k < n
      · obtain ⟨x, b, off, c', hx, hv, _, _, _, hr⟩ := IncsAt.at_ H1.out (i := k) (by rw [HN.out]; exact hkn)
        rw [HN.out] at hv
        obtain ⟨rfl, rfl⟩ : A = some ⟨b, off, none⟩ ∧ c = c' := by injection hv with e1 _ e3; exact ⟨e1, e3⟩
        obtain ⟨y, b2, off2, c2', hy, hv2, _, _, _, hr2⟩ := IncsAt.at_ H2.out (i := k) (by rw [HN2.out]; exact hkn)
        rw [HN2.out] at hv2
        obtain ⟨rfl, rfl⟩ : A2 = some ⟨b2, off2, none⟩ ∧ c2 = c2' := by injection hv2 with e1 _ e3; exact ⟨e1, e3⟩
        have HX := hide hx
        have HY := hide hy
        clear hx hy hv hv2
        by_cases he : x = y
        · subst he
          have ht2 : (x != x) = false := by simp
          go_wp2
          go_quiet (fail)
          go_wp2
          go_roundw
          case rel => exact ⟨k + 1, by omega, by go_num, HU.out.next (HX.out.trans HY.out.symm), _, rfl⟩
          case measure => simp [intOf]; omega
        · have ht2 : (x != y) = true := by simpa using he
          have HE := hide (ne_at HX.out HY.out he)
          clear he
          go_wp2
          go_quiet (fail)
          go_wp2
          go_ret
          exact ⟨ret_bool (by simp [HE.out]), _, World.drewN_drewN _ _ _⟩
      · go_wp2
        go_ret
        exact ⟨ret_bool (by simp [HU.out.all (by have := HN.out; omega) (by have := HN2.out; omega)]), _, rfl⟩
  · have ht : ((n : Int) != (n2 : Int)) = true := by simp; omega
    have HE : Hid (l ≠ m) := by
      rintro rfl
      exact hnm (HN.out.symm.trans HN2.out)
    go_enter Tryz.func92, Tryz.ntmps92
    go_wp2
    go_ret
    exact ⟨ret_bool (by simp [HE.out]), 0, rfl⟩
end Go.Proofs.YtehiaeihkdfclaaGreatDoor
/- What == and != give at replies and commands. -/
namespace Go.Proofs.YtehiaeihkdfclaaGreatDoor
open Go.RowKit

theorem eql_reply (a b c d a' b' c' d' : Int) (w : World) : (binOp .eql 29 (.agg ([.int .i64 a, .int .i64 b, .int .i64 c, .int .i64 d]).toArray) (.agg ([.int .i64 a', .int .i64 b', .int .i64 c', .int .i64 d']).toArray)).run Tryz.prog w = .ok (.bool (decide (a = a' ∧ b = b' ∧ c = c' ∧ d = d'))) w := by
  have u3 := Tryz.underlying3
  have u4 := Tryz.underlying4
  have u9 := Tryz.underlying9
  have u34 := Tryz.underlying27
  have hS : Tryz.prog.underlying 29 = some (.struct (Tryz.prog.fieldsOf 29)) := by kernel_rfl
  have hp : Tryz.prog.stoodInHeld 29 = false := by kernel_rfl
  skip
  rw [run_eql_struct, show (10000 : Nat) = 9999 + 1 from rfl, run_equalIn_struct w 9999 29 _ _ hS hp]
  simp only [Program.fieldsOf, Tryz.underlying29]
  go_simp
  by_cases h0 : a = a' <;> by_cases h1 : b = b' <;> by_cases h2 : c = c' <;> by_cases h3 : d = d' <;> simp [h0, h1, h2, h3]

theorem neq_reply (a b c d a' b' c' d' : Int) (w : World) : (binOp .neq 29 (.agg ([.int .i64 a, .int .i64 b, .int .i64 c, .int .i64 d]).toArray) (.agg ([.int .i64 a', .int .i64 b', .int .i64 c', .int .i64 d']).toArray)).run Tryz.prog w = .ok (.bool (!decide (a = a' ∧ b = b' ∧ c = c' ∧ d = d'))) w := by
  have u3 := Tryz.underlying3
  have u4 := Tryz.underlying4
  have u9 := Tryz.underlying9
  have u34 := Tryz.underlying27
  have hS : Tryz.prog.underlying 29 = some (.struct (Tryz.prog.fieldsOf 29)) := by kernel_rfl
  have hp : Tryz.prog.stoodInHeld 29 = false := by kernel_rfl
  skip
  rw [run_neq_struct, show (10000 : Nat) = 9999 + 1 from rfl, run_equalIn_struct w 9999 29 _ _ hS hp]
  simp only [Program.fieldsOf, Tryz.underlying29]
  go_simp
  by_cases h0 : a = a' <;> by_cases h1 : b = b' <;> by_cases h2 : c = c' <;> by_cases h3 : d = d' <;> simp [h0, h1, h2, h3]

theorem eql_command (a b c d e a' b' c' d' e' : Int) (f f' : Bool) (w : World) : (binOp .eql 31 (.agg ([.int .i64 a, .int .i64 b, .int .i64 c, .int .i64 d, .int .i64 e, .bool f]).toArray) (.agg ([.int .i64 a', .int .i64 b', .int .i64 c', .int .i64 d', .int .i64 e', .bool f']).toArray)).run Tryz.prog w = .ok (.bool (decide (a = a' ∧ b = b' ∧ c = c' ∧ d = d' ∧ e = e' ∧ f = f'))) w := by
  have u3 := Tryz.underlying3
  have u4 := Tryz.underlying4
  have u9 := Tryz.underlying9
  have u34 := Tryz.underlying27
  have hS : Tryz.prog.underlying 31 = some (.struct (Tryz.prog.fieldsOf 31)) := by kernel_rfl
  have hp : Tryz.prog.stoodInHeld 31 = false := by kernel_rfl
  skip
  rw [run_eql_struct, show (10000 : Nat) = 9999 + 1 from rfl, run_equalIn_struct w 9999 31 _ _ hS hp]
  simp only [Program.fieldsOf, Tryz.underlying31]
  go_simp
  by_cases h0 : a = a' <;> by_cases h1 : b = b' <;> by_cases h2 : c = c' <;> by_cases h3 : d = d' <;> by_cases h4 : e = e' <;> by_cases h5 : f = f' <;> simp [h0, h1, h2, h3, h4, h5]

theorem neq_command (a b c d e a' b' c' d' e' : Int) (f f' : Bool) (w : World) : (binOp .neq 31 (.agg ([.int .i64 a, .int .i64 b, .int .i64 c, .int .i64 d, .int .i64 e, .bool f]).toArray) (.agg ([.int .i64 a', .int .i64 b', .int .i64 c', .int .i64 d', .int .i64 e', .bool f']).toArray)).run Tryz.prog w = .ok (.bool (!decide (a = a' ∧ b = b' ∧ c = c' ∧ d = d' ∧ e = e' ∧ f = f'))) w := by
  have u3 := Tryz.underlying3
  have u4 := Tryz.underlying4
  have u9 := Tryz.underlying9
  have u34 := Tryz.underlying27
  have hS : Tryz.prog.underlying 31 = some (.struct (Tryz.prog.fieldsOf 31)) := by kernel_rfl
  have hp : Tryz.prog.stoodInHeld 31 = false := by kernel_rfl
  skip
  rw [run_neq_struct, show (10000 : Nat) = 9999 + 1 from rfl, run_equalIn_struct w 9999 31 _ _ hS hp]
  simp only [Program.fieldsOf, Tryz.underlying31]
  go_simp
  by_cases h0 : a = a' <;> by_cases h1 : b = b' <;> by_cases h2 : c = c' <;> by_cases h3 : d = d' <;> by_cases h4 : e = e' <;> by_cases h5 : f = f' <;> simp [h0, h1, h2, h3, h4, h5]

end Go.Proofs.YtehiaeihkdfclaaGreatDoor
/- The document's Same. -/
namespace Go.Proofs.YtehiaeihkdfclaaGreatDoor
open Go.RowKit

theorem msg_iff (x y : MsgD) : x = y ↔ (x.kind = y.kind ∧ x.src = y.src ∧ x.dst = y.dst ∧ x.view = y.view ∧ x.last = y.last ∧ x.num = y.num ∧ x.commit = y.commit ∧ x.nonce = y.nonce ∧ x.request = y.request) ∧ x.lead = y.lead ∧ x.good = y.good ∧ x.fenced = y.fenced ∧ x.op = y.op ∧
    (x.rerr = y.rerr ∧ x.rsaga = y.rsaga ∧ x.rstate = y.rstate ∧ x.rstep = y.rstep) ∧ (x.cview = y.cview ∧ x.cstub = y.cstub ∧ x.csaga = y.csaga ∧ x.cstep = y.cstep ∧ x.ctry = y.ctry ∧ x.cback = y.cback) ∧ x.ops = y.ops ∧ x.incs = y.incs := by
  cases x
  cases y
  simp [and_assoc]

set_option maxHeartbeats 4000000 in
set_option maxRecDepth 100000 in
theorem same_any (F G : Nat → Prop) (s o i s2 o2 i2 : Value) (x y : MsgD) (w : World) (hl : Lists F w x s o i) (hm : Lists G w y s2 o2 i2) :
    Calls Tryz.prog 56 #[.agg (x.cells s o i).toArray, .agg (y.cells s2 o2 i2).toArray] w fun e w' => e = .returned (.bool (decide (x = y))) ∧ Below w.heap.size w w' := by
  obtain ⟨q0, h0⟩ : ∃ q, (x.kind != y.kind) = q := ⟨_, rfl⟩
  obtain ⟨q1, h1⟩ : ∃ q, (x.src != y.src) = q := ⟨_, rfl⟩
  obtain ⟨q2, h2⟩ : ∃ q, (x.dst != y.dst) = q := ⟨_, rfl⟩
  obtain ⟨q3, h3⟩ : ∃ q, (x.view != y.view) = q := ⟨_, rfl⟩
  obtain ⟨q4, h4⟩ : ∃ q, (x.last != y.last) = q := ⟨_, rfl⟩
  obtain ⟨q5, h5⟩ : ∃ q, (x.num != y.num) = q := ⟨_, rfl⟩
  obtain ⟨q6, h6⟩ : ∃ q, (x.commit != y.commit) = q := ⟨_, rfl⟩
  obtain ⟨q7, h7⟩ : ∃ q, (x.nonce != y.nonce) = q := ⟨_, rfl⟩
  obtain ⟨q8, h8⟩ : ∃ q, (x.request != y.request) = q := ⟨_, rfl⟩
  obtain ⟨q9, h9⟩ : ∃ q, (x.lead == y.lead) = q := ⟨_, rfl⟩
  obtain ⟨q10, h10⟩ : ∃ q, (x.good == y.good) = q := ⟨_, rfl⟩
  obtain ⟨q11, h11⟩ : ∃ q, (x.fenced == y.fenced) = q := ⟨_, rfl⟩
  obtain ⟨q12, h12⟩ : ∃ q, decide (x.op = y.op) = q := ⟨_, rfl⟩
  obtain ⟨q13, h13⟩ : ∃ q, decide (x.rerr = y.rerr ∧ x.rsaga = y.rsaga ∧ x.rstate = y.rstate ∧ x.rstep = y.rstep) = q := ⟨_, rfl⟩
  obtain ⟨q14, h14⟩ : ∃ q, decide (x.cview = y.cview ∧ x.cstub = y.cstub ∧ x.csaga = y.csaga ∧ x.cstep = y.cstep ∧ x.ctry = y.ctry ∧ x.cback = y.cback) = q := ⟨_, rfl⟩
  obtain ⟨q15, h15⟩ : ∃ q, decide (x.ops = y.ops) = q := ⟨_, rfl⟩
  obtain ⟨q16, h16⟩ : ∃ q, decide (x.incs = y.incs) = q := ⟨_, rfl⟩
  have HALL : Hid (decide (x = y) = ((!q0 && (!q1 && (!q2 && (!q3 && (!q4 && (!q5 && (!q6 && (!q7 && (!q8))))))))) && (q9 && (q10 && (q11 && (q12 && (q13 && (q14 && (q15 && (q16)))))))))) := by
    show _ = _
    rw [← h0, ← h1, ← h2, ← h3, ← h4, ← h5, ← h6, ← h7, ← h8, ← h9, ← h10, ← h11, ← h12, ← h13, ← h14, ← h15, ← h16, Bool.eq_iff_iff, decide_eq_true_eq, msg_iff]
    simp [bne]
  have C1 := hide (fun w' (hb : Later w w') => same_op F G s s2 x.op y.op w' (hl.1.kept (Kept.of_below hb F)) (hm.1.kept (Kept.of_below hb G)))
  have C2 := hide (fun w' (hb : Later w w') => same_ops F G o o2 x.ops y.ops w' (hl.2.1.kept (Kept.of_below hb F)) (hm.2.1.kept (Kept.of_below hb G)))
  have C3 := hide (fun w' (hb : Later w w') => same_incs F G i i2 x.incs y.incs w' (hl.2.2.kept (Kept.of_below hb F)) (hm.2.2.kept (Kept.of_below hb G)))
  rw [h12] at C1
  rw [h15] at C2
  rw [h16] at C3
  have hr := fun w => eql_reply x.rerr x.rsaga x.rstate x.rstep y.rerr y.rsaga y.rstate y.rstep w
  have hc := fun w => eql_command x.cview x.cstub x.csaga x.cstep x.ctry y.cview y.cstub y.csaga y.cstep y.ctry x.cback y.cback w
  rw [h13] at hr
  rw [h14] at hc
  clear h12 h13 h14 h15 h16
  obtain ⟨k1, k2, k3⟩ := hl.cell
  obtain ⟨j1, j2, j3⟩ := hm.cell
  clear hl hm
  have hbw : Below w.heap.size w ((w.alloc (.cells (x.cells s o i).toArray 35 (0, 0))).alloc (.cells (y.cells s2 o2 i2).toArray 35 (0, 0))) := ((Below.refl _ _).alloc (Nat.le_refl _) _).alloc (by simp) _
  have HBW := hide hbw
  have B1 : Hid (∀ w' : World, Below (w.heap.size + 2) ((w.alloc (.cells (x.cells s o i).toArray 35 (0, 0))).alloc (.cells (y.cells s2 o2 i2).toArray 35 (0, 0))) w' → w'.heap[w.heap.size]? = some (.cells (x.cells s o i).toArray 35 (0, 0)) ∧ w'.heap[w.heap.size + 1]? = some (.cells (y.cells s2 o2 i2).toArray 35 (0, 0))) := fun w' hb =>
    ⟨(hb.block _ (by omega)).trans ((Below.block ((Below.refl _ _).alloc (Nat.le_refl _) _) w.heap.size (by simp)).trans (heap_alloc_new w _)), (hb.block _ (by omega)).trans (heap_alloc2_new w _ _)⟩
  clear hbw
  unfold MsgD.cells at HBW B1
  unfold MsgD.cells
  unfold OpD.cells at C1
  go_enter Tryz.func56, Tryz.ntmps56
  go_wp2_with (fail)
  all_goals (try (go_ret; exact ⟨ret_bool (by rw [HALL.out]; simp [*]), HBW.out⟩))
  refine (C1.out _ HBW.out).mono ?_
  rintro e w1 ⟨rfl, hb1⟩
  have HB1 := hide (HBW.out.trans (hb1.mono HBW.out.size))
  have hb1' : Below (w.heap.size + 2) _ w1 := hb1.mono (by simp)
  have HC1 := hide hb1'
  obtain ⟨hx, hy⟩ := B1.out w1 hb1'
  obtain ⟨x0, x1, x2, x3, x4, x5, x6, x7, x8, x9, x10, x11, x12, x13, x14, x15, x16, x17, x18, x19, x20, x21, x22, x23, x24, x25, x26, x27, x28, x29, x30, x31, x32, x33⟩ := box34 hx
  obtain ⟨y0, y1, y2, y3, y4, y5, y6, y7, y8, y9, y10, y11, y12, y13, y14, y15, y16, y17, y18, y19, y20, y21, y22, y23, y24, y25, y26, y27, y28, y29, y30, y31, y32, y33⟩ := box34 hy
  clear hb1 hb1' hx hy x0 y0 x1 y1 x2 y2 x3 y3 x4 y4 x5 y5 x6 y6 x7 y7 x8 y8 x9 y9 x10 y10 x11 y11 x12 y12 x13 y13 x14 y14 x15 y15 x16 y16 x17 y17 x18 y18 x19 y19 x20 y20 x21 y21
  go_wp2_with (fail)
  all_goals (try (go_ret; exact ⟨ret_bool (by rw [HALL.out]; simp [*]), HB1.out⟩))
  clear x22 y22 x23 y23 x24 y24 x25 y25 x26 y26 x27 y27 x28 y28 x29 y29 x30 y30 x31 y31 x32 y32 x33 y33
  refine (C2.out _ HB1.out).mono ?_
  rintro e w2 ⟨rfl, hb2⟩
  have HB2 := hide (HB1.out.trans (hb2.mono HB1.out.size))
  have hs1 : w.heap.size + 2 ≤ w1.heap.size := by
    have := HC1.out.size
    simpa using this
  obtain ⟨hx, hy⟩ := B1.out w2 (HC1.out.trans (hb2.mono hs1))
  obtain ⟨x0, x1, x2, x3, x4, x5, x6, x7, x8, x9, x10, x11, x12, x13, x14, x15, x16, x17, x18, x19, x20, x21, x22, x23, x24, x25, x26, x27, x28, x29, x30, x31, x32, x33⟩ := box34 hx
  obtain ⟨y0, y1, y2, y3, y4, y5, y6, y7, y8, y9, y10, y11, y12, y13, y14, y15, y16, y17, y18, y19, y20, y21, y22, y23, y24, y25, y26, y27, y28, y29, y30, y31, y32, y33⟩ := box34 hy
  clear hb2 hs1 hx hy x0 y0 x1 y1 x2 y2 x3 y3 x4 y4 x5 y5 x6 y6 x7 y7 x8 y8 x9 y9 x10 y10 x11 y11 x12 y12 x13 y13 x14 y14 x15 y15 x16 y16 x17 y17 x18 y18 x19 y19 x20 y20 x21 y21 x22 y22 x23 y23 x24 y24 x25 y25 x26 y26 x27 y27 x28 y28 x29 y29 x30 y30 x31 y31 x32 y32
  go_wp2_with (fail)
  all_goals (try (go_ret; exact ⟨ret_bool (by rw [HALL.out]; simp [*]), HB2.out⟩))
  refine (C3.out _ HB2.out).mono ?_
  rintro e w3 ⟨rfl, q, rfl⟩
  go_wp2_with (fail)
  go_ret
  exact ⟨ret_bool (by rw [HALL.out]; simp [*]), HB2.out.trans (below_drewN _ _ _)⟩
end Go.Proofs.YtehiaeihkdfclaaGreatDoor
/- The document's Same of layer 9. -/
namespace Go.Proofs.YtehiaeihkdfclaaGreatDoor
open Go.RowKit

set_option maxHeartbeats 8000000 in
set_option maxRecDepth 100000 in
theorem rsame9_any (F G : Nat → Prop) (s o i s2 o2 i2 : Value) (x y : MsgD) (w : World) (hl : Lists F w x s o i) (hm : Lists G w y s2 o2 i2) :
    Calls Tryz.prog 23 #[.agg (x.cells s o i).toArray, .agg (y.cells s2 o2 i2).toArray] w fun e w' => e = .returned (.bool (decide (x = y))) ∧ Later w w' := by
  have hL : Later w ((w.alloc (.cells (x.cells s o i).toArray 35 (0, 0))).alloc (.cells (y.cells s2 o2 i2).toArray 35 (0, 0))) := (Later.alloc _ _).trans (Later.alloc _ _)
  have x0 : ((w.alloc (.cells (x.cells s o i).toArray 35 (0, 0))).alloc (.cells (y.cells s2 o2 i2).toArray 35 (0, 0))).heap[w.heap.size]? = some (.cells (x.cells s o i).toArray 35 (0, 0)) := (Below.block (Later.alloc _ _) _ (by rw [World.size_alloc]; omega)).trans (heap_alloc_new w _)
  have x1 : ((w.alloc (.cells (x.cells s o i).toArray 35 (0, 0))).alloc (.cells (y.cells s2 o2 i2).toArray 35 (0, 0))).heap[w.heap.size + 1]? = some (.cells (y.cells s2 o2 i2).toArray 35 (0, 0)) := by
    have h := heap_alloc_new (w.alloc (.cells (x.cells s o i).toArray 35 (0, 0))) (.cells (y.cells s2 o2 i2).toArray 35 (0, 0))
    rwa [World.size_alloc] at h
  have C := hide (same_any F G s o i s2 o2 i2 x y _ (hl.kept (Kept.of_below hL F)) (hm.kept (Kept.of_below hL G)))
  have X0 := hide x0
  have X1 := hide x1
  have HL := hide hL
  clear hl hm hL x0 x1
  go_enter Tryz.func23, Tryz.ntmps23
  go_wp2_with (first
    | (refine wpList_load_box (by rfl) 35 _ (by rfl) w.heap.size 0 (by rfl) 35 _ X0.out 34 _ Tryz.underlying35 (by rfl) (by kernel_rfl) (x.cells s o i) (by simp [List.take_of_length_le (Nat.le_of_eq (x.len s o i))]) (x.len s o i) ?_)
    | (refine wpList_load_box (by rfl) 35 _ (by rfl) (w.heap.size + 1) 0 (by rfl) 35 _ X1.out 34 _ Tryz.underlying35 (by rfl) (by kernel_rfl) (y.cells s2 o2 i2) (by simp [List.take_of_length_le (Nat.le_of_eq (y.len s2 o2 i2))]) (y.len s2 o2 i2) ?_))
  refine C.out.mono ?_
  rintro e w1 ⟨rfl, l1⟩
  have L1 := hide (HL.out.trans (show Later _ w1 from l1))
  clear l1 C
  go_wp2
  go_ret
  exact ⟨rfl, L1.out⟩
end Go.Proofs.YtehiaeihkdfclaaGreatDoor
/- A long chain of '&&' over fields of two structs, one conjunct at a time: the frame is known by four of its slots alone. -/
namespace Go.Proofs.YtehiaeihkdfclaaGreatDoor
open Go.RowKit

/-- The frame: two addresses in slots 2 and 3, and what holds so far in slot k. -/
structure Fr (X Y : Value) (k : Nat) (c : Bool) (n : Nat) (a : Act) : Prop where
  x : a.tmps[2]? = some X
  y : a.tmps[3]? = some Y
  c : a.tmps[k]? = some (.bool c)
  n : a.tmps.size = n
  d : a.defers = []
theorem put_tmps (a : Act) (d : Nat) (v : Value) (i : Nat) : (a.put (some d) v).tmps[i]? = if d = i then (if i < a.tmps.size then some v else none) else a.tmps[i]? := by
  show (a.tmps.setIfInBounds d v)[i]? = _
  rw [Array.getElem?_setIfInBounds]
  by_cases h : d = i
  · subst h
    simp
  · simp [h]
theorem put_same (a : Act) (d : Nat) (v : Value) (h : d < a.tmps.size) : (a.put (some d) v).tmps[d]? = some v := by rw [put_tmps, if_pos rfl, if_pos h]
theorem put_other (a : Act) (d : Nat) (v : Value) (i : Nat) (h : d ≠ i) : (a.put (some d) v).tmps[i]? = a.tmps[i]? := by rw [put_tmps, if_neg h]
theorem put_size (a : Act) (d : Nat) (v : Value) : (a.put (some d) v).tmps.size = a.tmps.size := by simp [Act.put]
theorem eval_of {a : Act} {i : Nat} {v : Value} (h : a.tmps[i]? = some v) : a.eval (.tmp i) = v := by
  show a.tmps.getD i undef = v
  rw [Array.getD_eq_getD_getElem?, h]
  rfl
/-- The same without a word of what holds so far. -/
structure Fr0 (X Y : Value) (n : Nat) (a : Act) : Prop where
  x : a.tmps[2]? = some X
  y : a.tmps[3]? = some Y
  n : a.tmps.size = n
  d : a.defers = []
section
variable {X Y : Value} {k n : Nat} {c : Bool} {a : Act}
theorem Fr0.put (h : Fr0 X Y n a) (d : Nat) (v : Value) (h2 : d ≠ 2) (h3 : d ≠ 3) : Fr0 X Y n (a.put (some d) v) := ⟨(put_other a d v 2 h2).trans h.x, (put_other a d v 3 h3).trans h.y, (put_size a d v).trans h.n, h.d⟩
theorem Fr.put (h : Fr X Y k c n a) (d : Nat) (v : Value) (h2 : d ≠ 2) (h3 : d ≠ 3) (hk : d ≠ k) : Fr X Y k c n (a.put (some d) v) :=
  ⟨(put_other a d v 2 h2).trans h.x, (put_other a d v 3 h3).trans h.y, (put_other a d v k hk).trans h.c, (put_size a d v).trans h.n, h.d⟩
variable {P : Program} {ops : Array Oper} {Q : Exit → Act → World → Prop} {rest : List Oper} {w : World}
theorem wpList_val {o : Oper} {d : Nat} {v : Value} {w' : World} (hd : o.dst = some d) (hw : Region.wanted o (yielded ops a.tmps) = true) (hx : (execOp a.eval o).run P w = .ok (.value v) w')
    (h : wpList P ops Q rest (a.put (some d) v) w') : wpList P ops Q (o :: rest) a w := by
  refine wpList_step fun K hK => ?_
  rw [if_pos hw]
  unfold Oper.wp
  rw [hx, Oper.upon_value, hd]
  exact hK _ _ h
theorem want_true {o : Oper} {j : Nat} {k : Nat} (hg : o.guard = some (j, true)) (hj : (ops[j]?).bind (·.dst) = some k) (hk : a.tmps[k]? = some (.bool true)) : Region.wanted o (yielded ops a.tmps) = true := by
  unfold Region.wanted yielded
  rw [hg]
  simp only [hj, Option.bind_some, hk]
  rfl
theorem want_false {o : Oper} {j : Nat} {k : Nat} (hg : o.guard = some (j, true)) (hj : (ops[j]?).bind (·.dst) = some k) (hk : a.tmps[k]? = some (.bool false)) : Region.wanted o (yielded ops a.tmps) = false := by
  unfold Region.wanted yielded
  rw [hg]
  simp only [hj, Option.bind_some, hk]
  rfl
theorem want_none {o : Oper} (hg : o.guard = none) : Region.wanted o (yielded ops a.tmps) = true := by
  unfold Region.wanted
  rw [hg]
theorem skip_one {o : Oper} {j d : Nat} (h : Fr X Y k false n a) (hj : (ops[j]?).bind (·.dst) = some k) (hd : o.dst = some d) (hg : o.guard = some (j, true)) (h2 : d ≠ 2) (h3 : d ≠ 3) (hk : d ≠ k)
    (next : ∀ a', Fr X Y k false n a' → wpList P ops Q rest a' w) : wpList P ops Q (o :: rest) a w := by
  refine wpList_skip (want_false hg hj h.c) ?_
  rw [hd]
  exact next _ (h.put d undef h2 h3 hk)

/-- One conjunct: the operations at slots s to s + 4 are wanted just if all holds so far; then the pick, then a move. -/
theorem conj {q : Bool} {s : Nat} {W : World → Prop} (j t : Nat) (h : Fr X Y k c n a) (hj : (ops[j]?).bind (·.dst) = some k) (hs : k < s) (hs3 : 3 < s) (hn : s + 6 ≤ n) (ht : 3 < t) (htn : t < n) (hW : W w)
    {o1 o2 o3 o4 o5 o6 o7 : Oper} {px py vx vy : Value}
    (g1 : o1.dst = some s ∧ o1.guard = some (j, true)) (g2 : o2.dst = some (s + 1) ∧ o2.guard = some (j, true)) (g3 : o3.dst = some (s + 2) ∧ o3.guard = some (j, true)) (g4 : o4.dst = some (s + 3) ∧ o4.guard = some (j, true)) (g5 : o5.dst = some (s + 4) ∧ o5.guard = some (j, true))
    (g6 : o6.op = .pick (.tmp k) (.tmp (s + 4)) (.const (.bool false)) ∧ o6.dst = some (s + 5) ∧ o6.guard = none) (g7 : (o7.op = .move (.tmp (s + 5)) ∨ o7.op = .assign (.tmp (s + 5))) ∧ o7.dst = some t ∧ o7.guard = none)
    (e1 : ∀ a' : Act, a'.tmps[2]? = some X → (execOp a'.eval o1).run P w = .ok (.value px) w)
    (e2 : ∀ a' : Act, a'.tmps[s]? = some px → (execOp a'.eval o2).run P w = .ok (.value vx) w)
    (e3 : ∀ a' : Act, a'.tmps[3]? = some Y → (execOp a'.eval o3).run P w = .ok (.value py) w)
    (e4 : ∀ a' : Act, a'.tmps[(s + 2)]? = some py → (execOp a'.eval o4).run P w = .ok (.value vy) w)
    (e5 : ∀ (a' : Act) (r : List Oper), a'.tmps[(s + 1)]? = some vx → a'.tmps[(s + 3)]? = some vy → Region.wanted o5 (yielded ops a'.tmps) = true → (∀ w', W w' → wpList P ops Q r (a'.put (some (s + 4)) (.bool q)) w') → wpList P ops Q (o5 :: r) a' w)
    (next : ∀ a' w', Fr X Y t (c && q) n a' → W w' → wpList P ops Q rest a' w') : wpList P ops Q (o1 :: o2 :: o3 :: o4 :: o5 :: o6 :: o7 :: rest) a w := by
  have last : ∀ (a' : Act) (w' : World) (b : Bool), Fr X Y k c n a' → (c = true → a'.tmps[s + 4]? = some (.bool q)) → W w' → wpList P ops Q (o6 :: o7 :: rest) a' w' := by
    intro a' w' b h' hq hw'
    refine wpList_val (w' := w') (v := .bool (c && q)) g6.2.1 (want_none g6.2.2) ?_ ?_
    · unfold execOp
      simp only [g6.1, eval_of h'.c]
      cases c with
      | false => rfl
      | true =>
        simp only [eval_of (hq rfl)]
        rfl
    · refine wpList_val (w' := w') (v := .bool (c && q)) g7.2.1 (want_none g7.2.2) ?_ ?_
      · unfold execOp
        rcases g7.1 with g | g <;> (simp only [g, eval_of (put_same a' (s + 5) (.bool (c && q)) (by have := h'.n; omega))]; rfl)
      · have h5 := h'.put (s + 5) (.bool (c && q)) (by omega) (by omega) (by omega)
        exact next _ _ ⟨(put_other _ t _ 2 (by omega)).trans h5.x, (put_other _ t _ 3 (by omega)).trans h5.y, put_same _ _ _ (by have := h5.n; omega), (put_size _ _ _).trans h5.n, h5.d⟩ hw'
  cases c with
  | false =>
    refine skip_one h hj g1.1 g1.2 (by omega) (by omega) (by omega) fun a1 h1 => ?_
    refine skip_one h1 hj g2.1 g2.2 (by omega) (by omega) (by omega) fun a2 h2 => ?_
    refine skip_one h2 hj g3.1 g3.2 (by omega) (by omega) (by omega) fun a3 h3 => ?_
    refine skip_one h3 hj g4.1 g4.2 (by omega) (by omega) (by omega) fun a4 h4 => ?_
    refine skip_one h4 hj g5.1 g5.2 (by omega) (by omega) (by omega) fun a5 h5 => ?_
    exact last a5 w false h5 (fun h => by cases h) hW
  | true =>
    have sz := h.n
    refine wpList_val g1.1 (want_true g1.2 hj h.c) (e1 a h.x) ?_
    have h1 := h.put s px (by omega) (by omega) (by omega)
    have t1 : (a.put (some s) px).tmps[s]? = some px := put_same a s px (by omega)
    refine wpList_val g2.1 (want_true g2.2 hj h1.c) (e2 _ t1) ?_
    have h2 := h1.put (s + 1) vx (by omega) (by omega) (by omega)
    have t2 := put_same (a.put (some s) px) (s + 1) vx (by have := h1.n; omega)
    refine wpList_val g3.1 (want_true g3.2 hj h2.c) (e3 _ h2.y) ?_
    have h3 := h2.put (s + 2) py (by omega) (by omega) (by omega)
    have t3 := put_same ((a.put (some s) px).put (some (s + 1)) vx) (s + 2) py (by have := h2.n; omega)
    have t2' := (put_other ((a.put (some s) px).put (some (s + 1)) vx) (s + 2) py (s + 1) (by omega)).trans t2
    refine wpList_val g4.1 (want_true g4.2 hj h3.c) (e4 _ t3) ?_
    have h4 := h3.put (s + 3) vy (by omega) (by omega) (by omega)
    have t4 := put_same (((a.put (some s) px).put (some (s + 1)) vx).put (some (s + 2)) py) (s + 3) vy (by have := h3.n; omega)
    have t2'' := (put_other (((a.put (some s) px).put (some (s + 1)) vx).put (some (s + 2)) py) (s + 3) vy (s + 1) (by omega)).trans t2'
    refine e5 _ _ t2'' t4 (want_true g5.2 hj h4.c) fun w' hw' => ?_
    have h5 := h4.put (s + 4) (.bool q) (by omega) (by omega) (by omega)
    exact last _ w' true h5 (fun _ => put_same _ _ _ (by have := h4.n; omega)) hw'
/-- One conjunct over fields of fields: the operations at slots s to s + 6 are wanted just if all holds so far; then the pick, then a move. -/
theorem conj2 {q : Bool} {s : Nat} {W : World → Prop} (j t : Nat) (h : Fr X Y k c n a) (hj : (ops[j]?).bind (·.dst) = some k) (hs : k < s) (hs3 : 3 < s) (hn : s + 8 ≤ n) (ht : 3 < t) (htn : t < n) (hW : W w)
    {o1 o1' o2 o3 o3' o4 o5 o6 o7 : Oper} {px px' py py' vx vy : Value}
    (g1 : o1.dst = some s ∧ o1.guard = some (j, true)) (g1' : o1'.dst = some (s + 1) ∧ o1'.guard = some (j, true)) (g2 : o2.dst = some (s + 2) ∧ o2.guard = some (j, true)) (g3 : o3.dst = some (s + 3) ∧ o3.guard = some (j, true)) (g3' : o3'.dst = some (s + 4) ∧ o3'.guard = some (j, true)) (g4 : o4.dst = some (s + 5) ∧ o4.guard = some (j, true)) (g5 : o5.dst = some (s + 6) ∧ o5.guard = some (j, true))
    (g6 : o6.op = .pick (.tmp k) (.tmp (s + 6)) (.const (.bool false)) ∧ o6.dst = some (s + 7) ∧ o6.guard = none) (g7 : (o7.op = .move (.tmp (s + 7)) ∨ o7.op = .assign (.tmp (s + 7))) ∧ o7.dst = some t ∧ o7.guard = none)
    (e1 : ∀ a' : Act, a'.tmps[2]? = some X → (execOp a'.eval o1).run P w = .ok (.value px) w)
    (e1' : ∀ a' : Act, a'.tmps[s]? = some px → (execOp a'.eval o1').run P w = .ok (.value px') w)
    (e2 : ∀ a' : Act, a'.tmps[s + 1]? = some px' → (execOp a'.eval o2).run P w = .ok (.value vx) w)
    (e3 : ∀ a' : Act, a'.tmps[3]? = some Y → (execOp a'.eval o3).run P w = .ok (.value py) w)
    (e3' : ∀ a' : Act, a'.tmps[s + 3]? = some py → (execOp a'.eval o3').run P w = .ok (.value py') w)
    (e4 : ∀ a' : Act, a'.tmps[s + 4]? = some py' → (execOp a'.eval o4).run P w = .ok (.value vy) w)
    (e5 : ∀ (a' : Act) (r : List Oper), a'.tmps[(s + 2)]? = some vx → a'.tmps[(s + 5)]? = some vy → Region.wanted o5 (yielded ops a'.tmps) = true → (∀ w', W w' → wpList P ops Q r (a'.put (some (s + 6)) (.bool q)) w') → wpList P ops Q (o5 :: r) a' w)
    (next : ∀ a' w', Fr X Y t (c && q) n a' → W w' → wpList P ops Q rest a' w') : wpList P ops Q (o1 :: o1' :: o2 :: o3 :: o3' :: o4 :: o5 :: o6 :: o7 :: rest) a w := by
  have last : ∀ (a' : Act) (w' : World) (b : Bool), Fr X Y k c n a' → (c = true → a'.tmps[s + 6]? = some (.bool q)) → W w' → wpList P ops Q (o6 :: o7 :: rest) a' w' := by
    intro a' w' b h' hq hw'
    refine wpList_val (w' := w') (v := .bool (c && q)) g6.2.1 (want_none g6.2.2) ?_ ?_
    · unfold execOp
      simp only [g6.1, eval_of h'.c]
      cases c with
      | false => rfl
      | true =>
        simp only [eval_of (hq rfl)]
        rfl
    · refine wpList_val (w' := w') (v := .bool (c && q)) g7.2.1 (want_none g7.2.2) ?_ ?_
      · unfold execOp
        rcases g7.1 with g | g <;> (simp only [g, eval_of (put_same a' (s + 7) (.bool (c && q)) (by have := h'.n; omega))]; rfl)
      · have h5 := h'.put (s + 7) (.bool (c && q)) (by omega) (by omega) (by omega)
        exact next _ _ ⟨(put_other _ t _ 2 (by omega)).trans h5.x, (put_other _ t _ 3 (by omega)).trans h5.y, put_same _ _ _ (by have := h5.n; omega), (put_size _ _ _).trans h5.n, h5.d⟩ hw'
  cases c with
  | false =>
    refine skip_one h hj g1.1 g1.2 (by omega) (by omega) (by omega) fun a1 h1 => ?_
    refine skip_one h1 hj g1'.1 g1'.2 (by omega) (by omega) (by omega) fun b1 hb1 => ?_
    refine skip_one hb1 hj g2.1 g2.2 (by omega) (by omega) (by omega) fun a2 h2 => ?_
    refine skip_one h2 hj g3.1 g3.2 (by omega) (by omega) (by omega) fun a3 h3 => ?_
    refine skip_one h3 hj g3'.1 g3'.2 (by omega) (by omega) (by omega) fun b3 hb3 => ?_
    refine skip_one hb3 hj g4.1 g4.2 (by omega) (by omega) (by omega) fun a4 h4 => ?_
    refine skip_one h4 hj g5.1 g5.2 (by omega) (by omega) (by omega) fun a5 h5 => ?_
    exact last a5 w false h5 (fun h => by cases h) hW
  | true =>
    have sz := h.n
    refine wpList_val g1.1 (want_true g1.2 hj h.c) (e1 a h.x) ?_
    have h1 := h.put s px (by omega) (by omega) (by omega)
    have t1 : (a.put (some s) px).tmps[s]? = some px := put_same a s px (by omega)
    generalize a.put (some s) px = a1 at t1 h1 ⊢
    refine wpList_val g1'.1 (want_true g1'.2 hj h1.c) (e1' _ t1) ?_
    have tb1 := put_same a1 (s + 1) px' (by have := h1.n; omega)
    have hb1 := h1.put (s + 1) px' (by omega) (by omega) (by omega)
    generalize a1.put (some (s + 1)) px' = b1 at tb1 hb1 ⊢
    refine wpList_val g2.1 (want_true g2.2 hj hb1.c) (e2 _ tb1) ?_
    have t2 := put_same b1 (s + 2) vx (by have := hb1.n; omega)
    have h2 := hb1.put (s + 2) vx (by omega) (by omega) (by omega)
    generalize b1.put (some (s + 2)) vx = a2 at t2 h2 ⊢
    refine wpList_val g3.1 (want_true g3.2 hj h2.c) (e3 _ h2.y) ?_
    have t3 := put_same a2 (s + 3) py (by have := h2.n; omega)
    have u3 := (put_other a2 (s + 3) py (s + 2) (by omega)).trans t2
    have h3 := h2.put (s + 3) py (by omega) (by omega) (by omega)
    generalize a2.put (some (s + 3)) py = a3 at t3 u3 h3 ⊢
    refine wpList_val g3'.1 (want_true g3'.2 hj h3.c) (e3' _ t3) ?_
    have tb3 := put_same a3 (s + 4) py' (by have := h3.n; omega)
    have ub3 := (put_other a3 (s + 4) py' (s + 2) (by omega)).trans u3
    have hb3 := h3.put (s + 4) py' (by omega) (by omega) (by omega)
    generalize a3.put (some (s + 4)) py' = b3 at tb3 ub3 hb3 ⊢
    refine wpList_val g4.1 (want_true g4.2 hj hb3.c) (e4 _ tb3) ?_
    have t4 := put_same b3 (s + 5) vy (by have := hb3.n; omega)
    have u4 := (put_other b3 (s + 5) vy (s + 2) (by omega)).trans ub3
    have h4 := hb3.put (s + 5) vy (by omega) (by omega) (by omega)
    generalize b3.put (some (s + 5)) vy = a4 at t4 u4 h4 ⊢
    refine e5 _ _ u4 t4 (want_true g5.2 hj h4.c) fun w' hw' => ?_
    have h5 := h4.put (s + 6) (.bool q) (by omega) (by omega) (by omega)
    exact last _ w' true h5 (fun _ => put_same _ _ _ (by have := h4.n; omega)) hw'
/-- The first conjunct, that is always wanted: no pick. -/
theorem conj_first {q : Bool} {s : Nat} (hx : a.tmps[2]? = some X) (hy : a.tmps[3]? = some Y) (hsz : a.tmps.size = n) (hd : a.defers = []) (hs3 : 3 < s) (hn : s + 5 < n)
    {o1 o2 o3 o4 o5 o6 : Oper} {px py vx vy : Value}
    (g1 : o1.dst = some s ∧ o1.guard = none) (g2 : o2.dst = some (s + 1) ∧ o2.guard = none) (g3 : o3.dst = some (s + 2) ∧ o3.guard = none) (g4 : o4.dst = some (s + 3) ∧ o4.guard = none) (g5 : o5.dst = some (s + 4) ∧ o5.guard = none)
    (g6 : o6.op = .move (.tmp (s + 4)) ∧ o6.dst = some (s + 5) ∧ o6.guard = none)
    (e1 : ∀ a' : Act, a'.tmps[2]? = some X → (execOp a'.eval o1).run P w = .ok (.value px) w)
    (e2 : ∀ a' : Act, a'.tmps[s]? = some px → (execOp a'.eval o2).run P w = .ok (.value vx) w)
    (e3 : ∀ a' : Act, a'.tmps[3]? = some Y → (execOp a'.eval o3).run P w = .ok (.value py) w)
    (e4 : ∀ a' : Act, a'.tmps[(s + 2)]? = some py → (execOp a'.eval o4).run P w = .ok (.value vy) w)
    (e5 : ∀ a' : Act, a'.tmps[(s + 1)]? = some vx → a'.tmps[(s + 3)]? = some vy → (execOp a'.eval o5).run P w = .ok (.value (.bool q)) w)
    (next : ∀ a', Fr X Y (s + 5) q n a' → wpList P ops Q rest a' w) : wpList P ops Q (o1 :: o2 :: o3 :: o4 :: o5 :: o6 :: rest) a w := by
  have h0 : Fr0 X Y n a := ⟨hx, hy, hsz, hd⟩
  refine wpList_val g1.1 (want_none g1.2) (e1 a h0.x) ?_
  have t1 := put_same a s px (by have := h0.n; omega)
  have h1 := h0.put s px (by omega) (by omega)
  generalize a.put (some s) px = a1 at t1 h1 ⊢
  refine wpList_val g2.1 (want_none g2.2) (e2 _ t1) ?_
  have t2 := put_same a1 (s + 1) vx (by have := h1.n; omega)
  have h2 := h1.put (s + 1) vx (by omega) (by omega)
  generalize a1.put (some (s + 1)) vx = a2 at t2 h2 ⊢
  refine wpList_val g3.1 (want_none g3.2) (e3 _ h2.y) ?_
  have t3 := put_same a2 (s + 2) py (by have := h2.n; omega)
  have t2' := (put_other a2 (s + 2) py (s + 1) (by omega)).trans t2
  have h3 := h2.put (s + 2) py (by omega) (by omega)
  generalize a2.put (some (s + 2)) py = a3 at t3 t2' h3 ⊢
  refine wpList_val g4.1 (want_none g4.2) (e4 _ t3) ?_
  have t4 := put_same a3 (s + 3) vy (by have := h3.n; omega)
  have t2'' := (put_other a3 (s + 3) vy (s + 1) (by omega)).trans t2'
  have h4 := h3.put (s + 3) vy (by omega) (by omega)
  generalize a3.put (some (s + 3)) vy = a4 at t4 t2'' h4 ⊢
  refine wpList_val g5.1 (want_none g5.2) (e5 _ t2'' t4) ?_
  have t5 := put_same a4 (s + 4) (.bool q) (by have := h4.n; omega)
  have h5 := h4.put (s + 4) (.bool q) (by omega) (by omega)
  generalize a4.put (some (s + 4)) (.bool q) = a5 at t5 h5 ⊢
  refine wpList_val (w' := w) (v := .bool q) g6.2.1 (want_none g6.2.2) ?_ ?_
  · unfold execOp
    simp only [g6.1, eval_of t5]
    rfl
  · have h6 := h5.put (s + 5) (.bool q) (by omega) (by omega)
    exact next _ ⟨h6.x, h6.y, put_same _ _ _ (by have := h5.n; omega), h6.n, h6.d⟩
end
end Go.Proofs.YtehiaeihkdfclaaGreatDoor
/- The walk over droverlaw09.NoteReads: the message, operation and definition of any bytes, or the error. -/
namespace Go.Proofs.YtehiaeihkdfclaaGreatDoor
open Go.RowKit

theorem later_box9 {w w2 : World} {X : Obj} (hg : (w.alloc X).grownBy w2 (some w.heap.size)) : Later w w2 := ((Below.refl _ _).alloc (Nat.le_refl _) _).grown hg (by simp) (fun k hk => by have := Option.some.inj hk; omega)

set_option maxHeartbeats 8000000 in
set_option maxRecDepth 100000 in
theorem law_reads (A : Option Addr) (n c : Nat) (l : List Nat) (w : World) (hl : Holds w w.heap.size A n l) (hn : n ≤ 140737488355328) (hc : n ≤ c) (hT : Tab w) :
    Calls Tryz.prog 4 #[.slice A n c] w fun e w' => e = .returned (.bool true) ∧ Later w w' := by
  have HH : Hid (∀ w', Later w w' → Holds w' w'.heap.size A n l) := fun w' h => hl.later h
  have HT : Hid (∀ w', Later w w' → Tab w') := fun w' h => hT.later h
  by_cases h3 : 3000 < n
  · have h3d : decide (3000 < (n : Int)) = true := by simp; omega
    have E := hide (lives_any (HT.out _ (Below.refl _ _)))
    clear hl hT
    go_enter Tryz.func4, Tryz.ntmps4
    go_wp2_with (fail)
    refine E.out.mono ?_
    rintro e w1 ⟨rfl, hl1⟩
    have HL1 := hide hl1
    clear hl1 E
    go_wp2
    go_ret
    exact ⟨rfl, HL1.out⟩
  · have h3d : decide (3000 < (n : Int)) = false := by simp; omega
    have hlen := hl.1
    have hsm := hl.2.1
    have C1 := hide (readmsg_any hl (by omega) hc hT)
    have C2 : Hid (∀ w', Later w w' → Calls Tryz.prog 18 #[.slice A n c] w' fun e w'' => ∃ sv ov iv, e = .returned (.tuple #[.agg ((readM l).2.cells sv ov iv).toArray, .int .i64 ((readM l).1 : Nat)]) ∧ Lists (fun _ => True) w'' (readM l).2 sv ov iv ∧ Later w' w'') := fun w' h => by
      have h1 := rreadm_any (HH.out w' h) (by omega) hc
      rw [readMQ_eq hsm (by omega)] at h1
      exact h1
    have C3 : Hid (∀ w', Later w w' → Calls Tryz.prog 19 #[.slice A n c] w' (GotOp w' (readOp l))) := fun w' h => readOp_any (HH.out w' h) (by omega) hc
    have C4 : Hid (∀ w', Later w w' → Calls Tryz.prog 20 #[.slice A n c] w' fun e w'' => ∃ sv, e = .returned (.tuple #[.agg ((readOp l).2.cells sv).toArray, .int .i64 ((readOp l).1 : Nat)]) ∧ StepsAt (w'.heap.size ≤ ·) w'' sv (readOp l).2.steps ∧ Later w' w'') := fun w' h => by
      have h1 := rreadop_any (HH.out w' h) (by omega) hc
      rw [readOpQ_eq hsm (by omega)] at h1
      exact h1
    have C5 : Hid (∀ w', Later w w' → Calls Tryz.prog 21 #[.slice A n c] w' (GotDef w' (readDef l))) := fun w' h => readDef_any (HH.out w' h) (by omega) hc
    have C6 : Hid (∀ w', Later w w' → Calls Tryz.prog 22 #[.slice A n c] w' fun e w'' => ∃ sv, e = .returned (.tuple #[.agg #[.string (readDef l).2.name, sv], .int .i64 ((readDef l).1 : Nat)]) ∧ StepsAt (w'.heap.size ≤ ·) w'' sv (readDef l).2.steps ∧ Later w' w'') := fun w' h => by
      have h1 := rreaddef_any (HH.out w' h) (by omega) hc
      rw [readDefQ_eq hsm (by omega)] at h1
      exact h1
    generalize readM l = qm at C1 C2
    generalize readOp l = qo at C3 C4
    generalize readDef l = qd at C5 C6
    obtain ⟨em, M⟩ := qm
    obtain ⟨eo, O⟩ := qo
    obtain ⟨ed, D⟩ := qd
    simp only at C2 C4 C6
    clear hl hT hlen hsm
    go_enter Tryz.func4, Tryz.ntmps4
    go_wp2_with (fail)
    refine C1.out.mono ?_
    rintro e w1 ⟨m', er', s1, o1, i1, hm, her, rfl, hL1, hl1⟩
    have hm2 : M = m' := hm.symm
    have her2 : em = er' := her.symm
    subst hm2 her2
    clear hm her
    have HLw1 : Hid (Later w w1) := hl1
    have HB1 : Hid (Lists (fun _ => True) w1 M s1 o1 i1) := hL1.mono (fun _ _ _ => trivial)
    have HZ1 : Hid ((w1.alloc (.cells zMsg 35 (0, 0))).heap[w1.heap.size]? = some (.cells zMsg 35 (0, 0))) := heap_alloc_new _ _
    have H11 := hide (hL1.cell)
    go_wp2_with (refine wpList_store_box (by rfl) 35 _ _ (by rfl) w1.heap.size 0 ((M.cells s1 o1 i1).toArray) (by rfl) (by rfl) 35 zMsg HZ1.out (by kernel_rfl) (by exact Nat.le_of_ble_eq_true rfl) (by exact MsgD.one _ H11.out.1 H11.out.2.1 H11.out.2.2) ?_; intro v1 hb1 hg1; rw [put_m0] at hb1)
    have HV1 : Hid (Later w1 v1) := later_box9 hg1
    have HX1 : Hid (∀ w', Later v1 w' → w'.heap[w1.heap.size]? = some (.cells ((M.cells s1 o1 i1).toArray) 35 (0, 0))) := fun w' h => (Below.block h w1.heap.size (lt_of_block hb1)).trans hb1
    have HS1 : Hid (∀ w', Later v1 w' → Lists (fun _ => True) w' M s1 o1 i1) := fun w' h => HB1.out.kept (Kept.of_below (HV1.out.trans h) _)
    have HLv1 : Hid (Later w v1) := HLw1.out.trans HV1.out
    clear hb1 hg1 HB1 HZ1
    clear hL1 hl1
    refine (C2.out _ HLv1.out).mono ?_
    rintro e w2 ⟨s2, o2, i2, rfl, hL2, hl2⟩
    have HQ2 : Hid (Later v1 w2) := hl2
    have HLw2 : Hid (Later w w2) := HLv1.out.trans hl2
    have HB2 : Hid (Lists (fun _ => True) w2 M s2 o2 i2) := hL2
    have HZ2 : Hid ((w2.alloc (.cells zMsg 35 (0, 0))).heap[w2.heap.size]? = some (.cells zMsg 35 (0, 0))) := heap_alloc_new _ _
    have H12 := hide (hL2.cell)
    go_wp2_with (refine wpList_store_box (by rfl) 35 _ _ (by rfl) w2.heap.size 0 ((M.cells s2 o2 i2).toArray) (by rfl) (by rfl) 35 zMsg HZ2.out (by kernel_rfl) (by exact Nat.le_of_ble_eq_true rfl) (by exact MsgD.one _ H12.out.1 H12.out.2.1 H12.out.2.2) ?_; intro v2 hb2 hg2; rw [put_m0] at hb2)
    have HV2 : Hid (Later w2 v2) := later_box9 hg2
    have HX2 : Hid (∀ w', Later v2 w' → w'.heap[w2.heap.size]? = some (.cells ((M.cells s2 o2 i2).toArray) 35 (0, 0))) := fun w' h => (Below.block h w2.heap.size (lt_of_block hb2)).trans hb2
    have HS2 : Hid (∀ w', Later v2 w' → Lists (fun _ => True) w' M s2 o2 i2) := fun w' h => HB2.out.kept (Kept.of_below (HV2.out.trans h) _)
    have HLv2 : Hid (Later w v2) := HLw2.out.trans HV2.out
    clear hb2 hg2 HB2 HZ2
    clear hL2 hl2
    refine (C3.out _ HLv2.out).mono ?_
    rintro e w3 ⟨x', er', sA, sc, hm, her, rfl, hL3, hl3⟩
    have hm2 : O = x' := hm.symm
    have her2 : eo = er' := her.symm
    subst hm2 her2
    clear hm her
    obtain ⟨s3, hs3⟩ : ∃ s3, s3 = Value.slice sA O.steps.length sc := ⟨_, rfl⟩
    rw [show (Value.agg #[.int .i64 O.kind, .int .i64 O.client, .int .i64 O.request, .string O.name, .slice sA O.steps.length sc, .int .i64 O.saga, .int .i64 O.step, .int .i64 O.try_, .bool O.back, .bool O.good]) = .agg (O.cells s3).toArray from by rw [hs3]; rfl]
    rw [← hs3] at hL3
    clear hs3
    have HQ3 : Hid (Later v2 w3) := hl3
    have HLw3 : Hid (Later w w3) := HLv2.out.trans hl3
    have HB3 : Hid (StepsAt (fun _ => True) w3 s3 O.steps) := hL3.mono (fun _ _ _ => trivial)
    have HZ3 : Hid ((w3.alloc (.cells zop 26 (0, 0))).heap[w3.heap.size]? = some (.cells zop 26 (0, 0))) := heap_alloc_new _ _
    have H13 := hide (FlatAt.oneCell hL3)
    go_wp2_with (refine wpList_store_box (by rfl) 26 _ _ (by rfl) w3.heap.size 0 ((O.cells s3).toArray) (by rfl) (by rfl) 26 zop HZ3.out (by kernel_rfl) (by exact Nat.le_of_ble_eq_true rfl) (by exact O.one H13.out) ?_; intro v3 hb3 hg3; rw [put_zop] at hb3)
    have HV3 : Hid (Later w3 v3) := later_box9 hg3
    have HX3 : Hid (∀ w', Later v3 w' → w'.heap[w3.heap.size]? = some (.cells ((O.cells s3).toArray) 26 (0, 0))) := fun w' h => (Below.block h w3.heap.size (lt_of_block hb3)).trans hb3
    have HS3 : Hid (∀ w', Later v3 w' → StepsAt (fun _ => True) w' s3 O.steps) := fun w' h => HB3.out.kept (Kept.of_below (HV3.out.trans h) _)
    have HLv3 : Hid (Later w v3) := HLw3.out.trans HV3.out
    clear hb3 hg3 HB3 HZ3
    clear hL3 hl3
    refine (C4.out _ HLv3.out).mono ?_
    rintro e w4 ⟨s4, rfl, hL4, hl4⟩
    have HQ4 : Hid (Later v3 w4) := hl4
    have HLw4 : Hid (Later w w4) := HLv3.out.trans hl4
    have HB4 : Hid (StepsAt (fun _ => True) w4 s4 O.steps) := hL4.mono (fun _ _ _ => trivial)
    have HZ4 : Hid ((w4.alloc (.cells zop 26 (0, 0))).heap[w4.heap.size]? = some (.cells zop 26 (0, 0))) := heap_alloc_new _ _
    have H14 := hide (FlatAt.oneCell hL4)
    go_wp2_with (refine wpList_store_box (by rfl) 26 _ _ (by rfl) w4.heap.size 0 ((O.cells s4).toArray) (by rfl) (by rfl) 26 zop HZ4.out (by kernel_rfl) (by exact Nat.le_of_ble_eq_true rfl) (by exact O.one H14.out) ?_; intro v4 hb4 hg4; rw [put_zop] at hb4)
    have HV4 : Hid (Later w4 v4) := later_box9 hg4
    have HX4 : Hid (∀ w', Later v4 w' → w'.heap[w4.heap.size]? = some (.cells ((O.cells s4).toArray) 26 (0, 0))) := fun w' h => (Below.block h w4.heap.size (lt_of_block hb4)).trans hb4
    have HS4 : Hid (∀ w', Later v4 w' → StepsAt (fun _ => True) w' s4 O.steps) := fun w' h => HB4.out.kept (Kept.of_below (HV4.out.trans h) _)
    have HLv4 : Hid (Later w v4) := HLw4.out.trans HV4.out
    clear hb4 hg4 HB4 HZ4
    clear hL4 hl4
    refine (C5.out _ HLv4.out).mono ?_
    rintro e w5 ⟨x', er', sA, sc, hm, her, rfl, hL5, hl5⟩
    have hm2 : D = x' := hm.symm
    have her2 : ed = er' := her.symm
    subst hm2 her2
    clear hm her
    obtain ⟨s5, hs5⟩ : ∃ s5, s5 = Value.slice sA D.steps.length sc := ⟨_, rfl⟩
    rw [← hs5] at hL5 ⊢
    clear hs5
    have HQ5 : Hid (Later v4 w5) := hl5
    have HLw5 : Hid (Later w w5) := HLv4.out.trans hl5
    have HB5 : Hid (StepsAt (fun _ => True) w5 s5 D.steps) := hL5.mono (fun _ _ _ => trivial)
    have HZ5 : Hid ((w5.alloc (.cells zdef 24 (0, 0))).heap[w5.heap.size]? = some (.cells zdef 24 (0, 0))) := heap_alloc_new _ _
    have H15 := hide (FlatAt.oneCell hL5)
    go_wp2_with (refine wpList_store_box (by rfl) 24 _ _ (by rfl) w5.heap.size 0 ([.string D.name, s5].toArray) (by rfl) (by rfl) 24 zdef HZ5.out (by kernel_rfl) (by exact Nat.le_of_ble_eq_true rfl) (by intro u hu; simp at hu; rcases hu with rfl | rfl; rfl; exact H15.out) ?_; intro v5 hb5 hg5; rw [put_zdef] at hb5)
    have HV5 : Hid (Later w5 v5) := later_box9 hg5
    have HX5 : Hid (∀ w', Later v5 w' → w'.heap[w5.heap.size]? = some (.cells ([.string D.name, s5].toArray) 24 (0, 0))) := fun w' h => (Below.block h w5.heap.size (lt_of_block hb5)).trans hb5
    have HS5 : Hid (∀ w', Later v5 w' → StepsAt (fun _ => True) w' s5 D.steps) := fun w' h => HB5.out.kept (Kept.of_below (HV5.out.trans h) _)
    have HLv5 : Hid (Later w v5) := HLw5.out.trans HV5.out
    clear hb5 hg5 HB5 HZ5
    clear hL5 hl5
    refine (C6.out _ HLv5.out).mono ?_
    rintro e w6 ⟨s6, rfl, hL6, hl6⟩
    have HQ6 : Hid (Later v5 w6) := hl6
    have HLw6 : Hid (Later w w6) := HLv5.out.trans hl6
    have HB6 : Hid (StepsAt (fun _ => True) w6 s6 D.steps) := hL6.mono (fun _ _ _ => trivial)
    have HZ6 : Hid ((w6.alloc (.cells zdef 24 (0, 0))).heap[w6.heap.size]? = some (.cells zdef 24 (0, 0))) := heap_alloc_new _ _
    have H16 := hide (FlatAt.oneCell hL6)
    go_wp2_with (refine wpList_store_box (by rfl) 24 _ _ (by rfl) w6.heap.size 0 ([.string D.name, s6].toArray) (by rfl) (by rfl) 24 zdef HZ6.out (by kernel_rfl) (by exact Nat.le_of_ble_eq_true rfl) (by intro u hu; simp at hu; rcases hu with rfl | rfl; rfl; exact H16.out) ?_)
    intro v6 hb6 hg6
    rw [put_zdef] at hb6
    have HV6 : Hid (Later w6 v6) := later_box9 hg6
    have HX6 : Hid (∀ w', Later v6 w' → w'.heap[w6.heap.size]? = some (.cells ([.string D.name, s6].toArray) 24 (0, 0))) := fun w' h => (Below.block h w6.heap.size (lt_of_block hb6)).trans hb6
    have HS6 : Hid (∀ w', Later v6 w' → StepsAt (fun _ => True) w' s6 D.steps) := fun w' h => HB6.out.kept (Kept.of_below (HV6.out.trans h) _)
    have HLv6 : Hid (Later w v6) := HLw6.out.trans HV6.out
    clear hb6 hg6 HB6 HZ6
    clear hL6 hl6
    have e1 : ((em : Int) == (em : Int)) = true := by simp
    have e2 : ((eo : Int) == (eo : Int)) = true := by simp
    have e3 : ((ed : Int) == (ed : Int)) = true := by simp
    have hdm : decide (M = M) = true := by simp
    have hdo : decide (O = O) = true := by simp
    have hdd : decide (D.name = D.name ∧ D.steps = D.steps) = true := by simp
    have CS1 := hide (fun w' h1 h2 => rsame9_any _ _ s1 o1 i1 s2 o2 i2 M M w' (HS1.out w' h1) (HS2.out w' h2))
    have CS2 := hide (fun w' h1 h2 => same_op _ _ s3 s4 O O w' (HS3.out w' h1) (HS4.out w' h2))
    have CS3 := hide (fun w' h1 h2 => same_def _ _ D.name D.name s5 s6 D.steps D.steps w' (HS5.out w' h1) (HS6.out w' h2))
    rw [hdm] at CS1
    rw [hdo] at CS2
    rw [hdd] at CS3
    have Q5 : Hid (Later v5 v6) := HQ6.out.trans HV6.out
    have Q4 : Hid (Later v4 v6) := (HQ5.out.trans HV5.out).trans Q5.out
    have Q3 : Hid (Later v3 v6) := (HQ4.out.trans HV4.out).trans Q4.out
    have Q2 : Hid (Later v2 v6) := (HQ3.out.trans HV3.out).trans Q3.out
    have Q1 : Hid (Later v1 v6) := (HQ2.out.trans HV2.out).trans Q2.out
    have B1 := hide (HX1.out _ Q1.out)
    have B2 := hide (HX2.out _ Q2.out)
    clear hdm hdo hdd
    go_wp2_with (first
      | (refine wpList_val rfl (by rfl) (exec_load_box 35 _ (by rfl) w1.heap.size 0 (by rfl) 35 _ B1.out 34 _ Tryz.underlying35 (by rfl) (by kernel_rfl) (M.cells s1 o1 i1) (by rfl) (by rfl)) ?_)
      | (refine wpList_val rfl (by rfl) (exec_load_box 35 _ (by rfl) w2.heap.size 0 (by rfl) 35 _ B2.out 34 _ Tryz.underlying35 (by rfl) (by kernel_rfl) (M.cells s2 o2 i2) (by rfl) (by rfl)) ?_))
    refine (CS1.out _ Q1.out Q2.out).mono ?_
    rintro e x1 ⟨rfl, hx1⟩
    have X1 : Hid (Later v6 x1) := hx1
    have B3 := hide (HX3.out _ (Q3.out.trans hx1))
    have B4 := hide (HX4.out _ (Q4.out.trans hx1))
    clear hx1
    go_wp2_with (first
      | (refine wpList_val rfl (by rfl) (exec_load_box 26 _ (by rfl) w3.heap.size 0 (by rfl) 26 _ B3.out 10 _ Tryz.underlying26 (by rfl) (by kernel_rfl) (O.cells s3) (by rfl) (by rfl)) ?_)
      | (refine wpList_val rfl (by rfl) (exec_load_box 26 _ (by rfl) w4.heap.size 0 (by rfl) 26 _ B4.out 10 _ Tryz.underlying26 (by rfl) (by kernel_rfl) (O.cells s4) (by rfl) (by rfl)) ?_))
    refine (CS2.out _ (Q3.out.trans X1.out) (Q4.out.trans X1.out)).mono ?_
    rintro e x2 ⟨rfl, hx2⟩
    have X2 : Hid (Later v6 x2) := X1.out.trans hx2
    have B5 := hide (HX5.out _ (Q5.out.trans X2.out))
    have B6 := hide (HX6.out _ X2.out)
    clear hx2
    go_wp2_with (first
      | (refine wpList_val rfl (by rfl) (exec_load_box 24 _ (by rfl) w5.heap.size 0 (by rfl) 24 _ B5.out 2 _ Tryz.underlying24 (by rfl) (by kernel_rfl) [.string D.name, s5] (by rfl) (by rfl)) ?_)
      | (refine wpList_val rfl (by rfl) (exec_load_box 24 _ (by rfl) w6.heap.size 0 (by rfl) 24 _ B6.out 2 _ Tryz.underlying24 (by rfl) (by kernel_rfl) [.string D.name, s6] (by rfl) (by rfl)) ?_))
    refine (CS3.out _ (Q5.out.trans X2.out) X2.out).mono ?_
    rintro e x3 ⟨rfl, hx3⟩
    have X3 : Hid (Later v6 x3) := X2.out.trans hx3
    clear hx3
    go_wp2_with (fail)
    refine (lives_any (HT.out _ (HLv6.out.trans X3.out))).mono ?_
    rintro e x4 ⟨rfl, hx4⟩
    have X4 : Hid (Later w x4) := (HLv6.out.trans X3.out).trans hx4
    clear hx4
    go_wp2
    go_ret
    exact ⟨rfl, X4.out⟩
end Go.Proofs.YtehiaeihkdfclaaGreatDoor
namespace Go.Proofs.YtehiaeihkdfclaaGreatDoor
open Go.ChangeShapes Go.WideShapes Go.ChangeAt Go.RowKit

theorem noteReads_lawKnobs : ownKnob Tryz.prog.godebug = none := by kernel_rfl
theorem noteReads_allLaid : laidOutB Tryz.prog = true := by kernel_rfl

set_option maxRecDepth 100000 in
set_option maxHeartbeats 1000000 in
theorem noteReads_lifted (os : Os) (started : os.Started) (H : Type) (enc : TypeId × Value → H) :
    ReturnsInHanded {} Tryz.checked os 4 .any (fun w args => (Rows.noteReadsSpec.pre enc Tryz.prog Tryz.f4 Rows.noteReadsRow.domain false w args ∧ laidMetH Tryz.prog Rows.noteReadsRow.laid w) ∧ sizedMet enc Tryz.prog Tryz.f4 (OpenSpec.ofChange Rows.noteReadsSpec) false w args)
      (Rows.noteReadsSpec.post enc Tryz.prog Tryz.f4 false true false false) := by
  refine returnsInHanded_of_change_and (C := Tryz.checked) (X := fun w _ => laidMetH Tryz.prog Rows.noteReadsRow.laid w) (fun _ _ _ hh h => h.of_heap hh) noteReads_lawKnobs started (by kernel_rfl) Tryz.func4
    (ChangeSpec.witness_shaped (enc := enc) (C := Tryz.checked) (os := os) (X := fun w _ => laidMetH Tryz.prog Rows.noteReadsRow.laid w) false (World.doorLaid Tryz.prog 400 os) #[.slice none 0 0] 8 rfl (World.shaped_of_RefB (by kernel_rfl) (by kernel_rfl)) (by kernel_rfl) (by kernel_rfl) (by kernel_rfl) (tab_start os _)) ?_
  intro W base args ds gs before hval0 hW hcnd hsz0 hL _
  have hTab := tab_of_laid hL
  have hval : ∀ (j : Nat) t v, Tryz.f4.params[j]? = some t → args[j]? = some v → Value.okWide Tryz.prog W .any base t v := hval0
  have hW' := hW
  obtain ⟨p, q, hA0, hV, rfl, _, _⟩ := hW
  have hA : DataW.TrodAll enc Tryz.prog W 0 (fun _ => true) true Tryz.f4.params.toList args.toList ds p := hA0
  have hsz : (DataW.weightsEach Tryz.prog (Tryz.f4.params.toList ++ Rows.noteReadsSpec.plain.varTypes Tryz.prog) (ds ++ gs)).all (· ≤ reachBytes) = true := hsz0
  rw [Tryz.params4] at hA hval hsz
  obtain ⟨v0, vs0, d0, ds0, p0, q0, hargs, rfl, rfl, h0, r0⟩ := trodAll_cons hA
  obtain ⟨rfl, rfl, rfl⟩ := trodAll_nil r0
  obtain rfl : args = #[v0] := by cases args; simp_all
  obtain ⟨rfl, rfl⟩ := trodVars_none hV
  have k0 := h0
  have lt0 : ∀ x ∈ p0, x.block < W.heap.size := by obtain ⟨m, hm⟩ := k0; exact DataW.trod_lt m _ _ _ hm
  obtain ⟨a0, len0, cap0, rfl⟩ := okWide_slice Tryz.underlying38 (hval 0 38 v0 rfl rfl)
  obtain ⟨l0, hl0, hmax0⟩ := bytes_of_arg h0
  clear hA0 hval0 hL
  refine (law_reads a0 len0 cap0 l0 W hl0 (reach_of_arg (j := 0) hsz Tryz.underlying38 (of_decide_eq_true (by kernel_rfl)) k0 rfl rfl) (cap_of_arg Tryz.underlying38 k0).1 hTab).mono fun e W' ⟨he, bel0⟩ => ?_
  have bel : Below W.heap.size W W' := bel0
  subst he
  exact ⟨_, rfl, _, _, _, [], _, [], hW', trodAll_mk1 (shut_bool Tryz.underlying4 _), (trodAll_cons_mk (Below.trod noteReads_allLaid (by kernel_rfl) (of_decide_eq_true (by kernel_rfl)) k0 bel lt0) trodAll_mk0), rfl, bel.frame _, fun h => by cases h⟩

theorem noteReads_over : Rows.noteReadsRow.holds Tryz.pinned (OpenSpec.ofChange Rows.noteReadsSpec) :=
  OpenClaim.holds_of_wide 4 Tryz.f4 rfl rfl rfl rfl rfl rfl rfl ⟨rfl, rfl, rfl, rfl, rfl⟩ rfl rfl rfl rfl rfl (by kernel_rfl) Tryz.func4 (by kernel_rfl)
    (of_decide_eq_true (by kernel_rfl)) (by unfold Func.isWrapper; first | (rw [if_pos (by decide +kernel)]; kernel_rfl) | (rw [if_neg (by decide +kernel)]; exact ⟨rfl, rfl⟩))
    (fun os started H enc _ => noteReads_lifted os started H enc)

theorem noteReads_card : Rows.NoteReadsCardSaid :=
  Claim7.holds_tied_plain_at .later [] _ true _ false noteReads_over (fun _ h => by cases h) (by kernel_rfl) (fun _ h => by cases h) noteReads_row_tie rfl ⟨rfl, rfl⟩ (by kernel_rfl) rfl
    (fun f fn hf hfn => by
      obtain rfl : f = 4 := Option.some.inj ((show Tryz.prog.funcNamed "drover/droverlaw09.NoteReads" = some 4 by kernel_rfl).symm.trans hf) |>.symm
      obtain rfl : fn = Tryz.f4 := (Option.some.inj (Tryz.func4.symm.trans hfn)).symm
      exact ⟨by kernel_rfl, fun j t ht => by
        rw [Tryz.params4] at ht
        have hm : t ∈ [38] := by simpa using Array.mem_of_getElem? ht
        have hall : ([38].all fun u => !Tryz.prog.wantsStandIn u) = true := by kernel_rfl
        exact (show Tryz.prog.wantsStandIn t = false by simpa using List.all_eq_true.1 hall t hm)⟩)
    (by kernel_rfl)
#print axioms noteReads_card
end Go.Proofs.YtehiaeihkdfclaaGreatDoor
