/- The walk over droverlaw04.BagOwn: what is kept and told is new memory. -/
import Derived.Test.YtaimnhlpdkpobaaSpoil
import Derived.Test.YtaimnhlpdkpobaaChain
import Derived.Test.YtaimnhlpdkpobaaTake
import Derived.Test.YtaimnhlpdkpobaaSame
import Derived.Test.YtaimnhlpdkpobaaClears
namespace Go.Proofs.Ytaimnhlpdkpobaa
open Go.RowKit Go.Maps

set_option maxHeartbeats 2000000 in
set_option maxRecDepth 100000 in
theorem law_own (F : Nat → Prop) (m : MsgD) (s o i : Value) (w : World) (wm : m.wf) (hl : Lists F w m s o i) :
    Calls Try.prog 5 #[.agg (m.cells s o i).toArray] w fun e w' => e = .returned (.bool true) ∧ Below w.heap.size w w' := by
  obtain ⟨i0, hi, hz0, hz1, hz2⟩ := info_parts Try.infoAct
  have hz0i : I64 0 := ⟨by decide, by decide⟩
  obtain ⟨h1, h2, h3⟩ := hl.cell
  have HL := hide hl
  have WM := hide wm
  have H1 := hide h1
  have H2 := hide h2
  have H3 := hide h3
  have X0 : Hid ((w.alloc (.cells (m.cells s o i).toArray 42 (0, 0))).heap[w.heap.size]? = some (.cells (m.cells s o i).toArray 42 (0, 0))) := heap_alloc_new w _
  obtain ⟨w0, hw0⟩ : ∃ w0, w0 = w.alloc (.cells (m.cells s o i).toArray 42 (0, 0)) := ⟨_, rfl⟩
  have L0 : Hid (Below w.heap.size w w0) := by rw [hw0]; exact (Below.refl _ _).alloc (Nat.le_refl _) _
  have HW0 := hide hw0
  clear hl wm hw0 h1 h2 h3
  go_enter Try.func5, Try.ntmps5
  go_wp2_with (first
    | (refine wpList_load_box (by rfl) 42 _ (by rfl) (w.heap.size) 0 (by rfl) 42 _ (X0.out) 34 _ Try.underlying42 (by rfl) (by kernel_rfl) (m.cells s o i) (by rfl) (by rfl) ?_)
    | (refine wpList_build_one (by rfl) 44 2 _ (by rfl) (.agg (m.cells s o i).toArray) (by rfl) _ (built_act m s o i) ?_)
    | (refine wpList_buildSlice_one (by rfl) 22 44 _ (by rfl) i0 _ 36 Try.underlying22 hi hz0 hz1 (by decide) (by decide) (ActD.cells ⟨0, 0, m⟩ s o i).toArray (by rfl) (by rfl) ?_))
  have hlit : Below w0.heap.size w0 (w0.alloc (.cells (ActD.cells ⟨0, 0, m⟩ s o i).toArray 44 (0, 0))) := (Below.refl _ _).alloc (Nat.le_refl _) _
  have hx0 := X0.out
  have hs0 : w0.heap.size = w.heap.size + 1 := by rw [HW0.out]; simp
  have CL := light_any (fun _ => True) _ [⟨⟨0, 0, m⟩, s, o, i⟩] _ (acts_one (a := ⟨0, 0, m⟩) (HL.out.kept (Kept.of_below L0.out _)) hlit (heap_alloc_new w0 _)) (fun p hp => by rw [List.mem_singleton.1 hp]; exact ⟨hz0i, hz0i, WM.out⟩)
  rw [← HW0.out] at hx0 ⊢
  rw [hs0] at CL
  refine CL.mono ?_
  rintro e w1 ⟨bl, rfl, hok, hb1⟩
  have hL01 : Below w0.heap.size w0 w1 := hlit.trans (Below.mono hb1 (by simp))
  have LW : Hid (Below w.heap.size w w1) := L0.out.trans (hL01.mono L0.out.size)
  have X1 : Hid (w1.heap[w.heap.size]? = some (.cells (m.cells s o i).toArray 42 (0, 0))) := (hL01.block _ (lt_of_block hx0)).trans hx0
  have HOK := hide hok
  clear hok hb1 CL hlit hx0 hi hz0 hz1 hz2 hs0 hL01 X0 HW0 L0
  cases bl with
  | false =>
    go_wp2_with (fail)
    refine (lives_any _).mono ?_
    rintro e w2 ⟨rfl, hb2⟩
    have HB2 := hide (LW.out.trans (hb2.mono LW.out.size))
    clear hb2
    go_wp2
    go_ret
    exact ⟨rfl, HB2.out⟩
  | true =>
    have OX : Hid m.ok := (HOK.out rfl).2 ⟨⟨0, 0, m⟩, s, o, i⟩ (by simp)
    have PX : Hid (∀ w', Below w.heap.size w w' → Lists F w' m s o i) := fun w' hb => HL.out.kept (Kept.of_below hb _)
    clear HOK
    go_wp2_with (fail)
    refine (new_yes 3 w1 (by decide) (by decide)).mono ?_
    rintro e w2 ⟨g, b, rfl, hg, hb, hbl, hbag⟩
    have LW2 : Hid (Below w.heap.size w w2) := LW.out.trans (hbl.mono LW.out.size)
    have X2 : Hid (w2.heap[w.heap.size]? = some (.cells (m.cells s o i).toArray 42 (0, 0))) := (hbl.block _ (lt_of_block X1.out)).trans X1.out
    have hlx1 := lt_of_block X1.out
    have hsw1 := LW.out.size
    have hgb : g ≠ b ∧ g < w2.heap.size ∧ b < w2.heap.size := by
      have B := hbag (fun i => i ≠ g ∧ i ≠ b) (fun h => h.1 rfl) (fun h => h.2 rfl)
      exact ⟨B.apart.1, B.lt.1, B.lt.2⟩
    obtain ⟨hgb1, hgb2, hgb3⟩ := hgb
    have HBAG := hide hbag
    clear hbl hbag X1 LW
    go_wp2_with (refine wpList_load_box (by rfl) 42 _ (by rfl) (w.heap.size) 0 (by rfl) 42 _ (X2.out) 34 _ Try.underlying42 (by rfl) (by kernel_rfl) (m.cells s o i) (by rfl) (by rfl) ?_)
    refine (refcopy_own F m _ w2 ⟨s, o, i, rfl, PX.out w2 LW2.out⟩ OX.out.1 (by have := OX.out.2; omega)).mono ?_
    rintro e w3 ⟨s3, o3, i3, ps3, rfl, hf3, hb3⟩
    have hs23 := hb3.size
    have k1 : s3.oneCell' = true := FlatAt.oneCell hf3.1
    have k2 : o3.oneCell' = true := FlatAt.oneCell hf3.2.1.1
    have k3 : i3.oneCell' = true := FlatAt.oneCell hf3.2.2.2.1
    have OWN := hide hf3
    have HB3 := hide hb3
    have HZ : Hid ((w3.alloc (.cells zcells 42 (0, 0))).heap[w3.heap.size]? = some (.cells zcells 42 (0, 0))) := heap_alloc_new _ _
    clear hf3 hb3
    go_wp2_with (first
      | (refine wpList_store_box (by rfl) 42 _ _ (by rfl) (w3.heap.size) 0 ((m.cells s3 o3 i3).toArray) (by rfl) (by rfl) 42 (zcells) (HZ.out) (by kernel_rfl) (by exact Nat.le_of_ble_eq_true rfl) (by exact m.one k1 k2 k3) ?_; intro w4 hb4 hg4; rw [put_zmsg] at hb4)
      | (refine wpList_load_box (by rfl) 42 _ (by rfl) (w3.heap.size) 0 (by rfl) 42 _ (hb4) 34 _ Try.underlying42 (by rfl) (by kernel_rfl) (m.cells s3 o3 i3) (by rfl) (by rfl) ?_))
    have hs34 : w3.heap.size < w4.heap.size := lt_of_block hb4
    have T34 : Below w3.heap.size w3 w4 := ((Below.refl _ _).alloc (Nat.le_refl _) _).grown hg4 (by simp) (fun k hk => by have := Option.some.inj hk; omega)
    have B4 := (HBAG.out (fun i => w4.heap.size ≤ i) (by omega) (by omega)).later (HB3.out.trans (T34.mono hs23))
    have OW4 : Hid (MsgFree (fun j => w2.heap.size ≤ j ∧ j < w3.heap.size) w4 m s3 o3 i3 ps3) := (OWN.out.mono fun j hj h => ⟨h, hj⟩).kept (Kept.of_below T34 _)
    have LW4 : Hid (Below w.heap.size w w4) := LW2.out.trans ((HB3.out.trans (T34.mono hs23)).mono LW2.out.size)
    have X4 : Hid (w4.heap[w.heap.size]? = some (.cells (m.cells s o i).toArray 42 (0, 0))) := ((HB3.out.trans (T34.mono hs23)).block _ (lt_of_block X2.out)).trans X2.out
    have HB4 := hide hb4
    clear OWN HBAG T34 hb4 hg4 HZ
    refine (put_two m (.agg (m.cells s3 o3 i3).toArray) w4 B4 (by decide) (by decide) OW4.out.at_ (fun h => by have := h.1; omega) OX.out (fun i hi => hi)).mono ?_
    rintro e w5 ⟨v5, rfl, hbag5, ht5⟩
    have hs45 := ht5.size
    have X5 : Hid (w5.heap[w3.heap.size]? = some (.cells (m.cells s3 o3 i3).toArray 42 (0, 0))) := (ht5.block _ hs34 (by omega)).trans HB4.out
    have OW5 : Hid (MsgFree (fun j => w2.heap.size ≤ j ∧ j < w3.heap.size) w5 m s3 o3 i3 ps3) := OW4.out.kept (ht5.kept fun j hj e => by have := hj.1; omega)
    have HT5 := hide ht5
    have BAG5 := hide hbag5
    clear hbag5 ht5 B4 OW4
    go_wp2_with (refine wpList_load_box (by rfl) 42 _ (by rfl) (w3.heap.size) 0 (by rfl) 42 _ (X5.out) 34 _ Try.underlying42 (by rfl) (by kernel_rfl) (m.cells s3 o3 i3) (by rfl) (by rfl) ?_)
    refine (spoil_any (fun j => w2.heap.size ≤ j ∧ j < w3.heap.size) m s3 o3 i3 ps3 w5 OW5.out.1 OW5.out.2.1 OW5.out.2.2.2.1 OW5.out.2.2.2.2.1 OW5.out.2.2.2.2.2.1 OW5.out.2.2.2.2.2.2.1 OW5.out.2.2.2.2.2.2.2 (fun j hj => by have := hj.2; omega)).mono ?_
    rintro e w6 ⟨rfl, ht6⟩
    have BAG6 := hide (BAG5.out.kept (ht6.kept fun j hj e => by have := e.2; rcases hj with rfl | rfl | hj <;> omega))
    have hs56 := ht6.size
    have hlw2 := lt_of_block X2.out
    have X6 : Hid (w6.heap[w.heap.size]? = some (.cells (m.cells s o i).toArray 42 (0, 0))) := (ht6.block _ (by omega) (fun e => by have := e.1; omega)).trans ((HT5.out.block _ (by omega) (by omega)).trans X4.out)
    have LW6 : Hid (Below w.heap.size w w6) := (LW4.out.trans (HT5.out.below (fun j hj => by rcases hj with rfl | rfl <;> omega) (by omega))).trans (ht6.below (fun j hj => by have := hj.1; omega) (by omega))
    clear ht6 BAG5 OW5 X5 HT5 X4 LW4
    go_wp2_with (fail)
    refine (look_own (fun i => w4.heap.size ≤ i) _ v5 m 1 0 true w6 (fun w' hb => find_some 1 ⟨((0 : Nat) : Int) + 1, v5, m⟩ w' (BAG6.out.later hb) ⟨by decide, by decide⟩ (by first | rfl | simp [itemAt])) (BAG6.out.msgs ⟨((0 : Nat) : Int) + 1, v5, m⟩ (by simp)).1 OX.out (by rfl)).mono ?_
    rintro e w7 ⟨s7, o7, i7, ps7, rfl, hf7, hb7⟩
    have hs67 := hb7.size
    have q1 : s7.oneCell' = true := FlatAt.oneCell hf7.1
    have q2 : o7.oneCell' = true := FlatAt.oneCell hf7.2.1.1
    have q3 : i7.oneCell' = true := FlatAt.oneCell hf7.2.2.2.1
    have OW7 : Hid (MsgFree (fun j => w6.heap.size ≤ j ∧ j < w7.heap.size) w7 m s7 o7 i7 ps7) := hf7.mono fun j hj h => ⟨h, hj⟩
    have BAG6F : Hid (BagAt (fun j => w4.heap.size ≤ j ∧ j < w6.heap.size) w6 _ _ _ _ _) := BAG6.out.mono (fun i hi hf => ⟨hf, hi⟩) (fun e => BAG6.out.apart.2.1 e.1) (fun e => BAG6.out.apart.2.2 e.1)
    have hb78 := hide hb7
    have BAG7 := hide (BAG6.out.later hb7)
    have LW7 : Hid (Below w.heap.size w w7) := LW6.out.trans (hb7.mono LW6.out.size)
    have X7 : Hid (w7.heap[w.heap.size]? = some (.cells (m.cells s o i).toArray 42 (0, 0))) := (hb7.block _ (lt_of_block X6.out)).trans X6.out
    have HZ7 : Hid ((w7.alloc (.cells zcells 42 (0, 0))).heap[w7.heap.size]? = some (.cells zcells 42 (0, 0))) := heap_alloc_new _ _
    have hlx7 := lt_of_block X7.out
    clear hf7 hb7 BAG6 LW6 X6
    go_wp2_with (first
      | (refine wpList_store_box (by rfl) 42 _ _ (by rfl) (w7.heap.size) 0 ((m.cells s7 o7 i7).toArray) (by rfl) (by rfl) 42 (zcells) (HZ7.out) (by kernel_rfl) (by exact Nat.le_of_ble_eq_true rfl) (by exact m.one q1 q2 q3) ?_; intro w8 hb8 hg8; rw [put_zmsg] at hb8; have hX8 := (hg8.block w.heap.size (by simp; omega) (by simp; omega)).trans ((heap_alloc_old w7 _ hlx7).trans X7.out))
      | (refine wpList_val rfl (by rfl) (exec_load_box 42 _ (by rfl) (w7.heap.size) 0 (by rfl) 42 _ hb8 34 _ Try.underlying42 (by rfl) (by kernel_rfl) (m.cells s7 o7 i7) (by rfl) (by rfl)) ?_)
      | (refine wpList_val rfl (by rfl) (exec_load_box 42 _ (by rfl) (w.heap.size) 0 (by rfl) 42 _ hX8 34 _ Try.underlying42 (by rfl) (by kernel_rfl) (m.cells s o i) (by rfl) (by rfl)) ?_))
    have T78 : Below w7.heap.size w7 w8 := ((Below.refl _ _).alloc (Nat.le_refl _) _).grown hg8 (by simp) (fun k hk => by have := Option.some.inj hk; omega)
    have OW8 : Hid (MsgFree (fun j => w6.heap.size ≤ j ∧ j < w7.heap.size) w8 m s7 o7 i7 ps7) := OW7.out.kept (Kept.of_below T78 _)
    have LW8 : Hid (Below w.heap.size w w8) := LW7.out.trans (T78.mono LW7.out.size)
    have CS := hide (same_any (fun j => w6.heap.size ≤ j ∧ j < w7.heap.size) F s7 o7 i7 s o i m m w8 ⟨OW8.out.1, ⟨ps7, OW8.out.2.2.1, OW8.out.2.1⟩, OW8.out.2.2.2.1⟩ (PX.out w8 LW8.out))
    rw [decide_eq_true rfl] at CS
    have hs78 := T78.size
    have BAG8 := hide ((BAG6F.out.later (hb78.out)).later T78)
    have Y8 := hide hb8
    have XM8 := hide hX8
    clear hg8 T78 hb8 hX8 OW7 BAG7 X7 HZ7 LW7
    refine CS.out.mono ?_
    rintro e w9 ⟨rfl, hb9⟩
    have hs89 := hb9.size
    have Y9 : Hid (w9.heap[w7.heap.size]? = some (.cells (m.cells s7 o7 i7).toArray 42 (0, 0))) := (hb9.block _ (lt_of_block Y8.out)).trans Y8.out
    have XM9 : Hid (w9.heap[w.heap.size]? = some (.cells (m.cells s o i).toArray 42 (0, 0))) := (hb9.block _ (lt_of_block XM8.out)).trans XM8.out
    have LW9 : Hid (Below w.heap.size w w9) := LW8.out.trans (hb9.mono LW8.out.size)
    have OW9 : Hid (MsgFree (fun j => w6.heap.size ≤ j ∧ j < w7.heap.size) w9 m s7 o7 i7 ps7) := OW8.out.kept (Kept.of_below hb9 _)
    have BAG9 := hide (BAG8.out.later hb9)
    have hlx9 := lt_of_block XM9.out
    clear hb9 CS Y8 XM8 LW8 OW8 BAG8
    go_wp2_with (refine wpList_load_box (by rfl) 42 _ (by rfl) (w7.heap.size) 0 (by rfl) 42 _ (Y9.out) 34 _ Try.underlying42 (by rfl) (by kernel_rfl) (m.cells s7 o7 i7) (by rfl) (by rfl) ?_)
    refine (spoil_any (fun j => w6.heap.size ≤ j ∧ j < w7.heap.size) m s7 o7 i7 ps7 w9 OW9.out.1 OW9.out.2.1 OW9.out.2.2.2.1 OW9.out.2.2.2.2.1 OW9.out.2.2.2.2.2.1 OW9.out.2.2.2.2.2.2.1 OW9.out.2.2.2.2.2.2.2 (fun j hj => by have := hj.2; omega)).mono ?_
    rintro e w10 ⟨rfl, ht10⟩
    have hs910 := ht10.size
    have BAG10 := hide ((BAG9.out.kept (ht10.kept fun j hj e => by rcases hj with rfl | rfl | hj <;> omega)).mono (G := fun j => (w4.heap.size ≤ j ∧ j < w6.heap.size) ∨ w10.heap.size ≤ j) (fun _ _ hf => .inl hf) (by omega) (by omega))
    have LW10 : Hid (Below w.heap.size w w10) := LW9.out.trans (ht10.below (fun j hj => by have := hj.1; omega) (by omega))
    have XM10 : Hid (w10.heap[w.heap.size]? = some (.cells (m.cells s o i).toArray 42 (0, 0))) := (ht10.block _ hlx9 (fun e => by have := e.1; omega)).trans XM9.out
    clear ht10 BAG9 LW9 XM9 OW9 Y9
    go_wp2_with (fail)
    refine (take_ok 1 ⟨((0 : Nat) : Int) + 1, v5, m⟩ w10 BAG10.out ⟨by decide, by decide⟩ (by first | rfl | simp [itemAt]) (fun i hi => .inr hi)).mono ?_
    rintro e w11 ⟨he11, hm11, _, ht11⟩
    obtain ⟨s9, o9, i9, hv9, hl9⟩ := hm11
    simp only at hv9 he11 hl9
    rw [hv9] at he11
    subst he11
    have hs1011 := ht11.size
    have q4 : s9.oneCell' = true := FlatAt.oneCell hl9.1
    have q5 : o9.oneCell' = true := by
      obtain ⟨pz, _, hz⟩ := hl9.2.1
      exact FlatAt.oneCell hz.1
    have q6 : i9.oneCell' = true := FlatAt.oneCell hl9.2.2
    have LW11 : Hid (Below w.heap.size w w11) := LW10.out.trans (ht11.below (fun j hj => by rcases hj with rfl | rfl <;> omega) (by omega))
    have XM11 : Hid (w11.heap[w.heap.size]? = some (.cells (m.cells s o i).toArray 42 (0, 0))) := (ht11.block _ (lt_of_block XM10.out) (by rintro (rfl | rfl) <;> omega)).trans XM10.out
    have HL9 := hide hl9
    have HZ11 : Hid ((w11.alloc (.cells zcells 42 (0, 0))).heap[w11.heap.size]? = some (.cells zcells 42 (0, 0))) := heap_alloc_new _ _
    have hlx11 := lt_of_block XM11.out
    clear ht11 hl9 hv9 BAG10 LW10 XM10
    go_wp2_with (first
      | (refine wpList_store_box (by rfl) 42 _ _ (by rfl) (w11.heap.size) 0 ((m.cells s9 o9 i9).toArray) (by rfl) (by rfl) 42 (zcells) (HZ11.out) (by kernel_rfl) (by exact Nat.le_of_ble_eq_true rfl) (by exact m.one q4 q5 q6) ?_; intro w12 hb12 hg12; rw [put_zmsg] at hb12; have hX12 := (hg12.block w.heap.size (by simp; omega) (by simp; omega)).trans ((heap_alloc_old w11 _ hlx11).trans XM11.out))
      | (refine wpList_val rfl (by rfl) (exec_load_box 42 _ (by rfl) (w11.heap.size) 0 (by rfl) 42 _ hb12 34 _ Try.underlying42 (by rfl) (by kernel_rfl) (m.cells s9 o9 i9) (by rfl) (by rfl)) ?_)
      | (refine wpList_val rfl (by rfl) (exec_load_box 42 _ (by rfl) (w.heap.size) 0 (by rfl) 42 _ hX12 34 _ Try.underlying42 (by rfl) (by kernel_rfl) (m.cells s o i) (by rfl) (by rfl)) ?_))
    have T1112 : Below w11.heap.size w11 w12 := ((Below.refl _ _).alloc (Nat.le_refl _) _).grown hg12 (by simp) (fun k hk => by have := Option.some.inj hk; omega)
    have LW12 : Hid (Below w.heap.size w w12) := LW11.out.trans (T1112.mono LW11.out.size)
    have CT := hide (same_any _ F s9 o9 i9 s o i m m w12 (HL9.out.kept (Kept.of_below T1112 _)) (PX.out w12 LW12.out))
    rw [decide_eq_true rfl] at CT
    clear T1112 hg12 hb12 hX12
    refine CT.out.mono ?_
    rintro e w13 ⟨rfl, hb13⟩
    have LW13 : Hid (Below w.heap.size w w13) := LW12.out.trans (hb13.mono LW12.out.size)
    clear hb13 CT
    go_wp2_with (fail)
    refine (lives_any _).mono ?_
    rintro e w14 ⟨rfl, hb14⟩
    have LW14 := hide (LW13.out.trans (hb14.mono LW13.out.size))
    clear hb14
    go_wp2
    go_ret
    exact ⟨rfl, LW14.out⟩
end Go.Proofs.Ytaimnhlpdkpobaa
