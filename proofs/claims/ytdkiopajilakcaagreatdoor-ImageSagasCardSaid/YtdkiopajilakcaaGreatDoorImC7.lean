/- Whatever the saga and whatever the bytes: ImageSagas returns true and changes no argument. Conditions: the package-level table of package envelope starts as the program's text lays it; the argument takes up what the row allows. -/
import Derived.Test.YtdkiopajilakcaaGreatDoorImC1
import Derived.Test.YtdkiopajilakcaaGreatDoorImC2
import Derived.Test.YtdkiopajilakcaaGreatDoorImC3
import Derived.Test.YtdkiopajilakcaaGreatDoorImC4
import Derived.Test.YtdkiopajilakcaaGreatDoorImC5
import Derived.Test.YtdkiopajilakcaaGreatDoorImC6
import Derived.Test.YtdkiopajilakcaaGreatDoorProg
import Derived.Deep.Slices
import Derived.ChangeArms
import Derived.SizedLaws
import Derived.ShutString
import Derived.ProofKit
import Derived.OpenShut
import Derived.Test.YtdkiopajilakcaaGreatDoorRows
import Derived.Lib.LaidTab
import Derived.LaidMore
import Derived.Test.YtdkiopajilakcaaGreatDoorCards
import Derived.Test.YtdkiopajilakcaaGreatDoorTie
import Derived.SevenTiedAt
import Derived.ChangeOld
/- The document's ReadSaga. -/
namespace Go.Proofs.YtdkiopajilakcaaGreatDoor
open Go.RowKit Go.Shelf
def RFBox (g : Nat) (f : Fd) (w : World) : Prop := w.heap[g]? = some (.cells f.cells 61 (0, 0))
section
variable {ops : Array Oper} {rest : List Oper} {op : Oper} {a : Act} {W : World} {Q : Exit → Act → World → Prop} {g : Nat} {f z : Fd}
theorem wpList_store_rfd (hgd : op.guard = none) (x v : Operand) (ho : op.op = .store 61 x v) (hx : a.eval x = .pointer (some ⟨g, 0, none⟩)) (hg : RFBox g z W) (hy : a.eval v = f.val)
    (h : ∀ w', RFBox g f w' → W.grownBy w' (some g) → wpList Tryz.prog ops Q rest (a.put op.dst undef) w') : wpList Tryz.prog ops Q (op :: rest) a W :=
  wpList_store_box hgd 61 x v ho g 0 f.cells hx hy _ _ hg (by kernel_rfl) (by exact Nat.le_of_ble_eq_true rfl) (by exact f.one) (fun w' hb hg' => h w' (by rw [fd_put] at hb; exact hb) hg')
theorem def_put (n n2 : ByteArray) (p p2 : Option Addr) (m c m2 c2 : Nat) : putAt #[.string n, .slice p m c] 0 [.string n2, .slice p2 m2 c2] = #[.string n2, .slice p2 m2 c2] := by simp [putAt]
end
section
variable {w : World}
set_option maxHeartbeats 16000000 in
set_option maxRecDepth 100000 in
theorem rreadsaga_any {A : Option Addr} {n c : Nat} {b : List Nat} (hl : Holds w w.heap.size A n b) (hn : n ≤ 3000) (hc : n ≤ c) :
    Calls Tryz.prog 7 #[.slice A n c] w (GotS w (readSD b)) := by
  obtain ⟨y0, hy0⟩ : ∃ y0, y0 = w.heap.size := ⟨_, rfl⟩
  obtain ⟨W1, hW1⟩ : ∃ W1, W1 = w.alloc (.cells #[.string ⟨#[]⟩, .slice none 0 0, .int .i64 0, .int .i64 0, .int .i64 0, .bool false, .bool false, .bool false, .bool false, .bool false, .bool false, .bool false, .bool false] 34 (0, 0)) := ⟨_, rfl⟩
  have Y1 : Hid (SBox 34 y0 SagaD.zero W1) := by rw [hW1, hy0]; exact heap_alloc_new _ _
  have L1 : Hid (Later w W1) := by rw [hW1]; exact (Below.refl _ _).alloc (Nat.le_refl _) _
  have HY0 : Hid (w.heap.size = y0) := hy0.symm
  have HL := hide hl
  have HNN : Hid (n ≤ 3000 ∧ n ≤ c) := ⟨hn, hc⟩
  have CR := hide (rread_any A n c b W1 ((hl.below (show Below w.heap.size w W1 from L1.out)).more (Below.size L1.out)) (by omega) hc)
  unfold RReadIs at CR
  obtain ⟨er, her⟩ : ∃ er : Nat, (pread b).1 = er := ⟨_, rfl⟩
  obtain ⟨P, hP⟩ : ∃ P, (pread b).2 = P := ⟨_, rfl⟩
  have HBL : Hid (b.length ≤ 3000) := by have := hl.1; show _ ≤ _; omega
  have HFS : Hid (fsum P ≤ 3000) := by have := fsum_pread b; rw [hP] at this; have h2 := HBL.out; show _ ≤ _; omega
  have HRD : Hid (readSD b = if er ≠ 0 then (er, .zero) else if (sagD P).good = true ∧ (sagD P).B = b then (0, sagD P) else (4, .zero)) := by show readSD b = _; unfold readSD; rw [her, hP]
  rw [her, hP] at CR
  have HW1 := hide hW1.symm
  have HG := hide hy0.symm
  clear hl hn hc hW1 hy0 her hP
  rw [HRD.out]
  by_cases he : er ≠ 0
  · rw [if_pos he]
    have e0 : (((er : Nat) : Int) != 0) = true := by simp; omega
    have e1 : (((er : Nat) : Int) == 0) = false := by simp; omega
    clear he
    go_enter Tryz.func7, Tryz.ntmps7
    go_wp2_with (fail)
    simp only [HW1.out, HG.out]
    refine CR.out.mono ?_
    rintro e w2 ⟨A1, n1, c1, fs, rfl, _, _, _, hb2⟩
    have L12 : Hid (Later W1 w2) := hb2
    have L1a : Later w W1 := L1.out
    have L2 : Hid (Later w w2) := Later.trans L1a hb2
    have Y2 := hide (Y1.out.below hb2)
    clear hb2 CR L1a
    go_wp2_with (refine wpList_rstore_saga (s := SagaD.zero) (by rfl) _ _ (by rfl) (by rfl) Y2.out (by rfl) ?_)
    intro w9 Z9 G9
    have HZ := hide Z9
    have L9 : Hid (Later w w9) := L2.out.grown G9 (Below.size L2.out) (fun k hk => by have a1 := Option.some.inj hk; have a2 := HY0.out; omega)
    clear Z9
    go_wp2
    refine bodyPost_ret (results_box2 Tryz.results7 _ _ y0 34 _ _ (by rfl) HZ.out Tryz.underlying34 (by rfl) (by kernel_rfl) (.int .i64 (er : Int)) (by rfl)) (by rfl) ?_
    exact ⟨SagaD.zero, [], rfl, rfl, ⟨fun _ => True, StepsAt.nil_ _ _⟩, (by simp), zero_fits, L9.out⟩
  · rw [if_neg he]
    obtain ⟨T, hT⟩ : ∃ T : Nat × SagaQ, T = (if (sagD P).good = true ∧ (sagD P).B = b then (0, sagD P) else (4, .zero)) := ⟨_, rfl⟩
    rw [← hT]
    have HT := hide hT
    clear hT HRD
    obtain rfl : er = 0 := by omega
    clear he
    go_enter Tryz.func7, Tryz.ntmps7
    go_wp2_with (fail)
    simp only [HW1.out, HG.out]
    refine CR.out.mono ?_
    rintro e w2 ⟨A1, n1, c1, fs, rfl, hpf, hfh, hnc, hb2⟩
    have HPF := hide hpf
    have HFH := hide hfh
    have HNC := hide hnc
    have L12 : Hid (Later W1 w2) := hb2
    have L1a : Later w W1 := L1.out
    have L2 : Hid (Later w w2) := Later.trans L1a hb2
    have Y2 := hide (Y1.out.below hb2)
    have hn1 : n1 ≤ 3000 := by
      have h1 := HFS.out
      have h2 := fsum_count P
      have h3 : fs.length = P.length := by rw [← hpf, List.length_map]
      have h4 := hfh.1
      omega
    have HN1 := hide hn1
    have CF := hide (reffind_any A1 n1 c1 fs 1 w2 hfh (by omega))
    rw [hpf] at CF
    clear hpf hfh hnc hb2 CR L1a hn1
    go_wp2_with (fail)
    refine CF.out.mono ?_
    rintro e w3 ⟨f1, rfl, hf1, hfo1, hl3⟩
    have HF1 := hide hf1
    have HFO1 := hide hfo1
    have L23 : Hid (Later w2 w3) := hl3
    have I3 : Hid (RFBox w3.heap.size fdZ (w3.alloc (.cells #[.int .i64 0, .bool false, .int .u64 0, .slice none 0 0] 61 (0, 0)))) := heap_alloc_new _ _
    have L3a : Hid (Later w3 (w3.alloc (.cells #[.int .i64 0, .bool false, .int .u64 0, .slice none 0 0] 61 (0, 0)))) := (Below.refl _ _).alloc (Nat.le_refl _) _
    clear hf1 hfo1 hl3 CF
    go_wp2_with (refine wpList_store_rfd (f := f1) (by rfl) _ _ (by rfl) (by rfl) I3.out (by rfl) ?_)
    intro w4 Z4 G4
    have L34 : Hid (Later w3 w4) := L3a.out.grown G4 (by simp) (fun k hk => by have b1 := Option.some.inj hk; omega)
    have c43 : w4.cell? ⟨w3.heap.size, 3, none⟩ = some (.slice f1.a f1.n f1.c) := cell_of_row w4 _ 3 _ _ _ Z4
    have HH4 : Hid (Holds w4 w4.heap.size f1.a f1.n f1.b) := (HFO1.out.2.2.2.below (show Below w3.heap.size w3 w4 from L34.out)).more (Below.size L34.out)
    have HF1N : Hid (f1.n ≤ 3000) := by
      have h1 := HFO1.out.2.2.2.1
      have h2 : f1.pf.2.2.2.length = f1.b.length := rfl
      rw [HF1.out] at h2
      show _ ≤ _
      unfold pfind at h2
      split at h2
      · rename_i p hp
        have h3 := fsum_mem (List.mem_reverse.1 (List.mem_of_find?_eq_some hp))
        have h4 := HFS.out
        have h5 : p.2.2.2.length = f1.b.length := h2
        omega
      · have h5 : pz.2.2.2.length = f1.b.length := h2
        have h6 : pz.2.2.2.length = 0 := rfl
        omega
    have CD := hide (rreaddef_any (c := f1.c) HH4.out (by have := HF1N.out; omega) HFO1.out.2.2.1)
    rw [readDefQ_eq HH4.out.2.1 (by have := HH4.out.1; have := HF1N.out; omega)] at CD
    have HDW := hide (readDef_wf f1.b)
    have HDE : Hid ((readDef f1.b).2 = (readDef (rowQ P 1)).2) := by
      show _ = _
      unfold rowQ
      rw [← HF1.out]
      rfl
    obtain ⟨x7, hx7⟩ : ∃ x7, (readDef f1.b).2 = x7 := ⟨_, rfl⟩
    rw [hx7] at CD HDW HDE
    clear Z4 G4 I3 L3a hx7
    go_wp2_with (fail)
    refine CD.out.mono ?_
    rintro e w5 ⟨sv, rfl, hs5, hl5⟩
    obtain ⟨A7, c7, hsv, _, _, _⟩ := FlatAt.shape hs5
    subst hsv
    obtain ⟨n7, hn7⟩ : ∃ n7, x7.steps.length = n7 := ⟨_, rfl⟩
    have HN7 := hide hn7
    rw [hn7] at hs5 ⊢
    have HS5 := hide hs5
    have L45 : Hid (Later w4 w5) := hl5
    have I5 : Hid ((w5.alloc (.cells #[.string ⟨#[]⟩, .slice none 0 0] 24 (0, 0))).heap[w5.heap.size]? = some (.cells #[.string ⟨#[]⟩, .slice none 0 0] 24 (0, 0))) := heap_alloc_new _ _
    have L5a : Hid (Later w5 (w5.alloc (.cells #[.string ⟨#[]⟩, .slice none 0 0] 24 (0, 0)))) := (Below.refl _ _).alloc (Nat.le_refl _) _
    clear hs5 hl5 CD hn7 c43
    go_wp2_with (refine wpList_store_box (by rfl) 24 _ _ (by rfl) w5.heap.size 0 #[.string x7.name, .slice A7 n7 c7] (by rfl) (by rfl) _ _ I5.out (by kernel_rfl) (by exact Nat.le_of_ble_eq_true rfl) (by intro u hu; simp at hu; rcases hu with rfl | rfl <;> rfl) ?_)
    intro w6 Z6 G6
    rw [def_put] at Z6
    have L56 : Hid (Later w5 w6) := L5a.out.grown G6 (by simp) (fun k hk => by have b1 := Option.some.inj hk; omega)
    have HZ6 := hide Z6
    have HD6 : Hid (w5.heap.size < w6.heap.size) := lt_of_block Z6
    obtain ⟨W9, hW9⟩ : ∃ W9, w6.drew = W9 := ⟨_, rfl⟩
    have HW9 := hide hW9
    have ZW9 : Hid (W9.heap[w5.heap.size]? = some (.cells #[.string x7.name, .slice A7 n7 c7] 24 (0, 0))) := by rw [← hW9]; exact HZ6.out
    have B69 : Hid (Below w6.heap.size w6 W9) := by rw [← hW9]; exact ⟨rfl, rfl, rfl, Nat.le_refl _, fun _ _ => rfl⟩
    clear hW9
    have CD0 : Hid (∀ W, Below w6.heap.size W9 W → W.cell? ⟨w5.heap.size, 0, none⟩ = some (.string x7.name)) := fun W hW => by
      have h9 : W.heap[w5.heap.size]? = some (.cells #[.string x7.name, .slice A7 n7 c7] 24 (0, 0)) := (Below.block hW _ HD6.out).trans ZW9.out
      exact cell_of_row W _ 0 _ _ _ h9
    have CD1 : Hid (∀ W, Below w6.heap.size W9 W → W.cell? ⟨w5.heap.size, 1, none⟩ = some (.slice A7 n7 c7)) := fun W hW => by
      have h9 : W.heap[w5.heap.size]? = some (.cells #[.string x7.name, .slice A7 n7 c7] 24 (0, 0)) := (Below.block hW _ HD6.out).trans ZW9.out
      exact cell_of_row W _ 1 _ _ _ h9
    have L26 : Hid (Later w2 w6) := by
      have a1 : Later w2 w3 := L23.out
      have a2 : Later w3 w4 := L34.out
      have a3 : Later w4 w5 := L45.out
      exact Later.trans (Later.trans (Later.trans a1 a2) a3) L56.out
    have FH : Hid (∀ W, Below w6.heap.size W9 W → FHolds W W.heap.size A1 n1 fs) := fun W hW => by
      have h1 : FHolds w6 w6.heap.size A1 n1 fs := (HFH.out.below (show Below w2.heap.size w2 w6 from L26.out)).more (Below.size L26.out)
      have h2 : Below w6.heap.size w6 W := (show Below w6.heap.size w6 W9 from B69.out).trans hW
      exact (h1.below h2).more (Below.size h2)
    have CV0 : Hid (∀ (m : Int) W, Below w6.heap.size W9 W → Calls Tryz.prog 23 #[.slice A1 n1 c1, .int .i64 m] W fun e w' => e = .returned (.int .i64 (valQ P m)) ∧ Later W w') := fun m W hW => by
      have h9 := rval17_any (c := c1) (m := m) (FH.out W hW) (by have := HN1.out; omega)
      rw [HPF.out] at h9
      exact h9
    have B00 : Hid (Below w6.heap.size W9 W9) := Below.refl _ _
    obtain ⟨a2, ha2⟩ : ∃ a2, valQ P 2 = a2 := ⟨_, rfl⟩
    obtain ⟨a3, ha3⟩ : ∃ a3, valQ P 3 = a3 := ⟨_, rfl⟩
    obtain ⟨a4, ha4⟩ : ∃ a4, valQ P 4 = a4 := ⟨_, rfl⟩
    have CV2 : Hid (∀ W, Below w6.heap.size W9 W → Calls Tryz.prog 23 #[.slice A1 n1 c1, .int .i64 2] W fun e w' => e = .returned (.int .i64 a2) ∧ Later W w') := fun W hW => by
      have h9 := CV0.out 2 W hW
      rw [ha2] at h9
      exact h9
    have CV3 : Hid (∀ W, Below w6.heap.size W9 W → Calls Tryz.prog 23 #[.slice A1 n1 c1, .int .i64 3] W fun e w' => e = .returned (.int .i64 a3) ∧ Later W w') := fun W hW => by
      have h9 := CV0.out 3 W hW
      rw [ha3] at h9
      exact h9
    have CV4 : Hid (∀ W, Below w6.heap.size W9 W → Calls Tryz.prog 23 #[.slice A1 n1 c1, .int .i64 4] W fun e w' => e = .returned (.int .i64 a4) ∧ Later W w') := fun W hW => by
      have h9 := CV0.out 4 W hW
      rw [ha4] at h9
      exact h9
    have HVA := hide (And.intro ha2 (And.intro ha3 ha4))
    clear Z6 G6 I5 L5a CV0 ha2 ha3 ha4
    go_upto_region 6 with (fail)
    go_cut [10] (fun s10 wx => ∃ y : Nat, s10 = .pointer (some ⟨y, 0, none⟩) ∧ w6.heap.size ≤ y ∧ SBox 34 y ⟨x7.name, A7, n7, c7, a2, a3, a4, upH 0⟩ wx ∧ Below w6.heap.size W9 wx)
    case first =>
      go_wp2_with (fail)
      refine wp_region_V (Below w6.heap.size) (fun j => j == 9) (by kernel_rfl) ?_
      rw [HW9.out]
      refine wpAnyV_take (nt_pre_below w6.heap.size) (i := 0) (d := some 34) (v := .agg #[.string x7.name, .slice A7 n7 c7]) rfl rfl (by kernel_rfl) (by kernel_rfl) (by kernel_rfl) (by kernel_rfl) (by kernel_rfl) (fun _ _ _ h => h) (by rfl) ?yaa0 ?_
      case yaa0 => (intro w' hw'; have hbb : Below w6.heap.size W9 w' := hw'; have cc0 := CD0.out w' hbb; have cc1 := CD1.out w' hbb; go_simp; try (with_reducible rfl))
      simp only [Act.put]; try simp only [sA_, sZ_, sS_]
      refine wpAnyV_take (nt_pre_below w6.heap.size) (i := 1) (d := some 35) (v := ?vaa1) rfl rfl (by kernel_rfl) (by kernel_rfl) (by kernel_rfl) (by kernel_rfl) (by kernel_rfl) (fun _ _ _ h => h) (by rfl) ?yaa1 ?_
      case yaa1 => (intro w' hw'; go_simp; try (with_reducible rfl))
      simp only [Act.put]; try simp only [sA_, sZ_, sS_]
      refine wpAnyV_take (nt_pre_below w6.heap.size) (i := 3) (d := some 37) (v := ?vaa3) rfl rfl (by kernel_rfl) (by kernel_rfl) (by kernel_rfl) (by kernel_rfl) (by kernel_rfl) (fun _ _ _ h => h) (by rfl) ?yaa3 ?_
      case yaa3 => (intro w' hw'; go_simp; try (with_reducible rfl))
      simp only [Act.put]; try simp only [sA_, sZ_, sS_]
      refine wpAnyV_take (nt_pre_below w6.heap.size) (i := 5) (d := some 39) (v := ?vaa5) rfl rfl (by kernel_rfl) (by kernel_rfl) (by kernel_rfl) (by kernel_rfl) (by kernel_rfl) (fun _ _ _ h => h) (by rfl) ?yaa5 ?_
      case yaa5 => (intro w' hw'; go_simp; try (with_reducible rfl))
      simp only [Act.put]; try simp only [sA_, sZ_, sS_]
      refine wpAnyV_two (i := 2) (j := 8) rfl rfl (by kernel_rfl) (by rfl) (by rfl) (fun K hK => ?_) (fun K hK => ?_)
      · go_simp
        refine (CV2.out _ B00.out).mono ?_
        rintro e u1 ⟨rfl, hl⟩
        have hbl : Below w6.heap.size W9 u1 := Below.mono hl (by have h8 := Below.size B69.out; have h9 := Below.size B00.out; exact Nat.le_trans h8 h9)
        have Bu1 : Hid (Below w6.heap.size W9 u1) := Below.trans B00.out hbl
        refine hK.out _ _ hbl ?_
        clear hl hbl
        clear hK K
        try (simp only [Act.put]; try simp only [sA_, sZ_, sS_])
        refine wpAnyV_two (i := 4) (j := 8) rfl rfl (by kernel_rfl) (by rfl) (by rfl) (fun K hK => ?_) (fun K hK => ?_)
        · go_simp
          refine (CV3.out _ Bu1.out).mono ?_
          rintro e u2 ⟨rfl, hl⟩
          have hbl : Below w6.heap.size u1 u2 := Below.mono hl (by have h8 := Below.size B69.out; have h9 := Below.size Bu1.out; exact Nat.le_trans h8 h9)
          have Bu2 : Hid (Below w6.heap.size W9 u2) := Below.trans Bu1.out hbl
          refine hK.out _ _ hbl ?_
          clear hl hbl
          clear hK K
          try (simp only [Act.put]; try simp only [sA_, sZ_, sS_])
          refine wpAnyV_two (i := 6) (j := 8) rfl rfl (by kernel_rfl) (by rfl) (by rfl) (fun K hK => ?_) (fun K hK => ?_)
          · go_simp
            refine (CV4.out _ Bu2.out).mono ?_
            rintro e u3 ⟨rfl, hl⟩
            have hbl : Below w6.heap.size u2 u3 := Below.mono hl (by have h8 := Below.size B69.out; have h9 := Below.size Bu2.out; exact Nat.le_trans h8 h9)
            have Bu3 : Hid (Below w6.heap.size W9 u3) := Below.trans Bu2.out hbl
            refine hK.out _ _ hbl ?_
            clear hl hbl
            clear hK K
            try (simp only [Act.put]; try simp only [sA_, sZ_, sS_])
            refine wpAnyV_take (nt_pre_below w6.heap.size) (i := 7) (d := some 41) (v := ?vaaxxx7) rfl rfl (by kernel_rfl) (by kernel_rfl) (by kernel_rfl) (by kernel_rfl) (by kernel_rfl) (fun _ _ _ h => h) (by rfl) ?yaaxxx7 ?_
            case yaaxxx7 => (intro w' hw'; go_simp; try (with_reducible rfl))
            simp only [Act.put]; try simp only [sA_, sZ_, sS_]
            refine wpAnyV_only (nt_pre_below w6.heap.size) (i := 8) rfl (by kernel_rfl) (by rfl) fun K hK => ?_
            go_simp
            obtain ⟨wa, hwa⟩ : ∃ wa, wa = u3.alloc (.cells #[.string ⟨#[]⟩, .slice none 0 0, .int .i64 0, .int .i64 0, .int .i64 0, .bool false, .bool false, .bool false, .bool false, .bool false, .bool false, .bool false, .bool false] 34 (0, 0)) := ⟨_, rfl⟩
            obtain ⟨y, hy⟩ : ∃ y, y = u3.heap.size := ⟨_, rfl⟩
            have ZYa : Hid (SBox 34 y SagaD.zero wa) := by rw [hwa, hy]; exact heap_alloc_new _ _
            have HYa : Hid (w6.heap.size ≤ y) := by rw [hy]; have h8 := Below.size B69.out; have h9 := Below.size Bu3.out; exact Nat.le_trans h8 h9
            have hbl : Below w6.heap.size u3 wa := by rw [hwa]; exact (Below.refl _ _).alloc (by have h8 := Below.size B69.out; have h9 := Below.size Bu3.out; exact Nat.le_trans h8 h9) _
            have Bwa : Hid (Below w6.heap.size W9 wa) := Below.trans Bu3.out hbl
            rw [← hwa]
            try rw [← hy]
            refine hK.out _ _ hbl ?_
            clear hwa hy hbl
            clear hK K
            try (simp only [Act.put]; try simp only [sA_, sZ_, sS_])
            refine wpAnyV_write (i := 9) rfl rfl (by kernel_rfl) (by rfl) fun K hK => ?_
            refine wp_rstore_saga (s := ⟨x7.name, A7, n7, c7, a2, a3, a4, upH 0⟩) _ _ (by rfl) (by rfl) ZYa.out (by rfl) ?_
            intro wz hz hg
            have ZF := hide hz
            have BF : Hid (Below w6.heap.size W9 wz) := Below.trans Bwa.out ((Below.refl _ _).grown hg (by have h8 := Below.size B69.out; have h9 := Below.size Bwa.out; exact Nat.le_trans h8 h9) (fun k hk => by have := Option.some.inj hk; have := HYa.out; omega))
            refine hK.out _ _ ?_
            clear hz hg
            clear hK K
            try simp only [Act.put]
            refine wpAnyV_done (by kernel_rfl) ?_ _
            go_wp2
            go_meet
            exact ⟨y, rfl, HYa.out, ZF.out, BF.out⟩
          · go_simp
            obtain ⟨wa, hwa⟩ : ∃ wa, wa = u2.alloc (.cells #[.string ⟨#[]⟩, .slice none 0 0, .int .i64 0, .int .i64 0, .int .i64 0, .bool false, .bool false, .bool false, .bool false, .bool false, .bool false, .bool false, .bool false] 34 (0, 0)) := ⟨_, rfl⟩
            obtain ⟨y, hy⟩ : ∃ y, y = u2.heap.size := ⟨_, rfl⟩
            have ZYa : Hid (SBox 34 y SagaD.zero wa) := by rw [hwa, hy]; exact heap_alloc_new _ _
            have HYa : Hid (w6.heap.size ≤ y) := by rw [hy]; have h8 := Below.size B69.out; have h9 := Below.size Bu2.out; exact Nat.le_trans h8 h9
            have hbl : Below w6.heap.size u2 wa := by rw [hwa]; exact (Below.refl _ _).alloc (by have h8 := Below.size B69.out; have h9 := Below.size Bu2.out; exact Nat.le_trans h8 h9) _
            have Bwa : Hid (Below w6.heap.size W9 wa) := Below.trans Bu2.out hbl
            rw [← hwa]
            try rw [← hy]
            refine hK.out _ _ hbl ?_
            clear hwa hy hbl
            clear hK K
            try (simp only [Act.put]; try simp only [sA_, sZ_, sS_])
            refine wpAnyV_only (nt_pre_below w6.heap.size) (i := 6) rfl (by kernel_rfl) (by rfl) fun K hK => ?_
            go_simp
            refine (CV4.out _ Bwa.out).mono ?_
            rintro e u3 ⟨rfl, hl⟩
            have hbl : Below w6.heap.size wa u3 := Below.mono hl (by have h8 := Below.size B69.out; have h9 := Below.size Bwa.out; exact Nat.le_trans h8 h9)
            have Bu3 : Hid (Below w6.heap.size W9 u3) := Below.trans Bwa.out hbl
            have ZYu3 : Hid (SBox 34 y SagaD.zero u3) := ZYa.out.below hl
            refine hK.out _ _ hbl ?_
            clear hl hbl
            clear hK K
            try (simp only [Act.put]; try simp only [sA_, sZ_, sS_])
            refine wpAnyV_take (nt_pre_below w6.heap.size) (i := 7) (d := some 41) (v := ?vaaxxy7) rfl rfl (by kernel_rfl) (by kernel_rfl) (by kernel_rfl) (by kernel_rfl) (by kernel_rfl) (fun _ _ _ h => h) (by rfl) ?yaaxxy7 ?_
            case yaaxxy7 => (intro w' hw'; go_simp; try (with_reducible rfl))
            simp only [Act.put]; try simp only [sA_, sZ_, sS_]
            refine wpAnyV_write (i := 9) rfl rfl (by kernel_rfl) (by rfl) fun K hK => ?_
            refine wp_rstore_saga (s := ⟨x7.name, A7, n7, c7, a2, a3, a4, upH 0⟩) _ _ (by rfl) (by rfl) ZYu3.out (by rfl) ?_
            intro wz hz hg
            have ZF := hide hz
            have BF : Hid (Below w6.heap.size W9 wz) := Below.trans Bu3.out ((Below.refl _ _).grown hg (by have h8 := Below.size B69.out; have h9 := Below.size Bu3.out; exact Nat.le_trans h8 h9) (fun k hk => by have := Option.some.inj hk; have := HYa.out; omega))
            refine hK.out _ _ ?_
            clear hz hg
            clear hK K
            try simp only [Act.put]
            refine wpAnyV_done (by kernel_rfl) ?_ _
            go_wp2
            go_meet
            exact ⟨y, rfl, HYa.out, ZF.out, BF.out⟩
        · go_simp
          obtain ⟨wa, hwa⟩ : ∃ wa, wa = u1.alloc (.cells #[.string ⟨#[]⟩, .slice none 0 0, .int .i64 0, .int .i64 0, .int .i64 0, .bool false, .bool false, .bool false, .bool false, .bool false, .bool false, .bool false, .bool false] 34 (0, 0)) := ⟨_, rfl⟩
          obtain ⟨y, hy⟩ : ∃ y, y = u1.heap.size := ⟨_, rfl⟩
          have ZYa : Hid (SBox 34 y SagaD.zero wa) := by rw [hwa, hy]; exact heap_alloc_new _ _
          have HYa : Hid (w6.heap.size ≤ y) := by rw [hy]; have h8 := Below.size B69.out; have h9 := Below.size Bu1.out; exact Nat.le_trans h8 h9
          have hbl : Below w6.heap.size u1 wa := by rw [hwa]; exact (Below.refl _ _).alloc (by have h8 := Below.size B69.out; have h9 := Below.size Bu1.out; exact Nat.le_trans h8 h9) _
          have Bwa : Hid (Below w6.heap.size W9 wa) := Below.trans Bu1.out hbl
          rw [← hwa]
          try rw [← hy]
          refine hK.out _ _ hbl ?_
          clear hwa hy hbl
          clear hK K
          try (simp only [Act.put]; try simp only [sA_, sZ_, sS_])
          refine wpAnyV_only (nt_pre_below w6.heap.size) (i := 4) rfl (by kernel_rfl) (by rfl) fun K hK => ?_
          go_simp
          refine (CV3.out _ Bwa.out).mono ?_
          rintro e u2 ⟨rfl, hl⟩
          have hbl : Below w6.heap.size wa u2 := Below.mono hl (by have h8 := Below.size B69.out; have h9 := Below.size Bwa.out; exact Nat.le_trans h8 h9)
          have Bu2 : Hid (Below w6.heap.size W9 u2) := Below.trans Bwa.out hbl
          have ZYu2 : Hid (SBox 34 y SagaD.zero u2) := ZYa.out.below hl
          refine hK.out _ _ hbl ?_
          clear hl hbl
          clear hK K
          try (simp only [Act.put]; try simp only [sA_, sZ_, sS_])
          refine wpAnyV_only (nt_pre_below w6.heap.size) (i := 6) rfl (by kernel_rfl) (by rfl) fun K hK => ?_
          go_simp
          refine (CV4.out _ Bu2.out).mono ?_
          rintro e u3 ⟨rfl, hl⟩
          have hbl : Below w6.heap.size u2 u3 := Below.mono hl (by have h8 := Below.size B69.out; have h9 := Below.size Bu2.out; exact Nat.le_trans h8 h9)
          have Bu3 : Hid (Below w6.heap.size W9 u3) := Below.trans Bu2.out hbl
          have ZYu3 : Hid (SBox 34 y SagaD.zero u3) := ZYu2.out.below hl
          refine hK.out _ _ hbl ?_
          clear hl hbl
          clear hK K
          try (simp only [Act.put]; try simp only [sA_, sZ_, sS_])
          refine wpAnyV_take (nt_pre_below w6.heap.size) (i := 7) (d := some 41) (v := ?vaaxy7) rfl rfl (by kernel_rfl) (by kernel_rfl) (by kernel_rfl) (by kernel_rfl) (by kernel_rfl) (fun _ _ _ h => h) (by rfl) ?yaaxy7 ?_
          case yaaxy7 => (intro w' hw'; go_simp; try (with_reducible rfl))
          simp only [Act.put]; try simp only [sA_, sZ_, sS_]
          refine wpAnyV_write (i := 9) rfl rfl (by kernel_rfl) (by rfl) fun K hK => ?_
          refine wp_rstore_saga (s := ⟨x7.name, A7, n7, c7, a2, a3, a4, upH 0⟩) _ _ (by rfl) (by rfl) ZYu3.out (by rfl) ?_
          intro wz hz hg
          have ZF := hide hz
          have BF : Hid (Below w6.heap.size W9 wz) := Below.trans Bu3.out ((Below.refl _ _).grown hg (by have h8 := Below.size B69.out; have h9 := Below.size Bu3.out; exact Nat.le_trans h8 h9) (fun k hk => by have := Option.some.inj hk; have := HYa.out; omega))
          refine hK.out _ _ ?_
          clear hz hg
          clear hK K
          try simp only [Act.put]
          refine wpAnyV_done (by kernel_rfl) ?_ _
          go_wp2
          go_meet
          exact ⟨y, rfl, HYa.out, ZF.out, BF.out⟩
      · go_simp
        obtain ⟨wa, hwa⟩ : ∃ wa, wa = W9.alloc (.cells #[.string ⟨#[]⟩, .slice none 0 0, .int .i64 0, .int .i64 0, .int .i64 0, .bool false, .bool false, .bool false, .bool false, .bool false, .bool false, .bool false, .bool false] 34 (0, 0)) := ⟨_, rfl⟩
        obtain ⟨y, hy⟩ : ∃ y, y = W9.heap.size := ⟨_, rfl⟩
        have ZYa : Hid (SBox 34 y SagaD.zero wa) := by rw [hwa, hy]; exact heap_alloc_new _ _
        have HYa : Hid (w6.heap.size ≤ y) := by rw [hy]; have h8 := Below.size B69.out; have h9 := Below.size B00.out; exact Nat.le_trans h8 h9
        have hbl : Below w6.heap.size W9 wa := by rw [hwa]; exact (Below.refl _ _).alloc (by have h8 := Below.size B69.out; have h9 := Below.size B00.out; exact Nat.le_trans h8 h9) _
        have Bwa : Hid (Below w6.heap.size W9 wa) := Below.trans B00.out hbl
        rw [← hwa]
        try rw [← hy]
        refine hK.out _ _ hbl ?_
        clear hwa hy hbl
        clear hK K
        try (simp only [Act.put]; try simp only [sA_, sZ_, sS_])
        refine wpAnyV_only (nt_pre_below w6.heap.size) (i := 2) rfl (by kernel_rfl) (by rfl) fun K hK => ?_
        go_simp
        refine (CV2.out _ Bwa.out).mono ?_
        rintro e u1 ⟨rfl, hl⟩
        have hbl : Below w6.heap.size wa u1 := Below.mono hl (by have h8 := Below.size B69.out; have h9 := Below.size Bwa.out; exact Nat.le_trans h8 h9)
        have Bu1 : Hid (Below w6.heap.size W9 u1) := Below.trans Bwa.out hbl
        have ZYu1 : Hid (SBox 34 y SagaD.zero u1) := ZYa.out.below hl
        refine hK.out _ _ hbl ?_
        clear hl hbl
        clear hK K
        try (simp only [Act.put]; try simp only [sA_, sZ_, sS_])
        refine wpAnyV_only (nt_pre_below w6.heap.size) (i := 4) rfl (by kernel_rfl) (by rfl) fun K hK => ?_
        go_simp
        refine (CV3.out _ Bu1.out).mono ?_
        rintro e u2 ⟨rfl, hl⟩
        have hbl : Below w6.heap.size u1 u2 := Below.mono hl (by have h8 := Below.size B69.out; have h9 := Below.size Bu1.out; exact Nat.le_trans h8 h9)
        have Bu2 : Hid (Below w6.heap.size W9 u2) := Below.trans Bu1.out hbl
        have ZYu2 : Hid (SBox 34 y SagaD.zero u2) := ZYu1.out.below hl
        refine hK.out _ _ hbl ?_
        clear hl hbl
        clear hK K
        try (simp only [Act.put]; try simp only [sA_, sZ_, sS_])
        refine wpAnyV_only (nt_pre_below w6.heap.size) (i := 6) rfl (by kernel_rfl) (by rfl) fun K hK => ?_
        go_simp
        refine (CV4.out _ Bu2.out).mono ?_
        rintro e u3 ⟨rfl, hl⟩
        have hbl : Below w6.heap.size u2 u3 := Below.mono hl (by have h8 := Below.size B69.out; have h9 := Below.size Bu2.out; exact Nat.le_trans h8 h9)
        have Bu3 : Hid (Below w6.heap.size W9 u3) := Below.trans Bu2.out hbl
        have ZYu3 : Hid (SBox 34 y SagaD.zero u3) := ZYu2.out.below hl
        refine hK.out _ _ hbl ?_
        clear hl hbl
        clear hK K
        try (simp only [Act.put]; try simp only [sA_, sZ_, sS_])
        refine wpAnyV_take (nt_pre_below w6.heap.size) (i := 7) (d := some 41) (v := ?vaay7) rfl rfl (by kernel_rfl) (by kernel_rfl) (by kernel_rfl) (by kernel_rfl) (by kernel_rfl) (fun _ _ _ h => h) (by rfl) ?yaay7 ?_
        case yaay7 => (intro w' hw'; go_simp; try (with_reducible rfl))
        simp only [Act.put]; try simp only [sA_, sZ_, sS_]
        refine wpAnyV_write (i := 9) rfl rfl (by kernel_rfl) (by rfl) fun K hK => ?_
        refine wp_rstore_saga (s := ⟨x7.name, A7, n7, c7, a2, a3, a4, upH 0⟩) _ _ (by rfl) (by rfl) ZYu3.out (by rfl) ?_
        intro wz hz hg
        have ZF := hide hz
        have BF : Hid (Below w6.heap.size W9 wz) := Below.trans Bu3.out ((Below.refl _ _).grown hg (by have h8 := Below.size B69.out; have h9 := Below.size Bu3.out; exact Nat.le_trans h8 h9) (fun k hk => by have := Option.some.inj hk; have := HYa.out; omega))
        refine hK.out _ _ ?_
        clear hz hg
        clear hK K
        try simp only [Act.put]
        refine wpAnyV_done (by kernel_rfl) ?_ _
        go_wp2
        go_meet
        exact ⟨y, rfl, HYa.out, ZF.out, BF.out⟩
    case rest =>
      obtain ⟨y, rfl, hyg, hyb, hbl⟩ := hcut
      have HYG := hide hyg
      have HYB := hide hyb
      have HBC : Hid (Below w6.heap.size W9 wc) := hbl
      clear hyg hyb hbl
      go_wp2_with (fail)
      go_loopw [44] (fun s44 wr => ∃ q : Nat, q ≤ n1 ∧ s44 = .int .i64 (q : Int) ∧ Hid (SBox 34 y ⟨x7.name, A7, n7, c7, a2, a3, a4, hitsOf (P.take q) (upH 0)⟩ wr) ∧ Hid (Below w6.heap.size W9 wr)) (fun s44 _ => n1 - (Go.RowKit.intOf s44).toNat)
      case atStart => exact ⟨0, by omega, rfl, HYB, HBC⟩
      case round =>
        obtain ⟨q, hq, rfl, HB, HR⟩ := hrel
        have HQ1 := hide hq
        clear HYB HBC hq
        by_cases hqn : q < n1
        · obtain ⟨f, b1, off, hfk, hok, hA, hbB, q0, q1, q2, q3, htk⟩ := (FH.out wr HR.out).at_ (k := q) hqn
          subst hA
          obtain ⟨num, text, v, a, fn, fc, fb⟩ := f
          simp only at q0 q1 q2 q3
          have HTK : Hid (P.take (q + 1) = P.take q ++ [(num, text, v, fb)]) := by
            show _ = _
            rw [← HPF.out, ← List.map_take, ← List.map_take, htk, List.map_append]
            rfl
          have HOK := hide hok
          have L10 : Hid (Later wr (wr.alloc (.cells #[.int .i64 num, .bool text, .int .u64 v, .slice a fn fc] 61 (0, 0)))) := (Below.refl _ _).alloc (Nat.le_refl _) _
          have HGY : Hid (y < wr.heap.size) := lt_of_block HB.out
          have HSZ : Hid (w6.heap.size ≤ wr.heap.size) := by
            have h8 := Below.size B69.out
            have h9 := Below.size HR.out
            exact Nat.le_trans h8 h9
          clear htk hfk hok hbB
          go_wp2_with (fail)
          refine (rzag_is v HOK.out.2.1 (show Later (wr.alloc (.cells #[.int .i64 num, .bool text, .int .u64 v, .slice a fn fc] 61 (0, 0))) _ from Below.refl _ _)).mono ?_
          rintro e w11 ⟨rfl, hl11⟩
          have hl10 : Later wr (wr.alloc (.cells #[.int .i64 num, .bool text, .int .u64 v, .slice a fn fc] 61 (0, 0))) := L10.out
          have hl1 : Later wr w11 := Later.trans hl10 hl11
          have L11 : Hid (Later wr w11) := hl1
          have HB11 := hide (HB.out.below (show Later wr w11 from hl1))
          have c0 : w11.cell? ⟨wr.heap.size, 0, none⟩ = some (.int .i64 num) := by
            have h9 : w11.heap[wr.heap.size]? = some (.cells #[.int .i64 num, .bool text, .int .u64 v, .slice a fn fc] 61 (0, 0)) := (Below.block hl11 _ (by rw [show (wr.alloc (.cells #[.int .i64 num, .bool text, .int .u64 v, .slice a fn fc] 61 (0, 0))).heap.size = wr.heap.size + 1 from by simp]; omega)).trans (heap_alloc_new _ _)
            exact cell_of_row w11 _ 0 _ _ _ h9
          have HR11 : Hid (Below w6.heap.size W9 w11) := HR.out.trans (Below.mono hl1 HSZ.out)
          clear hl11 hl1 hl10
          obtain ⟨z, hz⟩ : ∃ z, zag v = z := ⟨_, rfl⟩
          have HZ := hide hz
          rw [hz]
          clear hz
          have HGW : Hid (y < w11.heap.size) := lt_of_block HB11.out
          by_cases h5 : num = 5
          · by_cases h1 : 1 ≤ z
            · by_cases h8 : z ≤ 8
              · obtain ⟨k, hk8, hkz⟩ : ∃ k : Nat, k < 8 ∧ z = (k : Int) + 1 := ⟨(z - 1).toNat, by omega, by omega⟩
                subst h5 hkz
                have d3 := HB11.out.thaw (5 + k)
                obtain ⟨b0, d2⟩ : ∃ b0, w11.cell? ⟨y, 5 + k, none⟩ = some (.bool b0) := ⟨_, HB11.out.hitAt hk8⟩
                have HF := hide (HB11.out.hit17 hk8)
                have HN : Hid (hitsOf (P.take (q + 1)) (upH 0) = (hitsOf (P.take q) (upH 0)).set k true) := by
                  show _ = _
                  rw [HTK.out]
                  unfold hitsOf
                  rw [List.foldl_append]
                  show hitOn _ (5, text, v, fb) = _
                  unfold hitOn hitSet
                  simp only [if_true, HZ.out]
                  rw [if_pos (by omega), show ((k : Int) + 1 - 1).toNat = k from by omega]
                clear h1 h8
                have hn3 : n1 ≤ 3000 := HN1.out
                go_wp2
                go_roundw
                case rel => exact ⟨q + 1, by omega, by go_num, (by rw [HN.out]; exact HF), (HR11.out.trans ((Below.refl _ _).grown (grown_setCells y [.bool true] (5 + k) w11) (by have h8 := Below.size B69.out; have h9 := Below.size HR11.out; exact Nat.le_trans h8 h9) (fun j hj => by have a1 := Option.some.inj hj; have a2 := HYG.out; omega)))⟩
                case measure => simp [Go.RowKit.intOf]; omega
              · have HN : Hid (hitsOf (P.take (q + 1)) (upH 0) = hitsOf (P.take q) (upH 0)) := by
                  show _ = _
                  rw [HTK.out]
                  unfold hitsOf
                  rw [List.foldl_append]
                  show hitOn _ (num, text, v, fb) = _
                  unfold hitOn hitSet
                  simp only [h5, if_true]
                  rw [show zag v = z from HZ.out, if_neg (by omega)]
                have hn3 : n1 ≤ 3000 := HN1.out
                have e5 : (num == 5) = true := by simpa using h5
                have e1 : decide (z ≥ 1) = true := decide_eq_true h1
                have e8 : decide (z ≤ 8) = false := decide_eq_false h8
                go_wp2
                go_roundw
                case rel => exact ⟨q + 1, by omega, by go_num, (by rw [HN.out]; exact HB11), HR11⟩
                case measure => simp [Go.RowKit.intOf]; omega
            · have HN : Hid (hitsOf (P.take (q + 1)) (upH 0) = hitsOf (P.take q) (upH 0)) := by
                show _ = _
                rw [HTK.out]
                unfold hitsOf
                rw [List.foldl_append]
                show hitOn _ (num, text, v, fb) = _
                unfold hitOn hitSet
                simp only [h5, if_true]
                rw [show zag v = z from HZ.out, if_neg (by omega)]
              have hn3 : n1 ≤ 3000 := HN1.out
              have e5 : (num == 5) = true := by simpa using h5
              have e1 : decide (z ≥ 1) = false := decide_eq_false h1
              go_wp2
              go_roundw
              case rel => exact ⟨q + 1, by omega, by go_num, (by rw [HN.out]; exact HB11), HR11⟩
              case measure => simp [Go.RowKit.intOf]; omega
          · have HN : Hid (hitsOf (P.take (q + 1)) (upH 0) = hitsOf (P.take q) (upH 0)) := by
              show _ = _
              rw [HTK.out]
              unfold hitsOf
              rw [List.foldl_append]
              show hitOn _ (num, text, v, fb) = _
              unfold hitOn hitSet
              simp only [if_neg h5]
            have hn3 : n1 ≤ 3000 := HN1.out
            have e5 : (num == 5) = false := by simpa using h5
            go_wp2
            go_roundw
            case rel => exact ⟨q + 1, by omega, by go_num, (by rw [HN.out]; exact HB11), HR11⟩
            case measure => simp [Go.RowKit.intOf]; omega
        · have hqe : q = n1 := by have := HQ1.out; omega
          clear hqn
          subst hqe
          have HTQ : Hid (P.take q = P) := by
            have h3 : fs.length = P.length := by rw [← HPF.out, List.length_map]
            have h4 := HFH.out.1
            exact List.take_of_length_le (by omega)
          rw [HTQ.out] at HB
          obtain ⟨hh, hhh⟩ : ∃ hh, hitsOf P (upH 0) = hh := ⟨_, rfl⟩
          rw [hhh] at HB
          obtain ⟨s9, hs9⟩ : ∃ s9 : SagaD, s9 = ⟨x7.name, A7, n7, c7, a2, a3, a4, hh⟩ := ⟨_, rfl⟩
          rw [← hs9] at HB
          have HQ9 : Hid (s9.q x7.steps = sagD P) := by
            show _ = _
            rw [hs9]
            unfold sagD
            rw [← HDE.out, HVA.out.1, HVA.out.2.1, HVA.out.2.2, hhh]
            rfl
          have L5r : Hid (Later w5 wr) := by
            have h1 : Later w5 w6 := L56.out
            have h2 : Below w6.heap.size w6 W9 := B69.out
            exact Later.trans h1 (h2.trans HR.out)
          have HST9 : Hid (StepsAt (w4.heap.size ≤ ·) wr s9.v x7.steps) := by
            have h1 := StepsAt.kept HS5.out (Kept.of_below L5r.out _)
            rw [hs9]
            exact h1
          have HN9 : Hid (s9.n = x7.steps.length) := by rw [hs9]; exact HN7.out.symm
          have HVI : ∀ m, I64 (valQ P m) := fun m => by
            unfold valQ pfind
            split
            · rename_i p hp
              have h2 := List.mem_reverse.1 (List.mem_of_find?_eq_some hp)
              rw [← HPF.out] at h2
              obtain ⟨f, h3, rfl⟩ := List.mem_map.1 h2
              exact zag_lt _ (HFH.out.2.1 f h3).2.1
            · exact zag_lt _ (by decide)
          have HFT : Hid ((sagD P).fits) := ⟨HVI 2, HVI 3, HVI 4⟩
          have H64 : Hid (I64 s9.step) := by
            have h1 : s9.step = (s9.q x7.steps).step := rfl
            show I64 s9.step
            rw [h1, HQ9.out]
            exact HFT.out.2.1
          have L2r : Hid (Later w2 wr) := by
            have h1 : Later w2 w6 := L26.out
            have h2 : Below w6.heap.size w6 W9 := B69.out
            exact Later.trans h1 (h2.trans HR.out)
          have LWr : Hid (Later w wr) := by
            have h1 : Later w w2 := L2.out
            exact Later.trans h1 L2r.out
          have HY4 : Hid (y0 < w4.heap.size) := by
            have h1 := lt_of_block Y2.out
            have h2 := Below.size L23.out
            have h3 := Below.size L34.out
            exact Nat.lt_of_lt_of_le h1 (Nat.le_trans h2 h3)
          have Yr := hide (Y2.out.below L2r.out)
          have CG0 : Hid (∀ W, Later wr W → Calls Tryz.prog 25 #[s9.val] W fun e w' => e = .returned (.bool (sagD P).good) ∧ Later W w') := fun W hW => by
            have h1 := rgood_any (s := s9) (l := x7.steps) (StepsAt.kept HST9.out (Kept.of_below hW _)) HDW.out H64.out
            rw [show goodF x7.steps s9 = (s9.q x7.steps).good from rfl, HQ9.out] at h1
            exact h1
          have CSG : Hid (∀ W, Later wr W → Calls Tryz.prog 9 #[s9.val] W (NewBytes W (sagaO (sagD P)))) := fun W hW => by
            have h1 := rsaga17_any (s := s9) (l := x7.steps) (StepsAt.kept HST9.out (Kept.of_below hW _)) HDW.out H64.out HN9.out
            rw [HQ9.out] at h1
            exact h1
          have LDS : Hid (∀ W, Later wr W → SBox 34 y s9 W) := fun W hW => HB.out.below hW
          have HLW : Hid (∀ W, Later wr W → Holds W W.heap.size A n b) := fun W hW => by
            have h1 : Later w wr := LWr.out
            have h2 : Later w W := Later.trans h1 hW
            exact (HL.out.below (show Below w.heap.size w W from h2)).more (Below.size h2)
          have HLB : Hid (∀ x ∈ b, x < 256) := HL.out.2.1
          obtain ⟨wd, hwd⟩ : ∃ wd, wr.drew = wd := ⟨_, rfl⟩
          have HWD := hide hwd
          have HD0 : Hid (Later wr wd) := by rw [← hwd]; exact ⟨rfl, rfl, rfl, Nat.le_refl _, fun _ _ => rfl⟩
          clear hs9 hhh HVI hwd
          go_upto_region 14 with (fail)
          refine wp_region_L (by kernel_rfl) ?_
          rw [HWD.out]
          cases hgd : (sagD P).good with
          | false =>
            have CG : Hid (∀ W, Later wr W → Calls Tryz.prog 25 #[s9.val] W fun e w' => e = .returned (.bool false) ∧ Later W w') := by rw [← hgd]; exact CG0.out
            have HTV : Hid (T = (4, SagaQ.zero)) := by
              show _ = _
              rw [HT.out, if_neg (by rw [hgd]; simp)]
            clear hgd CG0
            refine wpAnyL_take (i := 0) (d := some 67) (v := s9.val) rfl rfl (by kernel_rfl) (by kernel_rfl) (by kernel_rfl) (fun _ _ _ h => h) (by rfl) ?yab0 ?_
            case yab0 => (intro w' hw'; exact exec_rload_saga _ (by rfl) (by rfl) (LDS.out _ (Later.trans (show Later wr _ from HD0.out) hw')))
            simp only [Act.put]; try simp only [sA_, sZ_, sS_]
            refine wpAnyL_only (i := 1) rfl (by kernel_rfl) (by rfl) fun K hK => ?_
            go_simp
            refine (CG.out _ HD0.out).mono ?_
            rintro e w12 ⟨rfl, hl12⟩
            have hd0 : Later wr wd := HD0.out
            have HD12 : Hid (Later wr w12) := Later.trans hd0 hl12
            refine hK.out _ _ hl12 ?_
            clear hl12 hd0
            clear hK K
            try (simp only [Act.put]; try simp only [sA_, sZ_, sS_])
            refine wpAnyL_take (i := 2) (d := some 69) (v := ?vab2) rfl rfl (by kernel_rfl) (by kernel_rfl) (by kernel_rfl) (fun _ _ _ h => h) (by rfl) ?yab2 ?_
            case yab2 => (intro w' hw'; go_simp; try (with_reducible rfl))
            simp only [Act.put]; try simp only [sA_, sZ_, sS_]
            refine wpAnyL_take (i := 3) (d := some 70) (v := ?vab3) rfl rfl (by kernel_rfl) (by kernel_rfl) (by kernel_rfl) (fun _ _ _ h => h) (by rfl) ?yab3 ?_
            case yab3 => (intro w' hw'; go_simp; try (with_reducible rfl))
            simp only [Act.put]; try simp only [sA_, sZ_, sS_]
            refine wpAnyL_pass (i := 4) (d := some 71) rfl rfl (by kernel_rfl) (by kernel_rfl) (by kernel_rfl) (fun _ _ _ h => h) (by rfl) ?_
            try (simp only [Act.put]; try simp only [sA_, sZ_, sS_])
            refine wpAnyL_pass (i := 7) (d := some 74) rfl rfl (by kernel_rfl) (by kernel_rfl) (by kernel_rfl) (fun _ _ _ h => h) (by rfl) ?_
            try (simp only [Act.put]; try simp only [sA_, sZ_, sS_])
            refine wpAnyL_pass (i := 8) (d := some 75) rfl rfl (by kernel_rfl) (by kernel_rfl) (by kernel_rfl) (fun _ _ _ h => h) (by rfl) ?_
            try (simp only [Act.put]; try simp only [sA_, sZ_, sS_])
            refine wpAnyL_pass (i := 5) (d := some 72) rfl rfl (by kernel_rfl) (by kernel_rfl) (by kernel_rfl) (fun _ _ _ h => h) (by rfl) ?_
            try (simp only [Act.put]; try simp only [sA_, sZ_, sS_])
            refine wpAnyL_pass (i := 6) (d := some 73) rfl rfl (by kernel_rfl) (by kernel_rfl) (by kernel_rfl) (fun _ _ _ h => h) (by rfl) ?_
            try (simp only [Act.put]; try simp only [sA_, sZ_, sS_])
            refine wpAnyL_pass (i := 9) (d := some 76) rfl rfl (by kernel_rfl) (by kernel_rfl) (by kernel_rfl) (fun _ _ _ h => h) (by rfl) ?_
            try (simp only [Act.put]; try simp only [sA_, sZ_, sS_])
            refine wpAnyL_take (i := 10) (d := some 77) (v := ?vab10) rfl rfl (by kernel_rfl) (by kernel_rfl) (by kernel_rfl) (fun _ _ _ h => h) (by rfl) ?yab10 ?_
            case yab10 => (intro w' hw'; go_simp; try (with_reducible rfl))
            simp only [Act.put]; try simp only [sA_, sZ_, sS_]
            refine wpAnyL_done (by kernel_rfl) ?_ _
            have Y19 := hide (Yr.out.below HD12.out)
            have hl9 : Later w wr := LWr.out
            have L18 : Hid (Later w _) := Later.trans hl9 (show Later wr _ from HD12.out)
            clear hl9
            go_wp2_with (refine wpList_rstore_saga (s := SagaD.zero) (by rfl) _ _ (by rfl) (by rfl) Y19.out (by rfl) ?_)
            intro w19 Z9 G9
            have HZ9 := hide Z9
            have L19 : Hid (Later w w19) := L18.out.grown G9 (Below.size L18.out) (fun k hk => by have a1 := Option.some.inj hk; have a2 := HY0.out; omega)
            clear Z9
            go_wp2
            refine bodyPost_ret (results_box2 Tryz.results7 _ _ y0 34 _ _ (by rfl) HZ9.out Tryz.underlying34 (by rfl) (by kernel_rfl) (.int .i64 4) (by rfl)) (by rfl) ?_
            rw [HTV.out]
            exact ⟨SagaD.zero, [], rfl, rfl, ⟨fun _ => True, StepsAt.nil_ _ _⟩, (by simp), zero_fits, L19.out⟩
          | true =>
            have CG : Hid (∀ W, Later wr W → Calls Tryz.prog 25 #[s9.val] W fun e w' => e = .returned (.bool true) ∧ Later W w') := by rw [← hgd]; exact CG0.out
            by_cases hb : (sagD P).B = b
            · have HTV : Hid (T = (0, sagD P)) := by
                show _ = _
                rw [HT.out, if_pos ⟨hgd, hb⟩]
              have HEB : Hid (sagaO (sagD P) = b) := by
                show _ = _
                rw [sagB_O hgd, hb]
              clear hgd CG0 hb
              refine wpAnyL_take (i := 0) (d := some 67) (v := s9.val) rfl rfl (by kernel_rfl) (by kernel_rfl) (by kernel_rfl) (fun _ _ _ h => h) (by rfl) ?yak0 ?_
              case yak0 => (intro w' hw'; exact exec_rload_saga _ (by rfl) (by rfl) (LDS.out _ (Later.trans (show Later wr _ from HD0.out) hw')))
              simp only [Act.put]; try simp only [sA_, sZ_, sS_]
              refine wpAnyL_only (i := 1) rfl (by kernel_rfl) (by rfl) fun K hK => ?_
              go_simp
              refine (CG.out _ HD0.out).mono ?_
              rintro e w12 ⟨rfl, hl12⟩
              have hd0 : Later wr wd := HD0.out
              have HD12 : Hid (Later wr w12) := Later.trans hd0 hl12
              refine hK.out _ _ hl12 ?_
              clear hl12 hd0
              clear hK K
              try (simp only [Act.put]; try simp only [sA_, sZ_, sS_])
              refine wpAnyL_take (i := 2) (d := some 69) (v := ?vak2) rfl rfl (by kernel_rfl) (by kernel_rfl) (by kernel_rfl) (fun _ _ _ h => h) (by rfl) ?yak2 ?_
              case yak2 => (intro w' hw'; go_simp; try (with_reducible rfl))
              simp only [Act.put]; try simp only [sA_, sZ_, sS_]
              refine wpAnyL_take (i := 3) (d := some 70) (v := ?vak3) rfl rfl (by kernel_rfl) (by kernel_rfl) (by kernel_rfl) (fun _ _ _ h => h) (by rfl) ?yak3 ?_
              case yak3 => (intro w' hw'; go_simp; try (with_reducible rfl))
              simp only [Act.put]; try simp only [sA_, sZ_, sS_]
              refine wpAnyL_take (i := 4) (d := some 71) (v := s9.val) rfl rfl (by kernel_rfl) (by kernel_rfl) (by kernel_rfl) (fun _ _ _ h => h) (by rfl) ?yak4 ?_
              case yak4 => (intro w' hw'; exact exec_rload_saga _ (by rfl) (by rfl) (LDS.out _ (Later.trans (show Later wr _ from HD12.out) hw')))
              simp only [Act.put]; try simp only [sA_, sZ_, sS_]
              refine wpAnyL_take (i := 7) (d := some 74) (v := ?vak7) rfl rfl (by kernel_rfl) (by kernel_rfl) (by kernel_rfl) (fun _ _ _ h => h) (by rfl) ?yak7 ?_
              case yak7 => (intro w' hw'; go_simp; try (with_reducible rfl))
              simp only [Act.put]; try simp only [sA_, sZ_, sS_]
              refine wpAnyL_take (i := 8) (d := some 75) (v := .string (str b)) rfl rfl (by kernel_rfl) (by kernel_rfl) (by kernel_rfl) (fun _ _ _ h => h) (by rfl) ?yak8 ?_
              case yak8 => (intro w' hw'; have d1 := run_str w' w'.heap.size A n c b (HLW.out _ (Later.trans (show Later wr _ from HD12.out) hw')); go_simp; try (with_reducible rfl))
              simp only [Act.put]; try simp only [sA_, sZ_, sS_]
              refine wpAnyL_only (i := 5) rfl (by kernel_rfl) (by rfl) fun K hK => ?_
              go_simp
              refine (CSG.out _ HD12.out).mono ?_
              rintro e w13 ⟨A5, n5, c5, rfl, _, hh5, _, hl13⟩
              have HH5 := hide hh5
              have hd0 : Later wr w12 := HD12.out
              have HD13 : Hid (Later wr w13) := Later.trans hd0 hl13
              have HEQ : Hid (((str (sagaO (sagD P))).toList == (str b).toList) = true) := by
                show _ = _
                rw [HEB.out]
                exact str_beq b
              refine hK.out _ _ hl13 ?_
              clear hl13 hh5 hd0
              clear hK K
              try (simp only [Act.put]; try simp only [sA_, sZ_, sS_])
              refine wpAnyL_take (i := 6) (d := some 73) (v := .string (str (sagaO (sagD P)))) rfl rfl (by kernel_rfl) (by kernel_rfl) (by kernel_rfl) (fun _ _ _ h => h) (by rfl) ?yak6 ?_
              case yak6 => (intro w' hw'; have d1 := run_str w' w'.heap.size A5 n5 c5 (sagaO (sagD P)) (HH5.out.later hw'); go_simp; try (with_reducible rfl))
              simp only [Act.put]; try simp only [sA_, sZ_, sS_]
              refine wpAnyL_take (i := 9) (d := some 76) (v := ?vak9) rfl rfl (by kernel_rfl) (by kernel_rfl) (by kernel_rfl) (fun _ _ _ h => h) (by rfl) ?yak9 ?_
              case yak9 => (intro w' hw'; have e1 := HEQ.out; go_simp; try (with_reducible rfl))
              simp only [Act.put]; try simp only [sA_, sZ_, sS_]
              refine wpAnyL_take (i := 10) (d := some 77) (v := ?vak10) rfl rfl (by kernel_rfl) (by kernel_rfl) (by kernel_rfl) (fun _ _ _ h => h) (by rfl) ?yak10 ?_
              case yak10 => (intro w' hw'; go_simp; try (with_reducible rfl))
              simp only [Act.put]; try simp only [sA_, sZ_, sS_]
              refine wpAnyL_done (by kernel_rfl) ?_ _
              have Y19 := hide (Yr.out.below HD13.out)
              have S19 := hide (HB.out.below HD13.out)
              have ST19 := hide (StepsAt.kept HST9.out (Kept.of_below HD13.out _))
              have hl9 : Later w wr := LWr.out
              have L18 : Hid (Later w _) := Later.trans hl9 (show Later wr _ from HD13.out)
              clear hl9
              go_wp2_with (first | (refine wpList_val rfl (by rfl) (exec_rload_saga _ (by rfl) (by rfl) S19.out) ?_) | (refine wpList_rstore_saga (s := s9) (by rfl) _ _ (by rfl) (by rfl) Y19.out (by rfl) ?_))
              intro w19 Z9 G9
              have HZ9 := hide Z9
              have L19 : Hid (Later w w19) := L18.out.grown G9 (Below.size L18.out) (fun k hk => by have a1 := Option.some.inj hk; have a2 := HY0.out; omega)
              clear Z9
              go_wp2
              refine bodyPost_ret (results_box2 Tryz.results7 _ _ y0 34 _ _ (by rfl) HZ9.out Tryz.underlying34 (by rfl) (by kernel_rfl) (.int .i64 0) (by rfl)) (by rfl) ?_
              rw [HTV.out]
              exact ⟨s9, x7.steps, rfl, HQ9.out, ⟨_, StepsAt.kept ST19.out (Turned.kept (Turned.of_grown G9 (fun g e => (Option.some.inj e).symm) : Turned (fun i => i = y0) _ w19) (fun i hi e => by have a1 : w4.heap.size ≤ i := hi; have a2 : i = y0 := e; have a3 := HY4.out; omega))⟩, HDW.out, HFT.out, L19.out⟩
            · have HTV : Hid (T = (4, SagaQ.zero)) := by
                show _ = _
                rw [HT.out, if_neg (fun h => hb h.2)]
              have HEB : Hid (sagaO (sagD P) ≠ b) := by
                show _ ≠ _
                rw [sagB_O hgd]
                exact hb
              clear hgd CG0 hb
              refine wpAnyL_take (i := 0) (d := some 67) (v := s9.val) rfl rfl (by kernel_rfl) (by kernel_rfl) (by kernel_rfl) (fun _ _ _ h => h) (by rfl) ?yan0 ?_
              case yan0 => (intro w' hw'; exact exec_rload_saga _ (by rfl) (by rfl) (LDS.out _ (Later.trans (show Later wr _ from HD0.out) hw')))
              simp only [Act.put]; try simp only [sA_, sZ_, sS_]
              refine wpAnyL_only (i := 1) rfl (by kernel_rfl) (by rfl) fun K hK => ?_
              go_simp
              refine (CG.out _ HD0.out).mono ?_
              rintro e w12 ⟨rfl, hl12⟩
              have hd0 : Later wr wd := HD0.out
              have HD12 : Hid (Later wr w12) := Later.trans hd0 hl12
              refine hK.out _ _ hl12 ?_
              clear hl12 hd0
              clear hK K
              try (simp only [Act.put]; try simp only [sA_, sZ_, sS_])
              refine wpAnyL_take (i := 2) (d := some 69) (v := ?van2) rfl rfl (by kernel_rfl) (by kernel_rfl) (by kernel_rfl) (fun _ _ _ h => h) (by rfl) ?yan2 ?_
              case yan2 => (intro w' hw'; go_simp; try (with_reducible rfl))
              simp only [Act.put]; try simp only [sA_, sZ_, sS_]
              refine wpAnyL_take (i := 3) (d := some 70) (v := ?van3) rfl rfl (by kernel_rfl) (by kernel_rfl) (by kernel_rfl) (fun _ _ _ h => h) (by rfl) ?yan3 ?_
              case yan3 => (intro w' hw'; go_simp; try (with_reducible rfl))
              simp only [Act.put]; try simp only [sA_, sZ_, sS_]
              refine wpAnyL_take (i := 4) (d := some 71) (v := s9.val) rfl rfl (by kernel_rfl) (by kernel_rfl) (by kernel_rfl) (fun _ _ _ h => h) (by rfl) ?yan4 ?_
              case yan4 => (intro w' hw'; exact exec_rload_saga _ (by rfl) (by rfl) (LDS.out _ (Later.trans (show Later wr _ from HD12.out) hw')))
              simp only [Act.put]; try simp only [sA_, sZ_, sS_]
              refine wpAnyL_take (i := 7) (d := some 74) (v := ?van7) rfl rfl (by kernel_rfl) (by kernel_rfl) (by kernel_rfl) (fun _ _ _ h => h) (by rfl) ?yan7 ?_
              case yan7 => (intro w' hw'; go_simp; try (with_reducible rfl))
              simp only [Act.put]; try simp only [sA_, sZ_, sS_]
              refine wpAnyL_take (i := 8) (d := some 75) (v := .string (str b)) rfl rfl (by kernel_rfl) (by kernel_rfl) (by kernel_rfl) (fun _ _ _ h => h) (by rfl) ?yan8 ?_
              case yan8 => (intro w' hw'; have d1 := run_str w' w'.heap.size A n c b (HLW.out _ (Later.trans (show Later wr _ from HD12.out) hw')); go_simp; try (with_reducible rfl))
              simp only [Act.put]; try simp only [sA_, sZ_, sS_]
              refine wpAnyL_only (i := 5) rfl (by kernel_rfl) (by rfl) fun K hK => ?_
              go_simp
              refine (CSG.out _ HD12.out).mono ?_
              rintro e w13 ⟨A5, n5, c5, rfl, _, hh5, _, hl13⟩
              have HH5 := hide hh5
              have hd0 : Later wr w12 := HD12.out
              have HD13 : Hid (Later wr w13) := Later.trans hd0 hl13
              have HEQ : Hid (((str (sagaO (sagD P))).toList == (str b).toList) = false) := str_bne hh5.2.1 HLB.out HEB.out
              refine hK.out _ _ hl13 ?_
              clear hl13 hh5 hd0
              clear hK K
              try (simp only [Act.put]; try simp only [sA_, sZ_, sS_])
              refine wpAnyL_take (i := 6) (d := some 73) (v := .string (str (sagaO (sagD P)))) rfl rfl (by kernel_rfl) (by kernel_rfl) (by kernel_rfl) (fun _ _ _ h => h) (by rfl) ?yan6 ?_
              case yan6 => (intro w' hw'; have d1 := run_str w' w'.heap.size A5 n5 c5 (sagaO (sagD P)) (HH5.out.later hw'); go_simp; try (with_reducible rfl))
              simp only [Act.put]; try simp only [sA_, sZ_, sS_]
              refine wpAnyL_take (i := 9) (d := some 76) (v := ?van9) rfl rfl (by kernel_rfl) (by kernel_rfl) (by kernel_rfl) (fun _ _ _ h => h) (by rfl) ?yan9 ?_
              case yan9 => (intro w' hw'; have e1 := HEQ.out; go_simp; try (with_reducible rfl))
              simp only [Act.put]; try simp only [sA_, sZ_, sS_]
              refine wpAnyL_take (i := 10) (d := some 77) (v := ?van10) rfl rfl (by kernel_rfl) (by kernel_rfl) (by kernel_rfl) (fun _ _ _ h => h) (by rfl) ?yan10 ?_
              case yan10 => (intro w' hw'; go_simp; try (with_reducible rfl))
              simp only [Act.put]; try simp only [sA_, sZ_, sS_]
              refine wpAnyL_done (by kernel_rfl) ?_ _
              have Y19 := hide (Yr.out.below HD13.out)
              have hl9 : Later w wr := LWr.out
              have L18 : Hid (Later w _) := Later.trans hl9 (show Later wr _ from HD13.out)
              clear hl9
              go_wp2_with (refine wpList_rstore_saga (s := SagaD.zero) (by rfl) _ _ (by rfl) (by rfl) Y19.out (by rfl) ?_)
              intro w19 Z9 G9
              have HZ9 := hide Z9
              have L19 : Hid (Later w w19) := L18.out.grown G9 (Below.size L18.out) (fun k hk => by have a1 := Option.some.inj hk; have a2 := HY0.out; omega)
              clear Z9
              go_wp2
              refine bodyPost_ret (results_box2 Tryz.results7 _ _ y0 34 _ _ (by rfl) HZ9.out Tryz.underlying34 (by rfl) (by kernel_rfl) (.int .i64 4) (by rfl)) (by rfl) ?_
              rw [HTV.out]
              exact ⟨SagaD.zero, [], rfl, rfl, ⟨fun _ => True, StepsAt.nil_ _ _⟩, (by simp), zero_fits, L19.out⟩
end
end Go.Proofs.YtdkiopajilakcaaGreatDoor
/- Both readers of a saga tell the same, on data alone. -/
namespace Go.Proofs.YtdkiopajilakcaaGreatDoor
open Go.RowKit

theorem sagOn_fits {q : SagaQ} (h : q.fits) {p : PF} (hp : p.2.2.1 < 18446744073709551616) : (sagOn q p).fits := by
  have hz : I64 (zag p.2.2.1) := zag_lt _ hp
  obtain ⟨h1, h2, h3⟩ := h
  unfold sagOn
  split
  · exact ⟨h1, h2, h3⟩
  · split
    · exact ⟨hz, h2, h3⟩
    · split
      · exact ⟨h1, hz, h3⟩
      · split
        · exact ⟨h1, h2, hz⟩
        · exact ⟨h1, h2, h3⟩
theorem sagC_fits : ∀ (P : List PF) (q : SagaQ), q.fits → (∀ p ∈ P, p.2.2.1 < 18446744073709551616) → (P.foldl sagOn q).fits
  | [], _, h, _ => h
  | p :: r, q, h, hp => sagC_fits r _ (sagOn_fits h (hp p (by simp))) fun p' h' => hp p' (by simp [h'])
theorem sagD_fits {P : List PF} (hp : ∀ p ∈ P, p.2.2.1 < 18446744073709551616) : (sagD P).fits := by
  have hv : ∀ m, I64 (valQ P m) := fun m => by
    unfold valQ pfind
    split
    · rename_i p hf
      exact zag_lt _ (hp p (List.mem_reverse.1 (List.mem_of_find?_eq_some hf)))
    · exact zag_lt _ (by decide)
  exact ⟨hv 2, hv 3, hv 4⟩
theorem readS_same {l : List Nat} (hs : ∀ x ∈ l, x < 256) : readS l = readSD l := by
  have hp : ∀ p ∈ (pread l).2, p.2.2.1 < 18446744073709551616 := fun p h => (pread_fits hs p h).1.1
  have hC : (sagC (pread l).2).fits := sagC_fits _ _ ⟨⟨by decide, by decide⟩, ⟨by decide, by decide⟩, ⟨by decide, by decide⟩⟩ hp
  have hD := sagD_fits hp
  unfold readS readSD
  by_cases he : (pread l).1 ≠ 0
  · rw [if_pos he, if_pos he]
  · rw [if_neg he, if_neg he]
    by_cases h1 : (sagC (pread l).2).good = true ∧ (sagC (pread l).2).B = l
    · have h2 := pread_B h1.1 hC
      rw [h1.2] at h2
      have h3 : sagD (pread l).2 = sagC (pread l).2 := by
        have h4 := sagD_F h1.1
        rw [show (sagC (pread l).2).F = (pread l).2 from (congrArg Prod.snd h2).symm] at h4
        exact h4
      rw [if_pos h1, h3, if_pos h1]
    · by_cases h2 : (sagD (pread l).2).good = true ∧ (sagD (pread l).2).B = l
      · exfalso
        have h3 := pread_B h2.1 hD
        rw [h2.2] at h3
        have h4 := sagC_F h2.1
        rw [show (sagD (pread l).2).F = (pread l).2 from (congrArg Prod.snd h3).symm] at h4
        rw [h4] at h1
        exact h1 h2
      · rw [if_neg h1, if_neg h2]
end Go.Proofs.YtdkiopajilakcaaGreatDoor
/- What a saga wants, by the document. -/
namespace Go.Proofs.YtdkiopajilakcaaGreatDoor
open Go.RowKit
section
variable {w : World}
end
end Go.Proofs.YtdkiopajilakcaaGreatDoor
/- How a saga begins, by the document; whether two are alike. -/
namespace Go.Proofs.YtdkiopajilakcaaGreatDoor
open Go.RowKit
section
variable {op : Oper} {a : Act} {w : World} {Q : Exit → Act → World → Prop} {K : Act → World → Prop}
end
section
variable {w : World}
set_option maxHeartbeats 2000000 in
theorem rsame13_any {F G : Nat → Prop} {a1 a2 : ByteArray} {v v2 : Value} {l m : List StepD} (hl : StepsAt F w v l) (hm : StepsAt G w v2 m) :
    Calls Tryz.prog 34 #[.agg #[.string a1, v], .agg #[.string a2, v2]] w fun e w' => e = .returned (.bool (decide (a1 = a2 ∧ l = m))) ∧ Later w w' := by
  obtain ⟨A, c, rfl, h1, h2, _⟩ := FlatAt.shape hl
  obtain ⟨A2, c2, rfl, h3, h4, _⟩ := FlatAt.shape hm
  obtain ⟨n, hn⟩ : ∃ n, l.length = n := ⟨_, rfl⟩
  obtain ⟨n2, hn2⟩ : ∃ n2, m.length = n2 := ⟨_, rfl⟩
  rw [hn] at h1 hl ⊢
  rw [hn2] at h3 hm ⊢
  have hbw : Later w ((w.alloc (.cells #[.string a1, .slice A n c] 24 (0, 0))).alloc (.cells #[.string a2, .slice A2 n2 c2] 24 (0, 0))) := ((Below.refl _ _).alloc (Nat.le_refl _) _).alloc (by simp) _
  have CE := hide (Sd.same_def F G a1 a2 (.slice A n c) (.slice A2 n2 c2) l m _ (hl.kept (Kept.of_below hbw F)) (hm.kept (Kept.of_below hbw G)))
  have HBW := hide hbw
  clear hl hm hbw hn hn2 h1 h2 h3 h4
  obtain ⟨q, hq⟩ : ∃ q, decide (a1 = a2 ∧ l = m) = q := ⟨_, rfl⟩
  rw [hq] at CE ⊢
  clear hq
  go_enter Tryz.func34, Tryz.ntmps34
  go_wp2_with (fail)
  refine CE.out.mono ?_
  rintro e w1 ⟨rfl, hl1⟩
  have HL := hide (HBW.out.trans hl1)
  clear hl1 CE
  go_wp2
  go_ret
  exact ⟨rfl, HL.out⟩

end
end Go.Proofs.YtdkiopajilakcaaGreatDoor
/- Two sagas that are alike, for the document. -/
namespace Go.Proofs.YtdkiopajilakcaaGreatDoor
open Go.RowKit
section
variable {w : World}
set_option maxRecDepth 100000 in
set_option maxHeartbeats 8000000 in
theorem rsame_yes {F G : Nat → Prop} {s : SagaD} {l : List StepD} {p : Option Addr} {n c : Nat} (h : StepsAt F w s.v l) (h2 : StepsAt G w (.slice p n c) l) : Calls Tryz.prog 10 #[s.val, (s.withV p n c).val] w (Gives (.bool true) w) := by
  obtain ⟨W1, hW1⟩ : ∃ W1, W1 = (w.alloc (.cells s.cells.toArray 34 (0, 0))).alloc (.cells (s.withV p n c).cells.toArray 34 (0, 0)) := ⟨_, rfl⟩
  obtain ⟨g, hg⟩ : ∃ g, g = w.heap.size := ⟨_, rfl⟩
  have X1 : Hid (SBox 34 g s W1) := by rw [hW1, hg]; exact (heap_alloc_old _ _ (by simp)).trans (heap_alloc_new _ _)
  have Y1 : Hid (SBox 34 (g + 1) (s.withV p n c) W1) := by rw [hW1, hg]; exact heap_second _ _ _
  have L1 : Hid (Later w W1) := by rw [hW1]; exact ((Below.refl _ _).alloc (Nat.le_refl _) _).alloc (by simp) _
  have C : Hid (Calls Tryz.prog 34 #[.agg #[.string s.name, .slice s.p s.n s.c], .agg #[.string s.name, .slice p n c]] W1 fun e w' => e = .returned (.bool true) ∧ Later W1 w') := by
    have hh := rsame13_any (a1 := s.name) (a2 := s.name) (StepsAt.kept h (Kept.of_below L1.out _)) (StepsAt.kept h2 (Kept.of_below L1.out _))
    rwa [decide_eq_true ⟨rfl, rfl⟩] at hh
  have e0 := X1.out.c0
  have e1 := X1.out.c1
  have f0 : W1.cell? ⟨g + 1, 0, none⟩ = some (.string s.name) := Y1.out.c0
  have f1 : W1.cell? ⟨g + 1, 1, none⟩ = some (.slice p n c) := Y1.out.c1
  rw [hW1, hg] at e0 e1 f0 f1
  have HW1 := hide hW1.symm
  have HG := hide hg.symm
  clear hW1 hg h h2
  go_enter Tryz.func10, Tryz.ntmps10
  go_wp2_with (fail)
  simp only [HW1.out, HG.out]
  refine C.out.mono ?_
  rintro e w2 ⟨rfl, hl⟩
  have L2 := hide (L1.out.trans hl)
  have X2 := hide (X1.out.below hl)
  have Y2 := hide (Y1.out.below hl)
  have c2 := X2.out.c2
  have c3 := X2.out.c3
  have c4 := X2.out.c4
  have d2 : w2.cell? ⟨g + 1, 2, none⟩ = some (.int .i64 s.st) := Y2.out.c2
  have d3 : w2.cell? ⟨g + 1, 3, none⟩ = some (.int .i64 s.step) := Y2.out.c3
  have d4 : w2.cell? ⟨g + 1, 4, none⟩ = some (.int .i64 s.tr) := Y2.out.c4
  clear hl C e0 e1 f0 f1
  go_wp2_with (first | (refine wpList_val rfl (by rfl) (exec_load_hits _ (by rfl) (by rfl) X2.out) ?_) | (refine wpList_val rfl (by rfl) (exec_load_hits (s := s.withV p n c) _ (by rfl) (by rfl) Y2.out) ?_) | (refine wpList_val rfl (by rfl) ((exec_eql_hits s.hit s.hit _ _ _ (by rfl) (by rfl) (by rfl)).trans (by rw [decide_eq_true rfl])) ?_))
  go_ret
  exact ⟨rfl, L2.out⟩
end
end Go.Proofs.YtdkiopajilakcaaGreatDoor
/- ImageSagas. -/
namespace Go.Proofs.YtdkiopajilakcaaGreatDoor
open Go.RowKit Go.Maps
def LawTrueI (w : World) (e : Ending) (w' : World) : Prop := e = .returned (.bool true) ∧ Later w w'
theorem q_same {s t : SagaD} {l m : List StepD} (h : s.q l = t.q m) : l = m ∧ t = s.withV t.p t.n t.c := by
  unfold SagaD.q at h
  injection h with h1 h2 h3 h4 h5
  injection h1 with h6 h7
  refine ⟨h7, ?_⟩
  cases t
  unfold SagaD.withV
  simp only at h2 h3 h4 h5 h6
  rw [h2, h3, h4, h5, h6]
section
variable {w : World}
set_option maxHeartbeats 16000000 in
set_option maxRecDepth 100000 in
theorem law_sagas {F0 : Nat → Prop} {s : SagaD} {l : List StepD} {A : Option Addr} {n c : Nat} {b : List Nat} (hs : StepsAt F0 w s.v l) (hw : ∀ x ∈ l, x.wf) (h1 : I64 s.step) (hb : Holds w w.heap.size A n b) (hc : n ≤ c) (hn : n ≤ 9223372036854775807) (hT : Tab w) :
    Calls Tryz.prog 3 #[s.val, .slice A n c] w (LawTrueI w) := by
  obtain ⟨W1, hW1⟩ : ∃ W1, W1 = w.alloc (.cells s.cells.toArray 27 (0, 0)) := ⟨_, rfl⟩
  obtain ⟨y, hy⟩ : ∃ y, y = w.heap.size := ⟨_, rfl⟩
  have X1 : Hid (SBox 27 y s W1) := by rw [hW1, hy]; exact heap_alloc_new _ _
  have L1 : Hid (Later w W1) := by rw [hW1]; exact (Below.refl _ _).alloc (Nat.le_refl _) _
  have hsl : l.length ≤ 9223372036854775807 := by
    obtain ⟨A', c', _, q1, q2, _⟩ := FlatAt.shape hs
    unfold maxLen at q2
    omega
  have HSN := hide (steps_n hs)
  have CL := hide (long_any (a := s.name) (hs.kept (Kept.of_below L1.out _)) hsl)
  have HT := hide hT
  have HS := hide hs
  have HWF := hide hw
  have H1 := hide h1
  have HB := hide hb
  have HW1 := hide hW1.symm
  have HG := hide hy.symm
  have xe := X1.out
  rw [← HW1.out, ← HG.out] at xe
  have d0 := xe.c0
  have d1 := xe.c1
  clear hW1 hy hs hw h1 hb hT xe
  go_enter Tryz.func3, Tryz.ntmps3
  unfold SagaD.v at CL
  go_wp2_with (fail)
  simp only [HW1.out, HG.out]
  refine CL.out.mono ?_
  rintro e w2 ⟨rfl, hl2⟩
  have L2 : Hid (Later w w2) := Later.trans (show Later w W1 from L1.out) hl2
  have X2 := hide (X1.out.below hl2)
  obtain ⟨lg, hlg⟩ : ∃ lg, longF s.name l = lg := ⟨_, rfl⟩
  rw [hlg]
  clear hl2 CL hlg d0 d1
  cases lg with
  | true =>
    go_wp2_with (fail)
    refine (lives17_any (HT.out.later L2.out)).mono ?_
    rintro e w9 ⟨rfl, hl⟩
    have L9 : Hid (Later w w9) := Later.trans (show Later w w2 from L2.out) hl
    clear hl
    go_wp2
    go_ret
    exact ⟨rfl, L9.out⟩
  | false =>
    by_cases h3 : 3000 < n
    · have d3 : 3000 < (n : Int) := by omega
      clear h3
      go_wp2_with (fail)
      refine (lives17_any (HT.out.later L2.out)).mono ?_
      rintro e w9 ⟨rfl, hl⟩
      have L9 : Hid (Later w w9) := Later.trans (show Later w w2 from L2.out) hl
      clear hl
      go_wp2
      go_ret
      exact ⟨rfl, L9.out⟩
    · have d3 : ¬ 3000 < (n : Int) := by omega
      have hn3 : n ≤ 3000 := by omega
      have CR := hide (readsaga_any (c := c) (HB.out.later L2.out) (by omega) hc)
      have HC := hide hc
      obtain ⟨r, hr⟩ : ∃ r, readS b = r := ⟨_, rfl⟩
      have HRR : Hid (readSD b = r) := by show _ = _; rw [← readS_same HB.out.2.1, hr]
      rw [hr] at CR
      unfold GotS at CR
      clear h3 hr hc
      go_wp2_with (fail)
      refine CR.out.mono ?_
      rintro e w3 ⟨s9, l9, rfl, hq9, ⟨F9, hs9⟩, hw9, hf9, hl3⟩
      have HQ9 := hide hq9
      have HS9 := hide hs9
      have T3 : Hid (SBox 27 w3.heap.size SagaD.zero (w3.alloc (.cells #[.string ⟨#[]⟩, .slice none 0 0, .int .i64 0, .int .i64 0, .int .i64 0, .bool false, .bool false, .bool false, .bool false, .bool false, .bool false, .bool false, .bool false] 27 (0, 0)))) := heap_alloc_new _ _
      have L3a : Hid (Later w3 (w3.alloc (.cells #[.string ⟨#[]⟩, .slice none 0 0, .int .i64 0, .int .i64 0, .int .i64 0, .bool false, .bool false, .bool false, .bool false, .bool false, .bool false, .bool false, .bool false] 27 (0, 0)))) := (Below.refl _ _).alloc (Nat.le_refl _) _
      have L3 : Hid (Later w w3) := Later.trans (show Later w w2 from L2.out) hl3
      have L23 : Hid (Later w2 w3) := hl3
      clear hq9 hs9 hw9 hf9 hl3 CR
      go_wp2_with (refine wpList_store_saga (s := s9) (by rfl) _ _ (by rfl) (by rfl) T3.out (by rfl) ?_)
      intro w4 X4 G4
      have L34 : Hid (Later w3 w4) := L3a.out.grown G4 (by simp) (fun k hk => by have := Option.some.inj hk; omega)
      obtain ⟨y9, hy9⟩ : ∃ y9, w3.heap.size = y9 := ⟨_, rfl⟩
      rw [hy9] at X4 ⊢
      have HX4 := hide X4
      have L4 : Hid (Later w w4) := Later.trans (show Later w w3 from L3.out) L34.out
      have CD := hide (rreadsaga_any (c := c) (HB.out.later L4.out) hn3 HC.out)
      rw [HRR.out] at CD
      unfold GotS at CD
      clear X4 G4 T3 L3a hy9
      go_wp2_with (fail)
      refine CD.out.mono ?_
      rintro e w5 ⟨t9, m9, rfl, hq5, ⟨F5, hs5⟩, hw5, hf5, hl5⟩
      obtain ⟨e1, e2⟩ := q_same (HQ9.out.trans hq5.symm)
      subst e1
      have HT9 := hide e2
      have HS5 := hide hs5
      have T5 : Hid (SBox 34 w5.heap.size SagaD.zero (w5.alloc (.cells #[.string ⟨#[]⟩, .slice none 0 0, .int .i64 0, .int .i64 0, .int .i64 0, .bool false, .bool false, .bool false, .bool false, .bool false, .bool false, .bool false, .bool false] 34 (0, 0)))) := heap_alloc_new _ _
      have L5a : Hid (Later w5 (w5.alloc (.cells #[.string ⟨#[]⟩, .slice none 0 0, .int .i64 0, .int .i64 0, .int .i64 0, .bool false, .bool false, .bool false, .bool false, .bool false, .bool false, .bool false, .bool false] 34 (0, 0)))) := (Below.refl _ _).alloc (Nat.le_refl _) _
      have L45 : Hid (Later w4 w5) := hl5
      clear hq5 hs5 hw5 hf5 hl5 CD e2
      go_wp2_with (refine wpList_rstore_saga (s := t9) (by rfl) _ _ (by rfl) (by rfl) T5.out (by rfl) ?_)
      intro w6 X6 G6
      have L56 : Hid (Later w5 w6) := L5a.out.grown G6 (by simp) (fun k hk => by have := Option.some.inj hk; omega)
      obtain ⟨y5, hy5⟩ : ∃ y5, w5.heap.size = y5 := ⟨_, rfl⟩
      rw [hy5] at X6 ⊢
      have HX6 := hide X6
      have L46 : Hid (Later w4 w6) := Later.trans (show Later w4 w5 from L45.out) L56.out
      have L6 : Hid (Later w w6) := Later.trans (show Later w w4 from L4.out) L46.out
      have LX2 : Hid (∀ W, Later w6 W → SBox 27 y s W) := fun W hW => X2.out.below (Later.trans (Later.trans (show Later w2 w3 from L23.out) L34.out) (Later.trans (show Later w4 w6 from L46.out) hW))
      have LX4 : Hid (∀ W, Later w6 W → SBox 27 y9 s9 W) := fun W hW => HX4.out.below (Later.trans (show Later w4 w6 from L46.out) hW)
      have LX6 : Hid (∀ W, Later w6 W → SBox 34 y5 t9 W) := fun W hW => HX6.out.below hW
      obtain ⟨Q, hQ⟩ : ∃ Q, s.q l = Q := ⟨_, rfl⟩
      have CI : Hid (∀ W, Later w6 W → Calls Tryz.prog 8 #[s.val] W (NewBytes W (sagaO Q))) := fun W hW => by
        rw [← hQ]
        exact isaga_any (HS.out.kept (Kept.of_below (Later.trans (show Later w w6 from L6.out) hW) _)) HWF.out H1.out
      have CJ : Hid (∀ W, Later w6 W → Calls Tryz.prog 9 #[s.val] W (NewBytes W (sagaO Q))) := fun W hW => by
        rw [← hQ]
        exact rsaga17_any (HS.out.kept (Kept.of_below (Later.trans (show Later w w6 from L6.out) hW) _)) HWF.out H1.out HSN.out
      have CS : Hid (∀ W, Later w6 W → Calls Tryz.prog 10 #[s9.val, t9.val] W (Gives (.bool true) W)) := fun W hW => by
        have a1 : StepsAt F9 W s9.v l9 := HS9.out.kept (Kept.of_below (Later.trans (Later.trans (show Later w3 w4 from L34.out) L46.out) hW) _)
        have a2 : StepsAt F5 W (.slice t9.p t9.n t9.c) l9 := HS5.out.kept (Kept.of_below (Later.trans (show Later w5 w6 from L56.out) hW) _)
        have := rsame_yes a1 a2
        rw [← HT9.out] at this
        exact this
      have CV : Hid (∀ W, Later w6 W → Calls Tryz.prog 5 #[] W fun e w' => e = .returned (.bool true) ∧ Later W w') := fun W hW => lives17_any (HT.out.later (Later.trans (show Later w w6 from L6.out) hW))
      obtain ⟨K, hK0⟩ : ∃ K, sagaO Q = K := ⟨_, rfl⟩
      rw [hK0] at CI CJ
      have HEQ : Hid (((str K).toList == (str K).toList) = true) := str_beq K
      obtain ⟨er, her⟩ : ∃ er : Int, ((r.1 : Nat) : Int) = er := ⟨_, rfl⟩
      rw [her]
      obtain ⟨wd, hwd⟩ : ∃ wd, w6.drew = wd := ⟨_, rfl⟩
      have HWD := hide hwd
      have HD0 : Hid (Later w6 wd) := by rw [← hwd]; exact Later.drew _
      clear X6 G6 T5 L5a hy5 hQ hK0 her hwd
      go_wp2_with (fail)
      refine wp_region_L (by kernel_rfl) ?_
      rw [HWD.out]
      refine wpAnyL_take (i := 0) (d := some 28) (v := s.val) rfl rfl (by kernel_rfl) (by kernel_rfl) (by kernel_rfl) (fun _ _ _ h => h) (by rfl) ?yai0 ?_
      case yai0 => (intro w' hw'; exact exec_load_saga _ (by rfl) (by rfl) (LX2.out _ (Later.trans (show Later w6 _ from HD0.out) hw')))
      simp only [Act.put]; try simp only [sA_, sZ_, sS_]
      refine wpAnyL_take (i := 3) (d := some 31) (v := s.val) rfl rfl (by kernel_rfl) (by kernel_rfl) (by kernel_rfl) (fun _ _ _ h => h) (by rfl) ?yai3 ?_
      case yai3 => (intro w' hw'; exact exec_load_saga _ (by rfl) (by rfl) (LX2.out _ (Later.trans (show Later w6 _ from HD0.out) hw')))
      simp only [Act.put]; try simp only [sA_, sZ_, sS_]
      refine wpAnyL_only (i := 1) rfl (by kernel_rfl) (by rfl) fun K hK => ?_
      go_simp
      refine (CI.out _ HD0.out).mono ?_
      rintro e v1 ⟨A1, n1, c1, rfl, _, hh1, _, hl1⟩
      have HH1 := hide hh1
      clear hh1
      have HD1 : Hid (Later w6 v1) := Later.trans (show Later w6 _ from HD0.out) hl1
      refine hK.out _ _ hl1 ?_
      clear hl1
      clear hK K
      try (simp only [Act.put]; try simp only [sA_, sZ_, sS_])
      refine wpAnyL_take (i := 2) (d := some 30) (v := .string (str K)) rfl rfl (by kernel_rfl) (by kernel_rfl) (by kernel_rfl) (fun _ _ _ h => h) (by rfl) ?yai2 ?_
      case yai2 => (intro w' hw'; have d1 := run_str w' w'.heap.size A1 n1 c1 K (HH1.out.later hw'); go_simp; try (with_reducible rfl))
      simp only [Act.put]; try simp only [sA_, sZ_, sS_]
      refine wpAnyL_only (i := 4) rfl (by kernel_rfl) (by rfl) fun K hK => ?_
      go_simp
      refine (CJ.out _ HD1.out).mono ?_
      rintro e v2 ⟨A2, n2, c2, rfl, _, hh2, _, hl2⟩
      have HH2 := hide hh2
      clear hh2
      have HD2 : Hid (Later w6 v2) := Later.trans (show Later w6 _ from HD1.out) hl2
      refine hK.out _ _ hl2 ?_
      clear hl2
      clear hK K
      try (simp only [Act.put]; try simp only [sA_, sZ_, sS_])
      refine wpAnyL_take (i := 5) (d := some 33) (v := .string (str K)) rfl rfl (by kernel_rfl) (by kernel_rfl) (by kernel_rfl) (fun _ _ _ h => h) (by rfl) ?yai5 ?_
      case yai5 => (intro w' hw'; have d1 := run_str w' w'.heap.size A2 n2 c2 K (HH2.out.later hw'); go_simp; try (with_reducible rfl))
      simp only [Act.put]; try simp only [sA_, sZ_, sS_]
      refine wpAnyL_take (i := 6) (d := some 34) (v := .bool true) rfl rfl (by kernel_rfl) (by kernel_rfl) (by kernel_rfl) (fun _ _ _ h => h) (by rfl) ?yai6 ?_
      case yai6 => (intro w' hw'; have e1 := HEQ.out; go_simp; try (with_reducible rfl))
      simp only [Act.put]; try simp only [sA_, sZ_, sS_]
      refine wpAnyL_take (i := 7) (d := some 35) (v := ?vai7) rfl rfl (by kernel_rfl) (by kernel_rfl) (by kernel_rfl) (fun _ _ _ h => h) (by rfl) ?yai7 ?_
      case yai7 => (intro w' hw'; go_simp; try (with_reducible rfl))
      simp only [Act.put]; try simp only [sA_, sZ_, sS_]
      refine wpAnyL_take (i := 8) (d := some 36) (v := ?vai8) rfl rfl (by kernel_rfl) (by kernel_rfl) (by kernel_rfl) (fun _ _ _ h => h) (by rfl) ?yai8 ?_
      case yai8 => (intro w' hw'; go_simp; try (with_reducible rfl))
      simp only [Act.put]; try simp only [sA_, sZ_, sS_]
      refine wpAnyL_take (i := 9) (d := some 37) (v := ?vai9) rfl rfl (by kernel_rfl) (by kernel_rfl) (by kernel_rfl) (fun _ _ _ h => h) (by rfl) ?yai9 ?_
      case yai9 => (intro w' hw'; go_simp; try (with_reducible rfl))
      simp only [Act.put]; try simp only [sA_, sZ_, sS_]
      refine wpAnyL_take (i := 10) (d := some 38) (v := ?vai10) rfl rfl (by kernel_rfl) (by kernel_rfl) (by kernel_rfl) (fun _ _ _ h => h) (by rfl) ?yai10 ?_
      case yai10 => (intro w' hw'; go_simp; try (with_reducible rfl))
      simp only [Act.put]; try simp only [sA_, sZ_, sS_]
      refine wpAnyL_take (i := 11) (d := some 39) (v := ?vai11) rfl rfl (by kernel_rfl) (by kernel_rfl) (by kernel_rfl) (fun _ _ _ h => h) (by rfl) ?yai11 ?_
      case yai11 => (intro w' hw'; go_simp; try (with_reducible rfl))
      simp only [Act.put]; try simp only [sA_, sZ_, sS_]
      refine wpAnyL_take (i := 12) (d := some 40) (v := ?vai12) rfl rfl (by kernel_rfl) (by kernel_rfl) (by kernel_rfl) (fun _ _ _ h => h) (by rfl) ?yai12 ?_
      case yai12 => (intro w' hw'; go_simp; try (with_reducible rfl))
      simp only [Act.put]; try simp only [sA_, sZ_, sS_]
      refine wpAnyL_take (i := 13) (d := some 41) (v := s9.val) rfl rfl (by kernel_rfl) (by kernel_rfl) (by kernel_rfl) (fun _ _ _ h => h) (by rfl) ?yai13 ?_
      case yai13 => (intro w' hw'; exact exec_load_saga _ (by rfl) (by rfl) (LX4.out _ (Later.trans (show Later w6 _ from HD2.out) hw')))
      simp only [Act.put]; try simp only [sA_, sZ_, sS_]
      refine wpAnyL_take (i := 14) (d := some 42) (v := t9.val) rfl rfl (by kernel_rfl) (by kernel_rfl) (by kernel_rfl) (fun _ _ _ h => h) (by rfl) ?yai14 ?_
      case yai14 => (intro w' hw'; exact exec_rload_saga _ (by rfl) (by rfl) (LX6.out _ (Later.trans (show Later w6 _ from HD2.out) hw')))
      simp only [Act.put]; try simp only [sA_, sZ_, sS_]
      refine wpAnyL_only (i := 15) rfl (by kernel_rfl) (by rfl) fun K hK => ?_
      go_simp
      refine (CS.out _ HD2.out).mono ?_
      rintro e v3 ⟨rfl, hl3⟩
      have HD3 : Hid (Later w6 v3) := Later.trans (show Later w6 _ from HD2.out) hl3
      refine hK.out _ _ hl3 ?_
      clear hl3
      clear hK K
      try (simp only [Act.put]; try simp only [sA_, sZ_, sS_])
      refine wpAnyL_take (i := 16) (d := some 44) (v := ?vai16) rfl rfl (by kernel_rfl) (by kernel_rfl) (by kernel_rfl) (fun _ _ _ h => h) (by rfl) ?yai16 ?_
      case yai16 => (intro w' hw'; go_simp; try (with_reducible rfl))
      simp only [Act.put]; try simp only [sA_, sZ_, sS_]
      refine wpAnyL_take (i := 17) (d := some 45) (v := ?vai17) rfl rfl (by kernel_rfl) (by kernel_rfl) (by kernel_rfl) (fun _ _ _ h => h) (by rfl) ?yai17 ?_
      case yai17 => (intro w' hw'; go_simp; try (with_reducible rfl))
      simp only [Act.put]; try simp only [sA_, sZ_, sS_]
      refine wpAnyL_only (i := 18) rfl (by kernel_rfl) (by rfl) fun K hK => ?_
      go_simp
      refine (CV.out _ HD3.out).mono ?_
      rintro e v4 ⟨rfl, hl4⟩
      have HD4 : Hid (Later w6 v4) := Later.trans (show Later w6 _ from HD3.out) hl4
      refine hK.out _ _ hl4 ?_
      clear hl4
      clear hK K
      try (simp only [Act.put]; try simp only [sA_, sZ_, sS_])
      refine wpAnyL_take (i := 19) (d := some 47) (v := ?vai19) rfl rfl (by kernel_rfl) (by kernel_rfl) (by kernel_rfl) (fun _ _ _ h => h) (by rfl) ?yai19 ?_
      case yai19 => (intro w' hw'; go_simp; try (with_reducible rfl))
      simp only [Act.put]; try simp only [sA_, sZ_, sS_]
      refine wpAnyL_take (i := 20) (d := some 4) (v := ?vai20) rfl rfl (by kernel_rfl) (by kernel_rfl) (by kernel_rfl) (fun _ _ _ h => h) (by rfl) ?yai20 ?_
      case yai20 => (intro w' hw'; go_simp; try (with_reducible rfl))
      simp only [Act.put]; try simp only [sA_, sZ_, sS_]
      refine wpAnyL_done (by kernel_rfl) ?_ _
      go_wp2
      go_ret
      exact ⟨rfl, Later.trans (show Later w w6 from L6.out) HD4.out⟩
end
end Go.Proofs.YtdkiopajilakcaaGreatDoor
/- From what a row says of steps and definitions that came in to what the walks are told of them. -/
namespace Go.Proofs.YtdkiopajilakcaaGreatDoor
open Go.RowKit

def Sm {H : Type} (t : TypeId) (d : DataW H) : Prop := ∀ n ∈ d.weights Tryz.prog t, n ≤ reachBytes
theorem weights_mem_all {H : Type} {P : Program} {e : TypeId} {d : DataW H} : ∀ {l : List (DataW H)}, d ∈ l → ∀ n ∈ d.weights P e, n ∈ DataW.weightsAll P e l
  | [], h, _, _ => by cases h
  | y :: r, h, n, hn => by
    simp only [DataW.weightsAll, List.mem_append]
    rcases List.mem_cons.1 h with rfl | h
    · exact .inl hn
    · exact .inr (weights_mem_all h n hn)

section
variable {H : Type} {enc : TypeId × Value → H} {W : World}
abbrev Rdg (enc : TypeId × Value → H) (W : World) (n : Nat) (t : TypeId) (cs : List Value) (x : DataW H × List MemPlace) : Prop := DataW.trod enc Tryz.prog W 0 (fun _ => true) true n t cs = some x

theorem open_fields {t : TypeId} {fs : Array Field} {n : Nat} {cs : List Value} {x : DataW H × List MemPlace} (ht : Tryz.prog.underlying t = some (.struct fs)) (h : Rdg enc W n t cs x) (hs : Sm t x.1) :
    ∃ m, cs.length = Tryz.prog.cellsOf t ∧ ∀ (i : Nat) (f : Field), fs[i]? = some f → ∃ y, Rdg enc W m f.type ((cs.drop f.offset).take (Tryz.prog.cellsOf f.type)) y ∧ Sm f.type y.1 := by
  obtain ⟨xs, m, _, hx, hl, hxl, hf⟩ := DataW.trod_struct ht h
  refine ⟨m, hl, fun i f hi => ?_⟩
  have hil : i < xs.length := by rw [hxl]; exact (Array.getElem?_eq_some_iff.1 hi).1
  refine ⟨xs[i], (hf i f hi).trans (List.getElem?_eq_getElem hil), fun k hk => hs k ?_⟩
  rw [hx]
  simp only [DataW.weights, ht]
  exact DataW.weights_mem_each (j := i) (t := f.type) (d := xs[i].1) (by simp [hi]) (by simp [hil]) k hk
theorem open_int1 {t : TypeId} {n : Nat} {c : Value} {x : DataW H × List MemPlace} (ht : Tryz.prog.underlying t = some (.int .i64)) (h : Rdg enc W n t [c] x) : ∃ a : Int, c = .int .i64 a ∧ I64 a := by
  obtain ⟨a, h0, _, w0⟩ := DataW.trod_int ht h
  have b0 := bounds_i64 w0
  simp only [List.cons.injEq, and_true] at h0
  exact ⟨a, h0, by unfold I64; omega⟩
theorem open_bool1 {t : TypeId} {n : Nat} {c : Value} {x : DataW H × List MemPlace} (ht : Tryz.prog.underlying t = some .bool) (h : Rdg enc W n t [c] x) : ∃ a : Bool, c = .bool a := by
  obtain ⟨a, h0, _⟩ := DataW.trod_bool ht h
  simp only [List.cons.injEq, and_true] at h0
  exact ⟨a, h0⟩
theorem open_str1 {t : TypeId} {n : Nat} {c : Value} {x : DataW H × List MemPlace} (ht : Tryz.prog.underlying t = some .string) (h : Rdg enc W n t [c] x) (hs : Sm t x.1) : ∃ s : ByteArray, c = .string s ∧ s.size ≤ 140737488355328 := by
  obtain ⟨s, h0, h1, _⟩ := DataW.trod_string ht h
  simp only [List.cons.injEq, and_true] at h0
  refine ⟨s, h0, ?_⟩
  have := hs s.data.toList.length (by rw [h1]; simp [DataW.weights])
  unfold reachBytes at this
  rw [Array.length_toList] at this
  show s.data.size ≤ _
  omega

theorem open_elems {α : Type} [Inhabited α] (cells : α → List Value) (good : α → Prop) {t e : TypeId} (k : Nat) (hk : 0 < k) (hck : ∀ y, (cells y).length = k) (ht : Tryz.prog.underlying t = some (.slice e)) (hc : Tryz.prog.cellsOf e = k)
    (hel : ∀ (n : Nat) (cs : List Value) (x : DataW H × List MemPlace), Rdg enc W n e cs x → Sm e x.1 → ∃ y : α, cs = cells y ∧ good y) (hone : ∀ y, good y → ∀ u ∈ cells y, u.oneCell' = true)
    {n : Nat} {v : Value} {x : DataW H × List MemPlace} (h : Rdg enc W n t [v] x) (hs : Sm t x.1) :
    ∃ ys : List α, FlatAt (· < W.heap.size) W k v ys.length (ys.flatMap cells) ∧ ∀ y ∈ ys, good y := by
  rcases Go.Deep.open_slice ht h with ⟨hcs, _⟩ | ⟨a, l, c, m, n', D, Pl, hcs, _, hl, hm, hmm, hx, hi⟩
  · obtain rfl : v = .slice none 0 0 := by simpa using hcs
    exact ⟨[], FlatAt.nil_ _ _ _, by simp⟩
  · obtain rfl : v = .slice (some a) l c := by simpa using hcs
    simp only [if_true] at hmm
    rw [hc] at hi
    obtain ⟨F, hF⟩ := Go.Deep.choose_lt (p := fun i (y : α) => (∀ j u, (cells y)[j]? = some u → W.cell? (a.add (i * k + j)) = some u) ∧ good y) fun i (hil : i < l) => by
      obtain ⟨cs', h1, h2⟩ := hi i (by omega)
      have hsm : Sm e (D i) := fun q hq => hs q (by
        rw [hx]
        simp only [DataW.weights, ht]
        exact List.mem_cons_of_mem _ (List.mem_append_left _ (weights_mem_all (List.mem_map.2 ⟨i, List.mem_range.2 hil, rfl⟩) q hq)))
      obtain ⟨y, hy, hg⟩ := hel n' cs' (D i, Pl i) h2 hsm
      obtain ⟨_, hlen, hat⟩ := World.cells?_some h1
      refine ⟨y, fun j u hu => ?_, hg⟩
      have hj : j < k := by rw [← hck y]; exact (List.getElem?_eq_some_iff.1 hu).1
      rw [← Go.Deep.add_add, hat j hj, hy, hu]
    refine ⟨(List.range l).map F, ⟨?_, ?_, some a, c, by simp, by simpa using hl, hm, (fun e => by cases e), fun hn => ?_⟩, fun y hy => ?_⟩
    · exact flat_len cells k _ (fun y _ => hck y)
    · intro u hu
      obtain ⟨y, hy, hu⟩ := List.mem_flatMap.1 hu
      obtain ⟨i, hi, rfl⟩ := List.mem_map.1 hy
      exact hone _ (hF i (List.mem_range.1 hi)).2 u hu
    · have hn' : 0 < l := by simpa using hn
      obtain ⟨b, off, spot⟩ := a
      have hk0 : (cells (F 0))[0]? = some ((cells (F 0))[0]'(by rw [hck]; exact hk)) := List.getElem?_eq_getElem (by rw [hck]; exact hk)
      have h0 := (hF 0 hn').1 0 _ hk0
      have hspot : spot = none := by simpa [Addr.add] using World.cell?_spot h0
      subst hspot
      have hblt : b < W.heap.size := World.block_lt_of_cell? W _ (by simpa [Addr.add] using h0)
      refine ⟨b, off, rfl, hblt, hblt, fun j u hj => ?_⟩
      have hjl : j < l * k := by
        have := (List.getElem?_eq_some_iff.1 hj).1
        rw [flat_len cells k _ (fun y _ => hck y)] at this
        simpa using this
      have hq : j / k < l := Nat.div_lt_of_lt_mul (by rwa [Nat.mul_comm])
      have hr : j % k < k := Nat.mod_lt _ hk
      have hj2 : j = j / k * k + j % k := by rw [Nat.mul_comm]; exact (Nat.div_add_mod j k).symm
      have hge := flat_get cells k ((List.range l).map F) (j / k) (F (j / k)) (fun y _ => hck y) (by simp [hq])
      have hu : (cells (F (j / k)))[j % k]? = some u := by
        rw [← hge, List.getElem?_take_of_lt hr, List.getElem?_drop, ← hj2, hj]
      have := (hF (j / k) hq).1 (j % k) u hu
      rwa [Addr.add_lit, ← hj2] at this
    · obtain ⟨i, hi, rfl⟩ := List.mem_map.1 hy
      exact (hF i (List.mem_range.1 hi)).2
end

instance : Inhabited StepD := ⟨⟨⟨#[]⟩, 0, 0, 0, false, false⟩⟩
instance : Inhabited (OpD × Value) := ⟨⟨.zero, .slice none 0 0⟩⟩
section
variable {H : Type} {enc : TypeId × Value → H} {W : World}
set_option maxRecDepth 100000

theorem open_step {n : Nat} {cs : List Value} {x : DataW H × List MemPlace} (h : Rdg enc W n 42 cs x) (hs : Sm 42 x.1) :
    ∃ s : StepD, cs = s.cells ∧ s.wf := by
  obtain ⟨m, hl, hf⟩ := open_fields Tryz.underlying42 h hs
  have hl : cs.length = 6 := hl
  match cs, hl with
  | [c0, c1, c2, c3, c4, c5], _ =>
    obtain ⟨y0, g0, s0⟩ := hf 0 _ rfl
    have g0 : Rdg enc W m 9 [c0] y0 := (congrArg (fun q => DataW.trod enc Tryz.prog W 0 (fun _ => true) true m 9 q) (show ([c0, c1, c2, c3, c4, c5].drop 0).take (Tryz.prog.cellsOf 9) = [c0] from by rw [show Tryz.prog.cellsOf 9 = 1 from by kernel_rfl]; rfl)).symm.trans g0
    obtain ⟨a0, e0, w0⟩ := open_str1 Tryz.underlying9 g0 s0
    obtain ⟨y1, g1, s1⟩ := hf 1 _ rfl
    have g1 : Rdg enc W m 3 [c1] y1 := (congrArg (fun q => DataW.trod enc Tryz.prog W 0 (fun _ => true) true m 3 q) (show ([c0, c1, c2, c3, c4, c5].drop 1).take (Tryz.prog.cellsOf 3) = [c1] from by rw [show Tryz.prog.cellsOf 3 = 1 from by kernel_rfl]; rfl)).symm.trans g1
    obtain ⟨a1, e1, w1⟩ := open_int1 Tryz.underlying3 g1
    obtain ⟨y2, g2, s2⟩ := hf 2 _ rfl
    have g2 : Rdg enc W m 3 [c2] y2 := (congrArg (fun q => DataW.trod enc Tryz.prog W 0 (fun _ => true) true m 3 q) (show ([c0, c1, c2, c3, c4, c5].drop 2).take (Tryz.prog.cellsOf 3) = [c2] from by rw [show Tryz.prog.cellsOf 3 = 1 from by kernel_rfl]; rfl)).symm.trans g2
    obtain ⟨a2, e2, w2⟩ := open_int1 Tryz.underlying3 g2
    obtain ⟨y3, g3, s3⟩ := hf 3 _ rfl
    have g3 : Rdg enc W m 3 [c3] y3 := (congrArg (fun q => DataW.trod enc Tryz.prog W 0 (fun _ => true) true m 3 q) (show ([c0, c1, c2, c3, c4, c5].drop 3).take (Tryz.prog.cellsOf 3) = [c3] from by rw [show Tryz.prog.cellsOf 3 = 1 from by kernel_rfl]; rfl)).symm.trans g3
    obtain ⟨a3, e3, w3⟩ := open_int1 Tryz.underlying3 g3
    obtain ⟨y4, g4, s4⟩ := hf 4 _ rfl
    have g4 : Rdg enc W m 4 [c4] y4 := (congrArg (fun q => DataW.trod enc Tryz.prog W 0 (fun _ => true) true m 4 q) (show ([c0, c1, c2, c3, c4, c5].drop 4).take (Tryz.prog.cellsOf 4) = [c4] from by rw [show Tryz.prog.cellsOf 4 = 1 from by kernel_rfl]; rfl)).symm.trans g4
    obtain ⟨a4, e4⟩ := open_bool1 Tryz.underlying4 g4
    obtain ⟨y5, g5, s5⟩ := hf 5 _ rfl
    have g5 : Rdg enc W m 4 [c5] y5 := (congrArg (fun q => DataW.trod enc Tryz.prog W 0 (fun _ => true) true m 4 q) (show ([c0, c1, c2, c3, c4, c5].drop 5).take (Tryz.prog.cellsOf 4) = [c5] from by rw [show Tryz.prog.cellsOf 4 = 1 from by kernel_rfl]; rfl)).symm.trans g5
    obtain ⟨a5, e5⟩ := open_bool1 Tryz.underlying4 g5
    subst e0 e1 e2 e3 e4 e5
    exact ⟨⟨a0, a1, a2, a3, a4, a5⟩, rfl, w0, w1, w2, w3⟩

theorem open_steps {n : Nat} {v : Value} {x : DataW H × List MemPlace} (h : Rdg enc W n 22 [v] x) (hs : Sm 22 x.1) : ∃ l, StepsAt (· < W.heap.size) W v l ∧ ∀ s ∈ l, s.wf := by
  obtain ⟨ys, h1, h2⟩ := open_elems StepD.cells StepD.wf 6 (by decide) StepD.len Tryz.underlying22 (by kernel_rfl) (fun n cs x h hs => open_step h hs) (fun y _ => y.one) h hs
  exact ⟨ys, h1, h2⟩

theorem open_def {n : Nat} {cs : List Value} {x : DataW H × List MemPlace} (h : Rdg enc W n 24 cs x) (hs : Sm 24 x.1) :
    ∃ (nm : ByteArray) (v : Value) (l : List StepD), cs = [.string nm, v] ∧ nm.size ≤ 140737488355328 ∧ StepsAt (· < W.heap.size) W v l ∧ ∀ s ∈ l, s.wf := by
  obtain ⟨m, hl, hf⟩ := open_fields Tryz.underlying24 h hs
  have hl : cs.length = 2 := hl
  match cs, hl with
  | [c0, c1], _ =>
    obtain ⟨y0, g0, s0⟩ := hf 0 _ rfl
    have g0 : Rdg enc W m 9 [c0] y0 := (congrArg (fun q => DataW.trod enc Tryz.prog W 0 (fun _ => true) true m 9 q) (show ([c0, c1].drop 0).take (Tryz.prog.cellsOf 9) = [c0] from by rw [show Tryz.prog.cellsOf 9 = 1 from by kernel_rfl]; rfl)).symm.trans g0
    obtain ⟨a0, e0, w0⟩ := open_str1 Tryz.underlying9 g0 s0
    obtain ⟨y1, g1, s1⟩ := hf 1 _ rfl
    have g1 : Rdg enc W m 22 [c1] y1 := (congrArg (fun q => DataW.trod enc Tryz.prog W 0 (fun _ => true) true m 22 q) (show ([c0, c1].drop 1).take (Tryz.prog.cellsOf 22) = [c1] from by rw [show Tryz.prog.cellsOf 22 = 1 from by kernel_rfl]; rfl)).symm.trans g1
    obtain ⟨l, hl1, hl2⟩ := open_steps g1 s1
    subst e0
    exact ⟨a0, _, l, rfl, w0, hl1, hl2⟩
theorem sm_of {ts : List TypeId} {ds : List (DataW H)} (hsz : (DataW.weightsEach Tryz.prog ts ds).all (· ≤ reachBytes) = true) {j : Nat} {t : TypeId} {d : DataW H} (ht : ts[j]? = some t) (hd : ds[j]? = some d) : Sm t d := fun n hn => by
  have := List.all_eq_true.1 hsz n (DataW.weights_mem_each ht hd n hn)
  simpa using this
end
end Go.Proofs.YtdkiopajilakcaaGreatDoor
/- From what a row says of numbers and events that came in to what the walks are told of them. -/
namespace Go.Proofs.YtdkiopajilakcaaGreatDoor
open Go.RowKit
def EvD.wf (e : EvD) : Prop := I64 e.kind ∧ I64 e.step ∧ I64 e.tr
theorem EvD.len (e : EvD) : e.cells.length = 5 := rfl
theorem EvD.one (e : EvD) : ∀ u ∈ e.cells, u.oneCell' = true := by
  intro u hu
  simp only [EvD.cells, List.mem_cons, List.not_mem_nil, or_false] at hu
  rcases hu with rfl | rfl | rfl | rfl | rfl <;> rfl
instance : Inhabited EvD := ⟨⟨0, 0, 0, false, false⟩⟩
def EvsAt (F : Nat → Prop) (w : World) (v : Value) (l : List EvD) : Prop := FlatAt F w 5 v l.length (l.flatMap EvD.cells)
theorem EvsAt.kept {F : Nat → Prop} {w w' : World} {v : Value} {l : List EvD} (h : EvsAt F w v l) (hk : Kept F w w') : EvsAt F w' v l := FlatAt.kept h hk
section
variable {H : Type} {enc : TypeId × Value → H} {W : World}
end
end Go.Proofs.YtdkiopajilakcaaGreatDoor
/- From what a row says of a saga that came in to what the walks are told of it. -/
namespace Go.Proofs.YtdkiopajilakcaaGreatDoor
open Go.RowKit
section
variable {H : Type} {enc : TypeId × Value → H} {W : World}
set_option maxRecDepth 100000
theorem open_hits {n : Nat} {c0 c1 c2 c3 c4 c5 c6 c7 : Value} {x : DataW H × List MemPlace} (h : Rdg enc W n 25 [c0, c1, c2, c3, c4, c5, c6, c7] x) : ∃ y : Hits, [c0, c1, c2, c3, c4, c5, c6, c7] = y.cells := by
  obtain ⟨xs, m, _, _, _, hxs, hf⟩ := DataW.trod_array Tryz.underlying25 h
  have he : Tryz.prog.cellsOf 4 = 1 := by kernel_rfl
  have el : ∀ (i : Nat) (c : Value), i < 8 → ([c0, c1, c2, c3, c4, c5, c6, c7].drop i).take 1 = [c] → ∃ b : Bool, c = .bool b := fun i c hi hc => by
    have h1 := hf i hi
    rw [he, Nat.mul_one, hc, List.getElem?_eq_getElem (by omega)] at h1
    exact open_bool1 Tryz.underlying4 h1
  obtain ⟨b0, rfl⟩ := el 0 c0 (by decide) rfl
  obtain ⟨b1, rfl⟩ := el 1 c1 (by decide) rfl
  obtain ⟨b2, rfl⟩ := el 2 c2 (by decide) rfl
  obtain ⟨b3, rfl⟩ := el 3 c3 (by decide) rfl
  obtain ⟨b4, rfl⟩ := el 4 c4 (by decide) rfl
  obtain ⟨b5, rfl⟩ := el 5 c5 (by decide) rfl
  obtain ⟨b6, rfl⟩ := el 6 c6 (by decide) rfl
  obtain ⟨b7, rfl⟩ := el 7 c7 (by decide) rfl
  exact ⟨⟨b0, b1, b2, b3, b4, b5, b6, b7⟩, rfl⟩
def SagaIn (W : World) (s : SagaD) (l : List StepD) : Prop := StepsAt (· < W.heap.size) W s.v l ∧ (∀ a ∈ l, a.wf) ∧ I64 s.step
theorem open_saga {n : Nat} {cs : List Value} {x : DataW H × List MemPlace} (h : Rdg enc W n 27 cs x) (hs : Sm 27 x.1) : ∃ (s : SagaD) (l : List StepD), cs = s.cells ∧ SagaIn W s l := by
  obtain ⟨m, hl, hf⟩ := open_fields Tryz.underlying27 h hs
  have hl : cs.length = 13 := hl
  match cs, hl with
  | [c0, c1, c2, c3, c4, c5, c6, c7, c8, c9, c10, c11, c12], _ =>
    obtain ⟨y0, g0, s0⟩ := hf 0 _ rfl
    have g0 : Rdg enc W m 24 [c0, c1] y0 := (congrArg (fun q => DataW.trod enc Tryz.prog W 0 (fun _ => true) true m 24 q) (show ([c0, c1, c2, c3, c4, c5, c6, c7, c8, c9, c10, c11, c12].drop 0).take (Tryz.prog.cellsOf 24) = [c0, c1] from by rw [show Tryz.prog.cellsOf 24 = 2 from by kernel_rfl]; rfl)).symm.trans g0
    obtain ⟨y1, g1, s1⟩ := hf 1 _ rfl
    have g1 : Rdg enc W m 3 [c2] y1 := (congrArg (fun q => DataW.trod enc Tryz.prog W 0 (fun _ => true) true m 3 q) (show ([c0, c1, c2, c3, c4, c5, c6, c7, c8, c9, c10, c11, c12].drop 2).take (Tryz.prog.cellsOf 3) = [c2] from by rw [show Tryz.prog.cellsOf 3 = 1 from by kernel_rfl]; rfl)).symm.trans g1
    obtain ⟨y2, g2, s2⟩ := hf 2 _ rfl
    have g2 : Rdg enc W m 3 [c3] y2 := (congrArg (fun q => DataW.trod enc Tryz.prog W 0 (fun _ => true) true m 3 q) (show ([c0, c1, c2, c3, c4, c5, c6, c7, c8, c9, c10, c11, c12].drop 3).take (Tryz.prog.cellsOf 3) = [c3] from by rw [show Tryz.prog.cellsOf 3 = 1 from by kernel_rfl]; rfl)).symm.trans g2
    obtain ⟨y3, g3, s3⟩ := hf 3 _ rfl
    have g3 : Rdg enc W m 3 [c4] y3 := (congrArg (fun q => DataW.trod enc Tryz.prog W 0 (fun _ => true) true m 3 q) (show ([c0, c1, c2, c3, c4, c5, c6, c7, c8, c9, c10, c11, c12].drop 4).take (Tryz.prog.cellsOf 3) = [c4] from by rw [show Tryz.prog.cellsOf 3 = 1 from by kernel_rfl]; rfl)).symm.trans g3
    obtain ⟨y4, g4, s4⟩ := hf 4 _ rfl
    have g4 : Rdg enc W m 25 [c5, c6, c7, c8, c9, c10, c11, c12] y4 := (congrArg (fun q => DataW.trod enc Tryz.prog W 0 (fun _ => true) true m 25 q) (show ([c0, c1, c2, c3, c4, c5, c6, c7, c8, c9, c10, c11, c12].drop 5).take (Tryz.prog.cellsOf 25) = [c5, c6, c7, c8, c9, c10, c11, c12] from by rw [show Tryz.prog.cellsOf 25 = 8 from by kernel_rfl]; rfl)).symm.trans g4
    obtain ⟨nm, v, l, e0, _, h2, h3⟩ := open_def g0 s0
    obtain ⟨a1, e1, _⟩ := open_int1 Tryz.underlying3 g1
    obtain ⟨a2, e2, w2⟩ := open_int1 Tryz.underlying3 g2
    obtain ⟨a3, e3, _⟩ := open_int1 Tryz.underlying3 g3
    obtain ⟨y, e4⟩ := open_hits g4
    obtain ⟨A, c, rfl, _, _, _⟩ := FlatAt.shape h2
    subst e1 e2 e3
    simp only [List.cons.injEq, and_true] at e0
    obtain ⟨rfl, rfl⟩ := e0
    simp only [Hits.cells, List.cons.injEq, and_true] at e4
    obtain ⟨rfl, rfl, rfl, rfl, rfl, rfl, rfl, rfl⟩ := e4
    exact ⟨⟨nm, A, l.length, c, a1, a2, a3, y⟩, l, rfl, h2, h3, w2⟩
theorem arg_saga {cs : Array Value} {d : DataW H} {p : List MemPlace} (h : DataW.Trod enc Tryz.prog W 0 (fun _ => true) true 27 (.agg cs) d p) (hs : Sm 27 d) : ∃ (s : SagaD) (l : List StepD), cs = s.cells.toArray ∧ SagaIn W s l := by
  obtain ⟨fuel, hf⟩ := h
  obtain ⟨s, l, e, hi⟩ := open_saga (n := fuel) (x := (d, p)) hf hs
  refine ⟨s, l, ?_, hi⟩
  have e2 : cs.toList = s.cells := e
  rw [← e2]
end
end Go.Proofs.YtdkiopajilakcaaGreatDoor
/- ImageSagas, as the claim asks it. -/
namespace Go.Proofs.YtdkiopajilakcaaGreatDoor
open Go.RowKit
theorem law_sagasW (s : SagaD) (sl : List StepD) (A : Option Addr) (n c : Nat) (l : List Nat) (w : World) (h1 : SagaIn w s sl) (h2 : Holds w w.heap.size A n l) (hn : n ≤ 140737488355328) (hc : n ≤ c) (hT : Tab w) :
    Calls Tryz.prog 3 #[.agg s.cells.toArray, .slice A n c] w fun e w' => e = .returned (.bool true) ∧ Later w w' := law_sagas h1.1 h1.2.1 h1.2.2 h2 hc (by omega) hT
end Go.Proofs.YtdkiopajilakcaaGreatDoor
/- From what a row says of a slice of bytes that came in to what the walks are told of it. -/
namespace Go.Proofs.YtdkiopajilakcaaGreatDoor
open Go.RowKit

theorem holds_of_row {w : World} {x : Addr} {len cap : Nat} {zs : List Int} (hl : len ≤ cap) (hz : zs.length = cap)
    (hcell : ∀ i, i < zs.length → w.cell? (x.add i) = some (.int .u8 (zs.getD i 0))) (hwz : ∀ n ∈ zs, (Lit.int .u8 n).wf = true) :
    ∃ l, Holds w w.heap.size (some x) len l := by
  have hb : ∀ n ∈ zs, 0 ≤ n ∧ n < 256 := fun n hn => by
    have := bounds_u8 (hwz n hn)
    omega
  refine ⟨(zs.take len).map Int.toNat, by simp; omega, ?_, fun h0 => ?_⟩
  · intro y hy
    obtain ⟨z, hz', rfl⟩ := List.mem_map.1 hy
    have := hb z (List.mem_of_mem_take hz')
    omega
  · obtain ⟨b, off, spot⟩ := x
    have h1 := hcell 0 (by omega)
    have hspot : spot = none := by simpa [Addr.add] using World.cell?_spot h1
    subst hspot
    refine ⟨b, off, rfl, ?_, fun i hi => ?_⟩
    · exact World.block_lt_of_cell? w _ (by simpa [Addr.add] using h1)
    · have h2 := hcell i (by omega)
      rw [Addr.add_lit] at h2
      rw [h2]
      have hiz : i < zs.length := by omega
      have h3 := hb zs[i] (List.getElem_mem hiz)
      have h4 : (((zs.take len).map Int.toNat).getD i 0 : Nat) = zs[i].toNat := by
        simp [List.getD, hi, hiz]
      have h5 : zs.getD i 0 = zs[i] := by simp [List.getD, hiz]
      rw [h4, h5]
      congr 2
      omega

theorem bytes_of_arg {H : Type} {enc : TypeId × Value → H} {W : World} {a : Option Addr} {len cap : Nat} {d : DataW H} {p : List MemPlace}
    (h : DataW.Trod enc Tryz.prog W 0 (fun _ => true) true 28 (.slice a len cap) d p) : ∃ l, Holds W W.heap.size a len l ∧ len ≤ maxLen := by
  obtain ⟨fuel, hf⟩ := h
  rcases ChangeShapes.open_ints Tryz.underlying28 Tryz.underlying5 (by kernel_rfl) hf with ⟨hcs, _⟩ | ⟨x, l, c, zs, hcs, _, hl, hm, hz, _, hcell, hwz⟩
  · simp [Value.cells] at hcs
    obtain ⟨rfl, rfl, rfl⟩ := hcs
    exact ⟨[], Holds.nil_ _ _, by simp [maxLen]⟩
  · simp [Value.cells] at hcs
    obtain ⟨rfl, rfl, rfl⟩ := hcs
    obtain ⟨l', h'⟩ := holds_of_row hl (by simpa using hz) hcell hwz
    exact ⟨l', h', by omega⟩

theorem cap_of_arg {H : Type} {enc : TypeId × Value → H} {W : World} {t e : TypeId} {a : Option Addr} {len cap : Nat} {d : DataW H} {p : List MemPlace} (ht : Tryz.prog.underlying t = some (.slice e))
    (h : DataW.Trod enc Tryz.prog W 0 (fun _ => true) true t (.slice a len cap) d p) : len ≤ cap ∧ cap ≤ maxLen := by
  obtain ⟨fuel, hf⟩ := h
  rcases Go.Deep.open_slice ht hf with ⟨hcs, _⟩ | ⟨_, l, c, _, _, _, _, hcs, _, hl, hm, _⟩
  · simp [Value.cells] at hcs
    obtain ⟨rfl, rfl, rfl⟩ := hcs
    simp [maxLen]
  · simp [Value.cells] at hcs
    obtain ⟨rfl, rfl, rfl⟩ := hcs
    exact ⟨hl, hm⟩

theorem reach_of_arg {H : Type} {enc : TypeId × Value → H} {W : World} {ts : List TypeId} {ds : List (DataW H)} {j : Nat} {t e : TypeId} {a : Option Addr} {len cap : Nat} {d : DataW H} {p : List MemPlace}
    (hsz : (DataW.weightsEach Tryz.prog ts ds).all (· ≤ reachBytes) = true) (ht : Tryz.prog.underlying t = some (.slice e)) (hb : 1 ≤ Tryz.prog.bytesOf e)
    (h : DataW.Trod enc Tryz.prog W 0 (fun _ => true) true t (.slice a len cap) d p) (hts : ts[j]? = some t) (hds : ds[j]? = some d) : len ≤ 140737488355328 := by
  obtain ⟨fuel, hf⟩ := h
  rcases Go.Deep.open_slice ht hf with ⟨hcs, _⟩ | ⟨_, l, c, m, _, D, Pl, hcs, _, hl, hm, hmm, hx, _⟩
  · simp [Value.cells] at hcs
    obtain ⟨rfl, rfl, rfl⟩ := hcs
    omega
  · simp [Value.cells] at hcs
    obtain ⟨rfl, rfl, rfl⟩ := hcs
    have hd := (Prod.mk.inj hx).1
    rw [hd] at hds
    have h1 := sized_slice hsz hts hds ht
    simp only [List.length_map, List.length_range] at h1
    have h2 : (len + (m - len)) * 1 ≤ (len + (m - len)) * Tryz.prog.bytesOf e := Nat.mul_le_mul_left _ hb
    have h3 := reachBytes_lt
    omega
end Go.Proofs.YtdkiopajilakcaaGreatDoor
/- From the row's condition to the table's sixteen cells; the start in which the table lies. -/
namespace Go.Proofs.YtdkiopajilakcaaGreatDoor
open Go.RowKit

def halvesLaid : List (String × DataW Unit) := [("drover/envelope.halves", Rows.laid_drover_envelope_halves)]
theorem tab_start (os : Os) (args : Array Value) : laidMetH Tryz.prog halvesLaid ((World.doorLaid Tryz.prog 400 os).forCall (fun _ _ => 0) ⟨#[], args, []⟩).memory :=
  laidMetH_of_parts3 (fuel := 8) (laidMet_of_run' 8 (by kernel_rfl) (by kernel_rfl)) (by kernel_rfl) (by kernel_rfl)
theorem tab_of_laid {W : World} (h : laidMetH Tryz.prog halvesLaid W) : Tab W := by
  rw [MakeChecks.laidMetH_plain _ _ _ (by kernel_rfl)] at h
  have hN : Tryz.prog.globalNamed "drover/envelope.halves" = some 0 := by kernel_rfl
  have hT : (Tryz.prog.globals[0]?).map (·.type) = some 173 := by kernel_rfl
  have hI : Lib.TabIs Tryz.prog W "drover/envelope.halves" .u32 (tab.map fun x : Nat => (x : Int)) :=
    Lib.tabIs_of_head (rest := []) hN hT Tryz.underlying173 Tryz.underlying126 (by kernel_rfl) (by kernel_rfl) h
  have hc : ∀ i, i < 16 → W.cell? ⟨0, i, none⟩ = some (.int .u32 ((tab.getD i 0 : Nat) : Int)) := fun i hi => by
    have := hI.cell hN i (by simpa [tab] using hi)
    rw [this]
    have hl : i < tab.length := by simpa [tab] using hi
    simp [List.getD, hl]
  refine ⟨?_, hc⟩
  rcases Nat.eq_zero_or_pos W.heap.size with h0 | h0
  · have h1 := hc 0 (by omega)
    have h2 : W.heap[0]? = none := Array.getElem?_eq_none (by omega)
    simp [World.cell?, h2] at h1
  · exact h0
end Go.Proofs.YtdkiopajilakcaaGreatDoor
namespace Go.Proofs.YtdkiopajilakcaaGreatDoor
open Go.ChangeShapes Go.WideShapes Go.ChangeAt Go.RowKit

theorem imageSagas_lawKnobs : ownKnob Tryz.prog.godebug = none := by kernel_rfl
theorem imageSagas_allLaid : laidOutB Tryz.prog = true := by kernel_rfl

set_option maxRecDepth 100000 in
set_option maxHeartbeats 1000000 in
theorem imageSagas_lifted (os : Os) (started : os.Started) (H : Type) (enc : TypeId × Value → H) :
    ReturnsInHanded {} Tryz.checked os 3 .any (fun w args => (Rows.imageSagasSpec.pre enc Tryz.prog Tryz.f3 Rows.imageSagasRow.domain false w args ∧ laidMetH Tryz.prog Rows.imageSagasRow.laid w) ∧ sizedMet enc Tryz.prog Tryz.f3 (OpenSpec.ofChange Rows.imageSagasSpec) false w args)
      (Rows.imageSagasSpec.post enc Tryz.prog Tryz.f3 false true false false) := by
  refine returnsInHanded_of_change_and (C := Tryz.checked) (X := fun w _ => laidMetH Tryz.prog Rows.imageSagasRow.laid w) (fun _ _ _ hh h => h.of_heap hh) imageSagas_lawKnobs started (by kernel_rfl) Tryz.func3
    (ChangeSpec.witness_shaped (enc := enc) (C := Tryz.checked) (os := os) (X := fun w _ => laidMetH Tryz.prog Rows.imageSagasRow.laid w) false (World.doorLaid Tryz.prog 400 os) #[.agg #[.string ⟨#[]⟩, .slice none 0 0, .int .i64 0, .int .i64 0, .int .i64 0, .bool false, .bool false, .bool false, .bool false, .bool false, .bool false, .bool false, .bool false], .slice none 0 0] 8 rfl (World.shaped_of_RefB (by kernel_rfl) (by kernel_rfl)) (by kernel_rfl) (by kernel_rfl) (by kernel_rfl) (tab_start os _)) ?_
  intro W base args ds gs before hval0 hW hcnd hsz0 hL _
  have hTab := tab_of_laid hL
  have hval : ∀ (j : Nat) t v, Tryz.f3.params[j]? = some t → args[j]? = some v → Value.okWide Tryz.prog W .any base t v := hval0
  have hW' := hW
  obtain ⟨p, q, hA0, hV, rfl, _, _⟩ := hW
  have hA : DataW.TrodAll enc Tryz.prog W 0 (fun _ => true) true Tryz.f3.params.toList args.toList ds p := hA0
  have hsz : (DataW.weightsEach Tryz.prog (Tryz.f3.params.toList ++ Rows.imageSagasSpec.plain.varTypes Tryz.prog) (ds ++ gs)).all (· ≤ reachBytes) = true := hsz0
  rw [Tryz.params3] at hA hval hsz
  obtain ⟨v0, vs0, d0, ds0, p0, q0, hargs, rfl, rfl, h0, r0⟩ := trodAll_cons hA
  obtain ⟨v1, vs1, d1, ds1, p1, q1, rfl, rfl, rfl, h1, r1⟩ := trodAll_cons r0
  obtain ⟨rfl, rfl, rfl⟩ := trodAll_nil r1
  obtain rfl : args = #[v0, v1] := by cases args; simp_all
  obtain ⟨rfl, rfl⟩ := trodVars_none hV
  have k0 := h0
  have lt0 : ∀ x ∈ p0, x.block < W.heap.size := by obtain ⟨m, hm⟩ := k0; exact DataW.trod_lt m _ _ _ hm
  have s0 : Sm 27 d0 := sm_of hsz (j := 0) rfl rfl
  obtain ⟨cs0, rfl, _⟩ := okWide_struct Tryz.underlying27 (hval 0 27 v0 rfl rfl)
  obtain ⟨x0, sl0, rfl, hs0⟩ := arg_saga h0 s0
  have k1 := h1
  have lt1 : ∀ x ∈ p1, x.block < W.heap.size := by obtain ⟨m, hm⟩ := k1; exact DataW.trod_lt m _ _ _ hm
  obtain ⟨a1, len1, cap1, rfl⟩ := okWide_slice Tryz.underlying28 (hval 1 28 v1 rfl rfl)
  obtain ⟨l1, hl1, hmax1⟩ := bytes_of_arg h1
  clear hA0 hval0 hL
  refine (law_sagasW x0 sl0 a1 len1 cap1 l1 W hs0 hl1 (reach_of_arg (j := 1) hsz Tryz.underlying28 (of_decide_eq_true (by kernel_rfl)) k1 rfl rfl) (cap_of_arg Tryz.underlying28 k1).1 hTab).mono fun e W' ⟨he, bel0⟩ => ?_
  have bel : Below W.heap.size W W' := bel0
  subst he
  exact ⟨_, rfl, _, _, _, [], _, [], hW', trodAll_mk1 (shut_bool Tryz.underlying4 _), (trodAll_cons_mk (Below.trod imageSagas_allLaid (by kernel_rfl) (of_decide_eq_true (by kernel_rfl)) k0 bel lt0) (trodAll_cons_mk (Below.trod imageSagas_allLaid (by kernel_rfl) (of_decide_eq_true (by kernel_rfl)) k1 bel lt1) trodAll_mk0)), rfl, bel.frame _, fun h => by cases h⟩

theorem imageSagas_over : Rows.imageSagasRow.holds Tryz.pinned (OpenSpec.ofChange Rows.imageSagasSpec) :=
  OpenClaim.holds_of_wide 3 Tryz.f3 rfl rfl rfl rfl rfl rfl rfl ⟨rfl, rfl, rfl, rfl, rfl⟩ rfl rfl rfl rfl rfl (by kernel_rfl) Tryz.func3 (by kernel_rfl)
    (of_decide_eq_true (by kernel_rfl)) (by unfold Func.isWrapper; first | (rw [if_pos (by decide +kernel)]; kernel_rfl) | (rw [if_neg (by decide +kernel)]; exact ⟨rfl, rfl⟩))
    (fun os started H enc _ => imageSagas_lifted os started H enc)

theorem imageSagas_card : Rows.ImageSagasCardSaid :=
  Claim7.holds_tied_plain_at .later [] _ true _ false imageSagas_over (fun _ h => by cases h) (by kernel_rfl) (fun _ h => by cases h) imageSagas_row_tie rfl ⟨rfl, rfl⟩ (by kernel_rfl) rfl
    (fun f fn hf hfn => by
      obtain rfl : f = 3 := Option.some.inj ((show Tryz.prog.funcNamed "drover/droverlaw17.ImageSagas" = some 3 by kernel_rfl).symm.trans hf) |>.symm
      obtain rfl : fn = Tryz.f3 := (Option.some.inj (Tryz.func3.symm.trans hfn)).symm
      exact ⟨by kernel_rfl, fun j t ht => by
        rw [Tryz.params3] at ht
        have hm : t ∈ [27, 28] := by simpa using Array.mem_of_getElem? ht
        have hall : ([27, 28].all fun u => !Tryz.prog.wantsStandIn u) = true := by kernel_rfl
        exact (show Tryz.prog.wantsStandIn t = false by simpa using List.all_eq_true.1 hall t hm)⟩)
    (by kernel_rfl)
#print axioms imageSagas_card
end Go.Proofs.YtdkiopajilakcaaGreatDoor
