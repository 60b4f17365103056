/- Texts merged: BkRW, OpenD, Arg15, ArgS, ArgO, ArgP, BkN. -/
import Derived.Test.YtpckdhjnhnonhaaGreatBaseS1
import Derived.Test.YtpckdhjnhnonhaaGreatBaseS2
import Derived.Test.YtpckdhjnhnonhaaGreatBaseS3
import Derived.Test.YtpckdhjnhnonhaaGreatBaseS4
import Derived.Test.YtpckdhjnhnonhaaGreatBaseS5
import Derived.Test.YtpckdhjnhnonhaaGreatBaseS6
import Derived.Test.YtpckdhjnhnonhaaGreatBaseS7
import Derived.Test.YtpckdhjnhnonhaaGreatProg
import Derived.Deep.Slices
import Derived.ChangeArms
import Derived.SizedLaws
import Derived.ShutString
import Derived.ProofKit
import Derived.OpenShut
/- The document's Set. -/
namespace Go.Proofs.YtpckdhjnhnonhaaGreat
open Go.RowKit Go.Maps
def RSetV (F : Nat → Prop) (g : Nat) (most er : Int) (t : BkS) (w : World) (e : Ending) (w' : World) : Prop := e = .returned (.int .i64 er) ∧ RBookAt F w' g most t ∧ Turned (fun i => i = g) w w'
theorem openN_le (L : List Ent) : openN L ≤ L.length := List.countP_le_length
section
variable {F : Nat → Prop} {w : World} {g : Nat} {most : Int} {t : BkS}
set_option maxHeartbeats 4000000 in
set_option maxRecDepth 100000 in
theorem rset_lo {id : Int} {s : SagaD} {l : List StepD} (h : RBookAt F w g most t) (_hn : t.L.length ≤ 900) (hs : StepsAt F w s.v l) (_hw : ∀ x ∈ l, x.wf) (_h1 : I64 s.step) (hF : ∀ i, w.heap.size ≤ i → F i) (hr : id < 1) :
    Calls Tryz.prog 20 #[.pointer (some ⟨g, 0, none⟩), .int .i64 id, s.val] w (RSetV F g most (2) (t) w) := by
  have hlt := h.lt
  obtain ⟨W1, hW1⟩ : ∃ W1, W1 = w.alloc (.cells s.cells.toArray 39 (0, 0)) := ⟨_, rfl⟩
  obtain ⟨d, hd⟩ : ∃ d, d = w.heap.size := ⟨_, rfl⟩
  have X1 : Hid (SBox 39 d s W1) := by rw [hW1, hd]; exact heap_alloc_new _ _
  have L1 : Hid (Later w W1) := by rw [hW1]; exact (Below.refl _ _).alloc (Nat.le_refl _) _
  have HDG : Hid (g < d) := by rw [hd]; exact hlt
  have H1 : Hid (RBookAt F W1 g most t) := h.later L1.out
  have HS1 := hide (StepsAt.kept hs (Kept.of_below L1.out _))
  have k1 : decide (id < 1) = true := by simp; omega
  clear hr
  have XE : Hid (SBox 39 w.heap.size s (w.alloc (.cells s.cells.toArray 39 (0, 0)))) := heap_alloc_new _ _
  have HW1 := hide hW1.symm
  have HG := hide hd.symm
  clear h _hn hs _hw _h1 hF hW1 hd hlt
  go_enter Tryz.func20, Tryz.ntmps20
  go_wp2
  go_ret
  rw [HW1.out]
  exact ⟨rfl, H1.out, Turned.of_below L1.out _⟩
set_option maxHeartbeats 4000000 in
set_option maxRecDepth 100000 in
theorem rset_hi {id : Int} {s : SagaD} {l : List StepD} (h : RBookAt F w g most t) (_hn : t.L.length ≤ 900) (hs : StepsAt F w s.v l) (_hw : ∀ x ∈ l, x.wf) (_h1 : I64 s.step) (hF : ∀ i, w.heap.size ≤ i → F i) (hr0 : 1 ≤ id) (hr : 1099511627776 < id) :
    Calls Tryz.prog 20 #[.pointer (some ⟨g, 0, none⟩), .int .i64 id, s.val] w (RSetV F g most (2) (t) w) := by
  have hlt := h.lt
  obtain ⟨W1, hW1⟩ : ∃ W1, W1 = w.alloc (.cells s.cells.toArray 39 (0, 0)) := ⟨_, rfl⟩
  obtain ⟨d, hd⟩ : ∃ d, d = w.heap.size := ⟨_, rfl⟩
  have X1 : Hid (SBox 39 d s W1) := by rw [hW1, hd]; exact heap_alloc_new _ _
  have L1 : Hid (Later w W1) := by rw [hW1]; exact (Below.refl _ _).alloc (Nat.le_refl _) _
  have HDG : Hid (g < d) := by rw [hd]; exact hlt
  have H1 : Hid (RBookAt F W1 g most t) := h.later L1.out
  have HS1 := hide (StepsAt.kept hs (Kept.of_below L1.out _))
  have k1 : decide (id < 1) = false := by simp; omega
  have k2 : decide (1099511627776 < id) = true := by simp; omega
  clear hr
  clear hr0
  have XE : Hid (SBox 39 w.heap.size s (w.alloc (.cells s.cells.toArray 39 (0, 0)))) := heap_alloc_new _ _
  have HW1 := hide hW1.symm
  have HG := hide hd.symm
  clear h _hn hs _hw _h1 hF hW1 hd hlt
  go_enter Tryz.func20, Tryz.ntmps20
  go_wp2
  go_ret
  rw [HW1.out]
  exact ⟨rfl, H1.out, Turned.of_below L1.out _⟩
set_option maxHeartbeats 4000000 in
set_option maxRecDepth 100000 in
theorem rset_bad {id : Int} {s : SagaD} {l : List StepD} (h : RBookAt F w g most t) (_hn : t.L.length ≤ 900) (hs : StepsAt F w s.v l) (_hw : ∀ x ∈ l, x.wf) (_h1 : I64 s.step) (hF : ∀ i, w.heap.size ≤ i → F i) (hr0 : 1 ≤ id) (hr1 : id ≤ 1099511627776) (hgd : goodF l s = false) :
    Calls Tryz.prog 20 #[.pointer (some ⟨g, 0, none⟩), .int .i64 id, s.val] w (RSetV F g most (2) (t) w) := by
  have hlt := h.lt
  obtain ⟨W1, hW1⟩ : ∃ W1, W1 = w.alloc (.cells s.cells.toArray 39 (0, 0)) := ⟨_, rfl⟩
  obtain ⟨d, hd⟩ : ∃ d, d = w.heap.size := ⟨_, rfl⟩
  have X1 : Hid (SBox 39 d s W1) := by rw [hW1, hd]; exact heap_alloc_new _ _
  have L1 : Hid (Later w W1) := by rw [hW1]; exact (Below.refl _ _).alloc (Nat.le_refl _) _
  have HDG : Hid (g < d) := by rw [hd]; exact hlt
  have H1 : Hid (RBookAt F W1 g most t) := h.later L1.out
  have HS1 := hide (StepsAt.kept hs (Kept.of_below L1.out _))
  have k1 : decide (id < 1) = false := by simp; omega
  have k2 : decide (1099511627776 < id) = false := by simp; omega
  have CG := hide (rgood_any (s := s) (l := l) HS1.out _hw _h1)
  rw [hgd] at CG
  have HRG : Hid (1 ≤ id ∧ id ≤ 1099511627776) := ⟨hr0, hr1⟩
  have HWF := hide _hw
  have HNN := hide _hn
  have HF := hide hF
  clear hr0 hr1 hgd
  have XE : Hid (SBox 39 w.heap.size s (w.alloc (.cells s.cells.toArray 39 (0, 0)))) := heap_alloc_new _ _
  have HW1 := hide hW1.symm
  have HG := hide hd.symm
  clear h _hn hs _hw _h1 hF hW1 hd hlt
  go_enter Tryz.func20, Tryz.ntmps20
  go_wp2_with (refine wpList_val rfl (by rfl) (exec_rload_saga _ (by rfl) (by rfl) XE.out) ?_)
  simp only [HW1.out, HG.out]
  refine CG.out.mono ?_
  rintro e w2 ⟨rfl, hl2⟩
  have L2 : Hid (Later W1 w2) := hl2
  have H2 := hide (H1.out.later hl2)
  clear hl2 CG
  go_wp2_with (fail)
  go_ret
  have La0 : Later w W1 := L1.out
  have La : Later w w2 := Later.trans La0 L2.out
  exact ⟨rfl, H2.out, Turned.of_below La _⟩
set_option maxHeartbeats 4000000 in
set_option maxRecDepth 100000 in
theorem rset_many {id : Int} {s : SagaD} {l : List StepD} (h : RBookAt F w g most t) (_hn : t.L.length ≤ 900) (hs : StepsAt F w s.v l) (_hw : ∀ x ∈ l, x.wf) (_h1 : I64 s.step) (hF : ∀ i, w.heap.size ≤ i → F i) (hr0 : 1 ≤ id) (hr1 : id ≤ 1099511627776) (hgd : goodF l s = true) (hat : atB t id = false) (h32 : 32 ≤ t.L.length) :
    Calls Tryz.prog 20 #[.pointer (some ⟨g, 0, none⟩), .int .i64 id, s.val] w (RSetV F g most (7) (t) w) := by
  have hlt := h.lt
  obtain ⟨W1, hW1⟩ : ∃ W1, W1 = w.alloc (.cells s.cells.toArray 39 (0, 0)) := ⟨_, rfl⟩
  obtain ⟨d, hd⟩ : ∃ d, d = w.heap.size := ⟨_, rfl⟩
  have X1 : Hid (SBox 39 d s W1) := by rw [hW1, hd]; exact heap_alloc_new _ _
  have L1 : Hid (Later w W1) := by rw [hW1]; exact (Below.refl _ _).alloc (Nat.le_refl _) _
  have HDG : Hid (g < d) := by rw [hd]; exact hlt
  have H1 : Hid (RBookAt F W1 g most t) := h.later L1.out
  have HS1 := hide (StepsAt.kept hs (Kept.of_below L1.out _))
  have k1 : decide (id < 1) = false := by simp; omega
  have k2 : decide (1099511627776 < id) = false := by simp; omega
  have CG := hide (rgood_any (s := s) (l := l) HS1.out _hw _h1)
  rw [hgd] at CG
  have HRG : Hid (1 ≤ id ∧ id ≤ 1099511627776) := ⟨hr0, hr1⟩
  have HWF := hide _hw
  have HNN := hide _hn
  have HF := hide hF
  have HAT := hide hat
  obtain ⟨o, ho⟩ : ∃ o : Int, ((openN t.L : Nat) : Int) = o := ⟨_, rfl⟩
  have HON := hide ho
  have ho0 : 0 ≤ o := by rw [← ho]; omega
  have ho1 : o ≤ 1000 := by have := openN_le t.L; rw [← ho]; omega
  obtain ⟨n, hn⟩ : ∃ n, t.L.length = n := ⟨_, rfl⟩
  have HLN := hide hn
  have hlen : decide ((32 : Int) ≤ (n : Int)) = true := by simp; omega
  clear hn
  clear h32
  clear hr0 hr1 hgd hat ho
  have XE : Hid (SBox 39 w.heap.size s (w.alloc (.cells s.cells.toArray 39 (0, 0)))) := heap_alloc_new _ _
  have HW1 := hide hW1.symm
  have HG := hide hd.symm
  clear h _hn hs _hw _h1 hF hW1 hd hlt
  go_enter Tryz.func20, Tryz.ntmps20
  go_wp2_with (refine wpList_val rfl (by rfl) (exec_rload_saga _ (by rfl) (by rfl) XE.out) ?_)
  simp only [HW1.out, HG.out]
  refine CG.out.mono ?_
  rintro e w2 ⟨rfl, hl2⟩
  have L2 : Hid (Later W1 w2) := hl2
  have H2 := hide (H1.out.later hl2)
  clear hl2 CG
  have C := hide (rsaga_any (id := id) H2.out (by have := HNN.out; omega))
  rw [HAT.out] at C
  go_wp2_with (fail)
  refine C.out.mono ?_
  rintro e w3 ⟨p, m, c2, rfl, _, hl3⟩
  obtain ⟨s2, hs2⟩ : ∃ s2, (atS t id).withV p m c2 = s2 := ⟨_, rfl⟩
  rw [hs2]
  have HS2 := hide hs2
  have L3 : Hid (Later w2 w3) := hl3
  have T3 : Hid (SBox 39 w3.heap.size SagaD.zero (w3.alloc (.cells #[.string ⟨#[]⟩, .slice none 0 0, .int .i64 0, .int .i64 0, .int .i64 0, .bool false, .bool false, .bool false, .bool false, .bool false, .bool false, .bool false, .bool false] 39 (0, 0)))) := heap_alloc_new _ _
  have L3b : Hid (Later w3 (w3.alloc (.cells #[.string ⟨#[]⟩, .slice none 0 0, .int .i64 0, .int .i64 0, .int .i64 0, .bool false, .bool false, .bool false, .bool false, .bool false, .bool false, .bool false, .bool false] 39 (0, 0)))) := (Below.refl _ _).alloc (Nat.le_refl _) _
  clear hl3 C hs2
  go_wp2_with (refine wpList_rstore_saga (s := s2) (by rfl) _ _ (by rfl) (by rfl) T3.out (by rfl) ?_)
  intro w4 X4 G4
  have Z4 := hide X4
  have L34 : Later w3 w4 := L3b.out.grown G4 (by simp) (fun k hk => by have := Option.some.inj hk; omega)
  have L23 : Later w2 w3 := L3.out
  have L24 : Later w2 w4 := Later.trans L23 L34
  have L12 : Later W1 w2 := L2.out
  have L4 : Hid (Later W1 w4) := Later.trans L12 L24
  have H4 := hide (H1.out.later L4.out)
  have CO := hide (ropen_any H4.out (by have := HNN.out; omega))
  rw [HON.out] at CO
  clear X4 G4 L34 L23 L24 L12
  go_wp2_with (fail)
  refine CO.out.mono ?_
  rintro e w5 ⟨rfl, hl5⟩
  have L45 : Hid (Later w4 w5) := hl5
  have L4a : Later W1 w4 := L4.out
  have L5 : Hid (Later W1 w5) := Later.trans L4a hl5
  have Z5 := hide (Z4.out.below hl5)
  clear hl5 CO L4a
  have HW : Hid (RBookAt F w5 g most t) := H1.out.later L5.out
  obtain ⟨A9, c9, f9, hb9, _, _⟩ := HW.out.body
  have cc2 := cell_of_row w5 g 2 _ _ _ hb9
  have cc0 : w5.cell? ⟨g, 0, none⟩ = some (.int .i64 most) := cell_of_row w5 g 0 _ _ _ hb9
  simp only [List.getElem?_toArray, List.getElem?_cons_succ, List.getElem?_cons_zero] at cc2
  rw [HLN.out] at cc2
  clear hb9
  go_wp2_with (fail)
  go_ret
  have La0 : Later w W1 := L1.out
  have La : Later w w5 := Later.trans La0 L5.out
  exact ⟨rfl, HW.out, Turned.of_below La _⟩
set_option maxHeartbeats 4000000 in
set_option maxRecDepth 100000 in
theorem rset_off_n {id : Int} {s : SagaD} {l : List StepD} (h : RBookAt F w g most t) (_hn : t.L.length ≤ 900) (hs : StepsAt F w s.v l) (_hw : ∀ x ∈ l, x.wf) (_h1 : I64 s.step) (hF : ∀ i, w.heap.size ≤ i → F i) (hr0 : 1 ≤ id) (hr1 : id ≤ 1099511627776) (hgd : goodF l s = true) (hat : atB t id = false) (h32 : t.L.length < 32) (hop : (decide (s.st = 1) || decide (s.st = 2)) = false) :
    Calls Tryz.prog 20 #[.pointer (some ⟨g, 0, none⟩), .int .i64 id, s.val] w (RSetV F g most (0) (⟨max t.last id, putE ⟨id, s, l⟩ t.L⟩) w) := by
  have hlt := h.lt
  obtain ⟨W1, hW1⟩ : ∃ W1, W1 = w.alloc (.cells s.cells.toArray 39 (0, 0)) := ⟨_, rfl⟩
  obtain ⟨d, hd⟩ : ∃ d, d = w.heap.size := ⟨_, rfl⟩
  have X1 : Hid (SBox 39 d s W1) := by rw [hW1, hd]; exact heap_alloc_new _ _
  have L1 : Hid (Later w W1) := by rw [hW1]; exact (Below.refl _ _).alloc (Nat.le_refl _) _
  have HDG : Hid (g < d) := by rw [hd]; exact hlt
  have H1 : Hid (RBookAt F W1 g most t) := h.later L1.out
  have HS1 := hide (StepsAt.kept hs (Kept.of_below L1.out _))
  have k1 : decide (id < 1) = false := by simp; omega
  have k2 : decide (1099511627776 < id) = false := by simp; omega
  have CG := hide (rgood_any (s := s) (l := l) HS1.out _hw _h1)
  rw [hgd] at CG
  have HRG : Hid (1 ≤ id ∧ id ≤ 1099511627776) := ⟨hr0, hr1⟩
  have HWF := hide _hw
  have HNN := hide _hn
  have HF := hide hF
  have HGS : Hid (l.length ≤ 8 ∧ 0 ≤ s.step ∧ s.step ≤ 9) := good_step hgd
  have HAT := hide hat
  obtain ⟨o, ho⟩ : ∃ o : Int, ((openN t.L : Nat) : Int) = o := ⟨_, rfl⟩
  have HON := hide ho
  have ho0 : 0 ≤ o := by rw [← ho]; omega
  have ho1 : o ≤ 1000 := by have := openN_le t.L; rw [← ho]; omega
  obtain ⟨n, hn⟩ : ∃ n, t.L.length = n := ⟨_, rfl⟩
  have HLN := hide hn
  have hlen : decide ((32 : Int) ≤ (n : Int)) = false := by simp; omega
  clear hn
  clear h32
  have HOP := hide hop
  clear hop
  clear hr0 hr1 hgd hat ho
  have XE : Hid (SBox 39 w.heap.size s (w.alloc (.cells s.cells.toArray 39 (0, 0)))) := heap_alloc_new _ _
  have HW1 := hide hW1.symm
  have HG := hide hd.symm
  clear h _hn hs _hw _h1 hF hW1 hd hlt
  go_enter Tryz.func20, Tryz.ntmps20
  go_wp2_with (refine wpList_val rfl (by rfl) (exec_rload_saga _ (by rfl) (by rfl) XE.out) ?_)
  simp only [HW1.out, HG.out]
  refine CG.out.mono ?_
  rintro e w2 ⟨rfl, hl2⟩
  have L2 : Hid (Later W1 w2) := hl2
  have H2 := hide (H1.out.later hl2)
  clear hl2 CG
  have C := hide (rsaga_any (id := id) H2.out (by have := HNN.out; omega))
  rw [HAT.out] at C
  go_wp2_with (fail)
  refine C.out.mono ?_
  rintro e w3 ⟨p, m, c2, rfl, _, hl3⟩
  obtain ⟨s2, hs2⟩ : ∃ s2, (atS t id).withV p m c2 = s2 := ⟨_, rfl⟩
  rw [hs2]
  have HS2 := hide hs2
  have L3 : Hid (Later w2 w3) := hl3
  have T3 : Hid (SBox 39 w3.heap.size SagaD.zero (w3.alloc (.cells #[.string ⟨#[]⟩, .slice none 0 0, .int .i64 0, .int .i64 0, .int .i64 0, .bool false, .bool false, .bool false, .bool false, .bool false, .bool false, .bool false, .bool false] 39 (0, 0)))) := heap_alloc_new _ _
  have L3b : Hid (Later w3 (w3.alloc (.cells #[.string ⟨#[]⟩, .slice none 0 0, .int .i64 0, .int .i64 0, .int .i64 0, .bool false, .bool false, .bool false, .bool false, .bool false, .bool false, .bool false, .bool false] 39 (0, 0)))) := (Below.refl _ _).alloc (Nat.le_refl _) _
  clear hl3 C hs2
  go_wp2_with (refine wpList_rstore_saga (s := s2) (by rfl) _ _ (by rfl) (by rfl) T3.out (by rfl) ?_)
  intro w4 X4 G4
  have Z4 := hide X4
  have L34 : Later w3 w4 := L3b.out.grown G4 (by simp) (fun k hk => by have := Option.some.inj hk; omega)
  have L23 : Later w2 w3 := L3.out
  have L24 : Later w2 w4 := Later.trans L23 L34
  have L12 : Later W1 w2 := L2.out
  have L4 : Hid (Later W1 w4) := Later.trans L12 L24
  have H4 := hide (H1.out.later L4.out)
  have CO := hide (ropen_any H4.out (by have := HNN.out; omega))
  rw [HON.out] at CO
  clear X4 G4 L34 L23 L24 L12
  go_wp2_with (fail)
  refine CO.out.mono ?_
  rintro e w5 ⟨rfl, hl5⟩
  have L45 : Hid (Later w4 w5) := hl5
  have L4a : Later W1 w4 := L4.out
  have L5 : Hid (Later W1 w5) := Later.trans L4a hl5
  have Z5 := hide (Z4.out.below hl5)
  clear hl5 CO L4a
  have HW : Hid (RBookAt F w5 g most t) := H1.out.later L5.out
  obtain ⟨A9, c9, f9, hb9, _, _⟩ := HW.out.body
  have cc2 := cell_of_row w5 g 2 _ _ _ hb9
  have cc0 : w5.cell? ⟨g, 0, none⟩ = some (.int .i64 most) := cell_of_row w5 g 0 _ _ _ hb9
  simp only [List.getElem?_toArray, List.getElem?_cons_succ, List.getElem?_cons_zero] at cc2
  rw [HLN.out] at cc2
  clear hb9
  have XD : Hid (SBox 39 d s w5) := X1.out.below L5.out
  have CU := hide (ropen1_any s w5)
  rw [HOP.out] at CU
  go_wp2_with (refine wpList_val rfl (by rfl) (exec_rload_saga _ (by rfl) (by rfl) XD.out) ?_)
  refine CU.out.mono ?_
  rintro e w7 ⟨rfl, hl7⟩
  have L5a : Later W1 w5 := L5.out
  have L7 : Hid (Later W1 w7) := Later.trans L5a hl7
  have H7 := hide (H1.out.later L7.out)
  clear hl7 CU L5a
  have XY : Hid (SBox 39 d s w7) := X1.out.below L7.out
  have CP := hide (rput_any (x := ⟨id, s, l⟩) (p := s.p) (n9 := s.n) (c9 := s.c) H7.out (StepsAt.kept HS1.out (Kept.of_below L7.out _)) ⟨⟨HWF.out, HGS.out.1, HGS.out.2, HRG.out.1⟩, by show id ≤ _; have := HRG.out.2; omega⟩ (fun i hi => HF.out i (by have := Below.size L7.out; have := Below.size L1.out; omega)) HNN.out)
  change Hid (Calls Tryz.prog 36 #[.pointer (some ⟨g, 0, none⟩), .int .i64 id, s.val] w7 _) at CP
  go_wp2_with (refine wpList_val rfl (by rfl) (exec_rload_saga _ (by rfl) (by rfl) XY.out) ?_)
  refine CP.out.mono ?_
  rintro e w8 ⟨rfl, hb8, ht8⟩
  have H8 := hide hb8
  have T8 := hide ht8
  clear hb8 ht8 CP
  obtain ⟨A8, c8, f8, hb8, _, _⟩ := H8.out.body
  have d1 := cell_of_row w8 g 1 _ _ _ hb8
  have d2 := frozen_of_row w8 g 1 _ _ hb8
  simp only [List.getElem?_toArray, List.getElem?_cons_succ, List.getElem?_cons_zero] at d1
  obtain ⟨la, hla⟩ : ∃ la, t.last = la := ⟨_, rfl⟩
  have HLA := hide hla
  have hok := H8.out.ok.2.2
  simp only at hok
  rw [hla] at d1 hok
  have HOK8 := hide hok
  have La0 : Later w W1 := L1.out
  have La1 : Later w w7 := Later.trans La0 L7.out
  have Ta : Hid (Turned (fun i => i = g) w w8) := (Turned.of_below La1 _).trans T8.out
  clear hb8 La0 La1 hok hla
  by_cases hgt : la < id
  · have e1 : decide (la < id) = true := by simp; exact hgt
    have HGT := hide hgt
    clear hgt
    go_wp2_with (fail)
    go_ret
    exact ⟨rfl, by rw [show max t.last id = id from by have := HGT.out; have := HLA.out; omega]; exact H8.out.setLast id (by have := HRG.out; omega) (by have := HRG.out; omega), Ta.out.trans (turned_setCell _ _ _ _)⟩
  · have e1 : decide (la < id) = false := by simp; omega
    have HGT := hide hgt
    clear hgt
    go_wp2_with (fail)
    go_ret
    exact ⟨rfl, by rw [show max t.last id = t.last from by have := HGT.out; have := HLA.out; omega]; exact H8.out, Ta.out⟩
set_option maxHeartbeats 4000000 in
set_option maxRecDepth 100000 in
theorem rset_full_n {id : Int} {s : SagaD} {l : List StepD} (h : RBookAt F w g most t) (_hn : t.L.length ≤ 900) (hs : StepsAt F w s.v l) (_hw : ∀ x ∈ l, x.wf) (_h1 : I64 s.step) (hF : ∀ i, w.heap.size ≤ i → F i) (hr0 : 1 ≤ id) (hr1 : id ≤ 1099511627776) (hgd : goodF l s = true) (hat : atB t id = false) (h32 : t.L.length < 32) (hop : (decide (s.st = 1) || decide (s.st = 2)) = true) (hfu : most ≤ ((openN t.L : Nat) : Int)) :
    Calls Tryz.prog 20 #[.pointer (some ⟨g, 0, none⟩), .int .i64 id, s.val] w (RSetV F g most (7) (t) w) := by
  have hlt := h.lt
  obtain ⟨W1, hW1⟩ : ∃ W1, W1 = w.alloc (.cells s.cells.toArray 39 (0, 0)) := ⟨_, rfl⟩
  obtain ⟨d, hd⟩ : ∃ d, d = w.heap.size := ⟨_, rfl⟩
  have X1 : Hid (SBox 39 d s W1) := by rw [hW1, hd]; exact heap_alloc_new _ _
  have L1 : Hid (Later w W1) := by rw [hW1]; exact (Below.refl _ _).alloc (Nat.le_refl _) _
  have HDG : Hid (g < d) := by rw [hd]; exact hlt
  have H1 : Hid (RBookAt F W1 g most t) := h.later L1.out
  have HS1 := hide (StepsAt.kept hs (Kept.of_below L1.out _))
  have k1 : decide (id < 1) = false := by simp; omega
  have k2 : decide (1099511627776 < id) = false := by simp; omega
  have CG := hide (rgood_any (s := s) (l := l) HS1.out _hw _h1)
  rw [hgd] at CG
  have HRG : Hid (1 ≤ id ∧ id ≤ 1099511627776) := ⟨hr0, hr1⟩
  have HWF := hide _hw
  have HNN := hide _hn
  have HF := hide hF
  have HAT := hide hat
  obtain ⟨o, ho⟩ : ∃ o : Int, ((openN t.L : Nat) : Int) = o := ⟨_, rfl⟩
  have HON := hide ho
  have ho0 : 0 ≤ o := by rw [← ho]; omega
  have ho1 : o ≤ 1000 := by have := openN_le t.L; rw [← ho]; omega
  obtain ⟨n, hn⟩ : ∃ n, t.L.length = n := ⟨_, rfl⟩
  have HLN := hide hn
  have hlen : decide ((32 : Int) ≤ (n : Int)) = false := by simp; omega
  clear hn
  clear h32
  have HOP := hide hop
  rw [ho] at hfu
  have hfu2 : decide (most ≤ o) = true := by simp; omega
  clear hop hfu
  clear hr0 hr1 hgd hat ho
  have XE : Hid (SBox 39 w.heap.size s (w.alloc (.cells s.cells.toArray 39 (0, 0)))) := heap_alloc_new _ _
  have HW1 := hide hW1.symm
  have HG := hide hd.symm
  clear h _hn hs _hw _h1 hF hW1 hd hlt
  go_enter Tryz.func20, Tryz.ntmps20
  go_wp2_with (refine wpList_val rfl (by rfl) (exec_rload_saga _ (by rfl) (by rfl) XE.out) ?_)
  simp only [HW1.out, HG.out]
  refine CG.out.mono ?_
  rintro e w2 ⟨rfl, hl2⟩
  have L2 : Hid (Later W1 w2) := hl2
  have H2 := hide (H1.out.later hl2)
  clear hl2 CG
  have C := hide (rsaga_any (id := id) H2.out (by have := HNN.out; omega))
  rw [HAT.out] at C
  go_wp2_with (fail)
  refine C.out.mono ?_
  rintro e w3 ⟨p, m, c2, rfl, _, hl3⟩
  obtain ⟨s2, hs2⟩ : ∃ s2, (atS t id).withV p m c2 = s2 := ⟨_, rfl⟩
  rw [hs2]
  have HS2 := hide hs2
  have L3 : Hid (Later w2 w3) := hl3
  have T3 : Hid (SBox 39 w3.heap.size SagaD.zero (w3.alloc (.cells #[.string ⟨#[]⟩, .slice none 0 0, .int .i64 0, .int .i64 0, .int .i64 0, .bool false, .bool false, .bool false, .bool false, .bool false, .bool false, .bool false, .bool false] 39 (0, 0)))) := heap_alloc_new _ _
  have L3b : Hid (Later w3 (w3.alloc (.cells #[.string ⟨#[]⟩, .slice none 0 0, .int .i64 0, .int .i64 0, .int .i64 0, .bool false, .bool false, .bool false, .bool false, .bool false, .bool false, .bool false, .bool false] 39 (0, 0)))) := (Below.refl _ _).alloc (Nat.le_refl _) _
  clear hl3 C hs2
  go_wp2_with (refine wpList_rstore_saga (s := s2) (by rfl) _ _ (by rfl) (by rfl) T3.out (by rfl) ?_)
  intro w4 X4 G4
  have Z4 := hide X4
  have L34 : Later w3 w4 := L3b.out.grown G4 (by simp) (fun k hk => by have := Option.some.inj hk; omega)
  have L23 : Later w2 w3 := L3.out
  have L24 : Later w2 w4 := Later.trans L23 L34
  have L12 : Later W1 w2 := L2.out
  have L4 : Hid (Later W1 w4) := Later.trans L12 L24
  have H4 := hide (H1.out.later L4.out)
  have CO := hide (ropen_any H4.out (by have := HNN.out; omega))
  rw [HON.out] at CO
  clear X4 G4 L34 L23 L24 L12
  go_wp2_with (fail)
  refine CO.out.mono ?_
  rintro e w5 ⟨rfl, hl5⟩
  have L45 : Hid (Later w4 w5) := hl5
  have L4a : Later W1 w4 := L4.out
  have L5 : Hid (Later W1 w5) := Later.trans L4a hl5
  have Z5 := hide (Z4.out.below hl5)
  clear hl5 CO L4a
  have HW : Hid (RBookAt F w5 g most t) := H1.out.later L5.out
  obtain ⟨A9, c9, f9, hb9, _, _⟩ := HW.out.body
  have cc2 := cell_of_row w5 g 2 _ _ _ hb9
  have cc0 : w5.cell? ⟨g, 0, none⟩ = some (.int .i64 most) := cell_of_row w5 g 0 _ _ _ hb9
  simp only [List.getElem?_toArray, List.getElem?_cons_succ, List.getElem?_cons_zero] at cc2
  rw [HLN.out] at cc2
  clear hb9
  have XD : Hid (SBox 39 d s w5) := X1.out.below L5.out
  have CU := hide (ropen1_any s w5)
  rw [HOP.out] at CU
  go_wp2_with (refine wpList_val rfl (by rfl) (exec_rload_saga _ (by rfl) (by rfl) XD.out) ?_)
  refine CU.out.mono ?_
  rintro e w7 ⟨rfl, hl7⟩
  have L5a : Later W1 w5 := L5.out
  have L7 : Hid (Later W1 w7) := Later.trans L5a hl7
  have H7 := hide (H1.out.later L7.out)
  clear hl7 CU L5a
  have cc9 : w7.cell? ⟨g, 0, none⟩ = some (.int .i64 most) := by
    obtain ⟨_, _, _, hb9, _⟩ := H7.out.body
    exact cell_of_row w7 g 0 _ _ _ hb9
  go_wp2_with (fail)
  go_ret
  have La0 : Later w W1 := L1.out
  have La : Later w w7 := Later.trans La0 L7.out
  exact ⟨rfl, H7.out, Turned.of_below La _⟩
set_option maxHeartbeats 4000000 in
set_option maxRecDepth 100000 in
theorem rset_on_n {id : Int} {s : SagaD} {l : List StepD} (h : RBookAt F w g most t) (_hn : t.L.length ≤ 900) (hs : StepsAt F w s.v l) (_hw : ∀ x ∈ l, x.wf) (_h1 : I64 s.step) (hF : ∀ i, w.heap.size ≤ i → F i) (hr0 : 1 ≤ id) (hr1 : id ≤ 1099511627776) (hgd : goodF l s = true) (hat : atB t id = false) (h32 : t.L.length < 32) (hop : (decide (s.st = 1) || decide (s.st = 2)) = true) (hfu : ((openN t.L : Nat) : Int) < most) :
    Calls Tryz.prog 20 #[.pointer (some ⟨g, 0, none⟩), .int .i64 id, s.val] w (RSetV F g most (0) (⟨max t.last id, putE ⟨id, s, l⟩ t.L⟩) w) := by
  have hlt := h.lt
  obtain ⟨W1, hW1⟩ : ∃ W1, W1 = w.alloc (.cells s.cells.toArray 39 (0, 0)) := ⟨_, rfl⟩
  obtain ⟨d, hd⟩ : ∃ d, d = w.heap.size := ⟨_, rfl⟩
  have X1 : Hid (SBox 39 d s W1) := by rw [hW1, hd]; exact heap_alloc_new _ _
  have L1 : Hid (Later w W1) := by rw [hW1]; exact (Below.refl _ _).alloc (Nat.le_refl _) _
  have HDG : Hid (g < d) := by rw [hd]; exact hlt
  have H1 : Hid (RBookAt F W1 g most t) := h.later L1.out
  have HS1 := hide (StepsAt.kept hs (Kept.of_below L1.out _))
  have k1 : decide (id < 1) = false := by simp; omega
  have k2 : decide (1099511627776 < id) = false := by simp; omega
  have CG := hide (rgood_any (s := s) (l := l) HS1.out _hw _h1)
  rw [hgd] at CG
  have HRG : Hid (1 ≤ id ∧ id ≤ 1099511627776) := ⟨hr0, hr1⟩
  have HWF := hide _hw
  have HNN := hide _hn
  have HF := hide hF
  have HGS : Hid (l.length ≤ 8 ∧ 0 ≤ s.step ∧ s.step ≤ 9) := good_step hgd
  have HAT := hide hat
  obtain ⟨o, ho⟩ : ∃ o : Int, ((openN t.L : Nat) : Int) = o := ⟨_, rfl⟩
  have HON := hide ho
  have ho0 : 0 ≤ o := by rw [← ho]; omega
  have ho1 : o ≤ 1000 := by have := openN_le t.L; rw [← ho]; omega
  obtain ⟨n, hn⟩ : ∃ n, t.L.length = n := ⟨_, rfl⟩
  have HLN := hide hn
  have hlen : decide ((32 : Int) ≤ (n : Int)) = false := by simp; omega
  clear hn
  clear h32
  have HOP := hide hop
  rw [ho] at hfu
  have hfu2 : decide (most ≤ o) = false := by simp; omega
  clear hop hfu
  clear hr0 hr1 hgd hat ho
  have XE : Hid (SBox 39 w.heap.size s (w.alloc (.cells s.cells.toArray 39 (0, 0)))) := heap_alloc_new _ _
  have HW1 := hide hW1.symm
  have HG := hide hd.symm
  clear h _hn hs _hw _h1 hF hW1 hd hlt
  go_enter Tryz.func20, Tryz.ntmps20
  go_wp2_with (refine wpList_val rfl (by rfl) (exec_rload_saga _ (by rfl) (by rfl) XE.out) ?_)
  simp only [HW1.out, HG.out]
  refine CG.out.mono ?_
  rintro e w2 ⟨rfl, hl2⟩
  have L2 : Hid (Later W1 w2) := hl2
  have H2 := hide (H1.out.later hl2)
  clear hl2 CG
  have C := hide (rsaga_any (id := id) H2.out (by have := HNN.out; omega))
  rw [HAT.out] at C
  go_wp2_with (fail)
  refine C.out.mono ?_
  rintro e w3 ⟨p, m, c2, rfl, _, hl3⟩
  obtain ⟨s2, hs2⟩ : ∃ s2, (atS t id).withV p m c2 = s2 := ⟨_, rfl⟩
  rw [hs2]
  have HS2 := hide hs2
  have L3 : Hid (Later w2 w3) := hl3
  have T3 : Hid (SBox 39 w3.heap.size SagaD.zero (w3.alloc (.cells #[.string ⟨#[]⟩, .slice none 0 0, .int .i64 0, .int .i64 0, .int .i64 0, .bool false, .bool false, .bool false, .bool false, .bool false, .bool false, .bool false, .bool false] 39 (0, 0)))) := heap_alloc_new _ _
  have L3b : Hid (Later w3 (w3.alloc (.cells #[.string ⟨#[]⟩, .slice none 0 0, .int .i64 0, .int .i64 0, .int .i64 0, .bool false, .bool false, .bool false, .bool false, .bool false, .bool false, .bool false, .bool false] 39 (0, 0)))) := (Below.refl _ _).alloc (Nat.le_refl _) _
  clear hl3 C hs2
  go_wp2_with (refine wpList_rstore_saga (s := s2) (by rfl) _ _ (by rfl) (by rfl) T3.out (by rfl) ?_)
  intro w4 X4 G4
  have Z4 := hide X4
  have L34 : Later w3 w4 := L3b.out.grown G4 (by simp) (fun k hk => by have := Option.some.inj hk; omega)
  have L23 : Later w2 w3 := L3.out
  have L24 : Later w2 w4 := Later.trans L23 L34
  have L12 : Later W1 w2 := L2.out
  have L4 : Hid (Later W1 w4) := Later.trans L12 L24
  have H4 := hide (H1.out.later L4.out)
  have CO := hide (ropen_any H4.out (by have := HNN.out; omega))
  rw [HON.out] at CO
  clear X4 G4 L34 L23 L24 L12
  go_wp2_with (fail)
  refine CO.out.mono ?_
  rintro e w5 ⟨rfl, hl5⟩
  have L45 : Hid (Later w4 w5) := hl5
  have L4a : Later W1 w4 := L4.out
  have L5 : Hid (Later W1 w5) := Later.trans L4a hl5
  have Z5 := hide (Z4.out.below hl5)
  clear hl5 CO L4a
  have HW : Hid (RBookAt F w5 g most t) := H1.out.later L5.out
  obtain ⟨A9, c9, f9, hb9, _, _⟩ := HW.out.body
  have cc2 := cell_of_row w5 g 2 _ _ _ hb9
  have cc0 : w5.cell? ⟨g, 0, none⟩ = some (.int .i64 most) := cell_of_row w5 g 0 _ _ _ hb9
  simp only [List.getElem?_toArray, List.getElem?_cons_succ, List.getElem?_cons_zero] at cc2
  rw [HLN.out] at cc2
  clear hb9
  have XD : Hid (SBox 39 d s w5) := X1.out.below L5.out
  have CU := hide (ropen1_any s w5)
  rw [HOP.out] at CU
  go_wp2_with (refine wpList_val rfl (by rfl) (exec_rload_saga _ (by rfl) (by rfl) XD.out) ?_)
  refine CU.out.mono ?_
  rintro e w7 ⟨rfl, hl7⟩
  have L5a : Later W1 w5 := L5.out
  have L7 : Hid (Later W1 w7) := Later.trans L5a hl7
  have H7 := hide (H1.out.later L7.out)
  clear hl7 CU L5a
  have cc9 : w7.cell? ⟨g, 0, none⟩ = some (.int .i64 most) := by
    obtain ⟨_, _, _, hb9, _⟩ := H7.out.body
    exact cell_of_row w7 g 0 _ _ _ hb9
  have XY : Hid (SBox 39 d s w7) := X1.out.below L7.out
  have CP := hide (rput_any (x := ⟨id, s, l⟩) (p := s.p) (n9 := s.n) (c9 := s.c) H7.out (StepsAt.kept HS1.out (Kept.of_below L7.out _)) ⟨⟨HWF.out, HGS.out.1, HGS.out.2, HRG.out.1⟩, by show id ≤ _; have := HRG.out.2; omega⟩ (fun i hi => HF.out i (by have := Below.size L7.out; have := Below.size L1.out; omega)) HNN.out)
  change Hid (Calls Tryz.prog 36 #[.pointer (some ⟨g, 0, none⟩), .int .i64 id, s.val] w7 _) at CP
  go_wp2_with (refine wpList_val rfl (by rfl) (exec_rload_saga _ (by rfl) (by rfl) XY.out) ?_)
  refine CP.out.mono ?_
  rintro e w8 ⟨rfl, hb8, ht8⟩
  have H8 := hide hb8
  have T8 := hide ht8
  clear hb8 ht8 CP
  obtain ⟨A8, c8, f8, hb8, _, _⟩ := H8.out.body
  have d1 := cell_of_row w8 g 1 _ _ _ hb8
  have d2 := frozen_of_row w8 g 1 _ _ hb8
  simp only [List.getElem?_toArray, List.getElem?_cons_succ, List.getElem?_cons_zero] at d1
  obtain ⟨la, hla⟩ : ∃ la, t.last = la := ⟨_, rfl⟩
  have HLA := hide hla
  have hok := H8.out.ok.2.2
  simp only at hok
  rw [hla] at d1 hok
  have HOK8 := hide hok
  have La0 : Later w W1 := L1.out
  have La1 : Later w w7 := Later.trans La0 L7.out
  have Ta : Hid (Turned (fun i => i = g) w w8) := (Turned.of_below La1 _).trans T8.out
  clear hb8 La0 La1 hok hla
  by_cases hgt : la < id
  · have e1 : decide (la < id) = true := by simp; exact hgt
    have HGT := hide hgt
    clear hgt
    go_wp2_with (fail)
    go_ret
    exact ⟨rfl, by rw [show max t.last id = id from by have := HGT.out; have := HLA.out; omega]; exact H8.out.setLast id (by have := HRG.out; omega) (by have := HRG.out; omega), Ta.out.trans (turned_setCell _ _ _ _)⟩
  · have e1 : decide (la < id) = false := by simp; omega
    have HGT := hide hgt
    clear hgt
    go_wp2_with (fail)
    go_ret
    exact ⟨rfl, by rw [show max t.last id = t.last from by have := HGT.out; have := HLA.out; omega]; exact H8.out, Ta.out⟩
set_option maxHeartbeats 4000000 in
set_option maxRecDepth 100000 in
theorem rset_off_c {id : Int} {s : SagaD} {l : List StepD} (h : RBookAt F w g most t) (_hn : t.L.length ≤ 900) (hs : StepsAt F w s.v l) (_hw : ∀ x ∈ l, x.wf) (_h1 : I64 s.step) (hF : ∀ i, w.heap.size ≤ i → F i) (hr0 : 1 ≤ id) (hr1 : id ≤ 1099511627776) (hgd : goodF l s = true) (hat : atB t id = true) (hoo : (decide ((atS t id).st = 1) || decide ((atS t id).st = 2)) = false) (hop : (decide (s.st = 1) || decide (s.st = 2)) = false) :
    Calls Tryz.prog 20 #[.pointer (some ⟨g, 0, none⟩), .int .i64 id, s.val] w (RSetV F g most (0) (⟨max t.last id, putE ⟨id, s, l⟩ t.L⟩) w) := by
  have hlt := h.lt
  obtain ⟨W1, hW1⟩ : ∃ W1, W1 = w.alloc (.cells s.cells.toArray 39 (0, 0)) := ⟨_, rfl⟩
  obtain ⟨d, hd⟩ : ∃ d, d = w.heap.size := ⟨_, rfl⟩
  have X1 : Hid (SBox 39 d s W1) := by rw [hW1, hd]; exact heap_alloc_new _ _
  have L1 : Hid (Later w W1) := by rw [hW1]; exact (Below.refl _ _).alloc (Nat.le_refl _) _
  have HDG : Hid (g < d) := by rw [hd]; exact hlt
  have H1 : Hid (RBookAt F W1 g most t) := h.later L1.out
  have HS1 := hide (StepsAt.kept hs (Kept.of_below L1.out _))
  have k1 : decide (id < 1) = false := by simp; omega
  have k2 : decide (1099511627776 < id) = false := by simp; omega
  have CG := hide (rgood_any (s := s) (l := l) HS1.out _hw _h1)
  rw [hgd] at CG
  have HRG : Hid (1 ≤ id ∧ id ≤ 1099511627776) := ⟨hr0, hr1⟩
  have HWF := hide _hw
  have HNN := hide _hn
  have HF := hide hF
  have HGS : Hid (l.length ≤ 8 ∧ 0 ≤ s.step ∧ s.step ≤ 9) := good_step hgd
  have HAT := hide hat
  obtain ⟨o, ho⟩ : ∃ o : Int, ((openN t.L : Nat) : Int) = o := ⟨_, rfl⟩
  have HON := hide ho
  have ho0 : 0 ≤ o := by rw [← ho]; omega
  have ho1 : o ≤ 1000 := by have := openN_le t.L; rw [← ho]; omega
  have HOO := hide hoo
  clear hoo
  have HOP := hide hop
  clear hop
  clear hr0 hr1 hgd hat ho
  have XE : Hid (SBox 39 w.heap.size s (w.alloc (.cells s.cells.toArray 39 (0, 0)))) := heap_alloc_new _ _
  have HW1 := hide hW1.symm
  have HG := hide hd.symm
  clear h _hn hs _hw _h1 hF hW1 hd hlt
  go_enter Tryz.func20, Tryz.ntmps20
  go_wp2_with (refine wpList_val rfl (by rfl) (exec_rload_saga _ (by rfl) (by rfl) XE.out) ?_)
  simp only [HW1.out, HG.out]
  refine CG.out.mono ?_
  rintro e w2 ⟨rfl, hl2⟩
  have L2 : Hid (Later W1 w2) := hl2
  have H2 := hide (H1.out.later hl2)
  clear hl2 CG
  have C := hide (rsaga_any (id := id) H2.out (by have := HNN.out; omega))
  rw [HAT.out] at C
  go_wp2_with (fail)
  refine C.out.mono ?_
  rintro e w3 ⟨p, m, c2, rfl, _, hl3⟩
  obtain ⟨s2, hs2⟩ : ∃ s2, (atS t id).withV p m c2 = s2 := ⟨_, rfl⟩
  rw [hs2]
  have HS2 := hide hs2
  have L3 : Hid (Later w2 w3) := hl3
  have T3 : Hid (SBox 39 w3.heap.size SagaD.zero (w3.alloc (.cells #[.string ⟨#[]⟩, .slice none 0 0, .int .i64 0, .int .i64 0, .int .i64 0, .bool false, .bool false, .bool false, .bool false, .bool false, .bool false, .bool false, .bool false] 39 (0, 0)))) := heap_alloc_new _ _
  have L3b : Hid (Later w3 (w3.alloc (.cells #[.string ⟨#[]⟩, .slice none 0 0, .int .i64 0, .int .i64 0, .int .i64 0, .bool false, .bool false, .bool false, .bool false, .bool false, .bool false, .bool false, .bool false] 39 (0, 0)))) := (Below.refl _ _).alloc (Nat.le_refl _) _
  clear hl3 C hs2
  go_wp2_with (refine wpList_rstore_saga (s := s2) (by rfl) _ _ (by rfl) (by rfl) T3.out (by rfl) ?_)
  intro w4 X4 G4
  have Z4 := hide X4
  have L34 : Later w3 w4 := L3b.out.grown G4 (by simp) (fun k hk => by have := Option.some.inj hk; omega)
  have L23 : Later w2 w3 := L3.out
  have L24 : Later w2 w4 := Later.trans L23 L34
  have L12 : Later W1 w2 := L2.out
  have L4 : Hid (Later W1 w4) := Later.trans L12 L24
  have H4 := hide (H1.out.later L4.out)
  have CO := hide (ropen_any H4.out (by have := HNN.out; omega))
  rw [HON.out] at CO
  clear X4 G4 L34 L23 L24 L12
  go_wp2_with (fail)
  refine CO.out.mono ?_
  rintro e w5 ⟨rfl, hl5⟩
  have L45 : Hid (Later w4 w5) := hl5
  have L4a : Later W1 w4 := L4.out
  have L5 : Hid (Later W1 w5) := Later.trans L4a hl5
  have Z5 := hide (Z4.out.below hl5)
  clear hl5 CO L4a
  have CW := hide (ropen1_any s2 w5)
  rw [show (decide (s2.st = 1) || decide (s2.st = 2)) = false from by rw [← HS2.out]; exact HOO.out] at CW
  go_wp2_with (refine wpList_val rfl (by rfl) (exec_rload_saga _ (by rfl) (by rfl) Z5.out) ?_)
  refine CW.out.mono ?_
  rintro e w6 ⟨rfl, hl6⟩
  have L5a : Later W1 w5 := L5.out
  have L6 : Hid (Later W1 w6) := Later.trans L5a hl6
  clear hl6 CW L5a
  have HW : Hid (RBookAt F w6 g most t) := H1.out.later L6.out
  have XD : Hid (SBox 39 d s w6) := X1.out.below L6.out
  have CU := hide (ropen1_any s w6)
  rw [HOP.out] at CU
  go_wp2_with (refine wpList_val rfl (by rfl) (exec_rload_saga _ (by rfl) (by rfl) XD.out) ?_)
  refine CU.out.mono ?_
  rintro e w7 ⟨rfl, hl7⟩
  have L6a : Later W1 w6 := L6.out
  have L7 : Hid (Later W1 w7) := Later.trans L6a hl7
  have H7 := hide (H1.out.later L7.out)
  clear hl7 CU L6a
  have XY : Hid (SBox 39 d s w7) := X1.out.below L7.out
  have CP := hide (rput_any (x := ⟨id, s, l⟩) (p := s.p) (n9 := s.n) (c9 := s.c) H7.out (StepsAt.kept HS1.out (Kept.of_below L7.out _)) ⟨⟨HWF.out, HGS.out.1, HGS.out.2, HRG.out.1⟩, by show id ≤ _; have := HRG.out.2; omega⟩ (fun i hi => HF.out i (by have := Below.size L7.out; have := Below.size L1.out; omega)) HNN.out)
  change Hid (Calls Tryz.prog 36 #[.pointer (some ⟨g, 0, none⟩), .int .i64 id, s.val] w7 _) at CP
  go_wp2_with (refine wpList_val rfl (by rfl) (exec_rload_saga _ (by rfl) (by rfl) XY.out) ?_)
  refine CP.out.mono ?_
  rintro e w8 ⟨rfl, hb8, ht8⟩
  have H8 := hide hb8
  have T8 := hide ht8
  clear hb8 ht8 CP
  obtain ⟨A8, c8, f8, hb8, _, _⟩ := H8.out.body
  have d1 := cell_of_row w8 g 1 _ _ _ hb8
  have d2 := frozen_of_row w8 g 1 _ _ hb8
  simp only [List.getElem?_toArray, List.getElem?_cons_succ, List.getElem?_cons_zero] at d1
  obtain ⟨la, hla⟩ : ∃ la, t.last = la := ⟨_, rfl⟩
  have HLA := hide hla
  have hok := H8.out.ok.2.2
  simp only at hok
  rw [hla] at d1 hok
  have HOK8 := hide hok
  have La0 : Later w W1 := L1.out
  have La1 : Later w w7 := Later.trans La0 L7.out
  have Ta : Hid (Turned (fun i => i = g) w w8) := (Turned.of_below La1 _).trans T8.out
  clear hb8 La0 La1 hok hla
  by_cases hgt : la < id
  · have e1 : decide (la < id) = true := by simp; exact hgt
    have HGT := hide hgt
    clear hgt
    go_wp2_with (fail)
    go_ret
    exact ⟨rfl, by rw [show max t.last id = id from by have := HGT.out; have := HLA.out; omega]; exact H8.out.setLast id (by have := HRG.out; omega) (by have := HRG.out; omega), Ta.out.trans (turned_setCell _ _ _ _)⟩
  · have e1 : decide (la < id) = false := by simp; omega
    have HGT := hide hgt
    clear hgt
    go_wp2_with (fail)
    go_ret
    exact ⟨rfl, by rw [show max t.last id = t.last from by have := HGT.out; have := HLA.out; omega]; exact H8.out, Ta.out⟩
set_option maxHeartbeats 4000000 in
set_option maxRecDepth 100000 in
theorem rset_full_c {id : Int} {s : SagaD} {l : List StepD} (h : RBookAt F w g most t) (_hn : t.L.length ≤ 900) (hs : StepsAt F w s.v l) (_hw : ∀ x ∈ l, x.wf) (_h1 : I64 s.step) (hF : ∀ i, w.heap.size ≤ i → F i) (hr0 : 1 ≤ id) (hr1 : id ≤ 1099511627776) (hgd : goodF l s = true) (hat : atB t id = true) (hoo : (decide ((atS t id).st = 1) || decide ((atS t id).st = 2)) = false) (hop : (decide (s.st = 1) || decide (s.st = 2)) = true) (hfu : most ≤ ((openN t.L : Nat) : Int)) :
    Calls Tryz.prog 20 #[.pointer (some ⟨g, 0, none⟩), .int .i64 id, s.val] w (RSetV F g most (7) (t) w) := by
  have hlt := h.lt
  obtain ⟨W1, hW1⟩ : ∃ W1, W1 = w.alloc (.cells s.cells.toArray 39 (0, 0)) := ⟨_, rfl⟩
  obtain ⟨d, hd⟩ : ∃ d, d = w.heap.size := ⟨_, rfl⟩
  have X1 : Hid (SBox 39 d s W1) := by rw [hW1, hd]; exact heap_alloc_new _ _
  have L1 : Hid (Later w W1) := by rw [hW1]; exact (Below.refl _ _).alloc (Nat.le_refl _) _
  have HDG : Hid (g < d) := by rw [hd]; exact hlt
  have H1 : Hid (RBookAt F W1 g most t) := h.later L1.out
  have HS1 := hide (StepsAt.kept hs (Kept.of_below L1.out _))
  have k1 : decide (id < 1) = false := by simp; omega
  have k2 : decide (1099511627776 < id) = false := by simp; omega
  have CG := hide (rgood_any (s := s) (l := l) HS1.out _hw _h1)
  rw [hgd] at CG
  have HRG : Hid (1 ≤ id ∧ id ≤ 1099511627776) := ⟨hr0, hr1⟩
  have HWF := hide _hw
  have HNN := hide _hn
  have HF := hide hF
  have HAT := hide hat
  obtain ⟨o, ho⟩ : ∃ o : Int, ((openN t.L : Nat) : Int) = o := ⟨_, rfl⟩
  have HON := hide ho
  have ho0 : 0 ≤ o := by rw [← ho]; omega
  have ho1 : o ≤ 1000 := by have := openN_le t.L; rw [← ho]; omega
  have HOO := hide hoo
  clear hoo
  have HOP := hide hop
  rw [ho] at hfu
  have hfu2 : decide (most ≤ o) = true := by simp; omega
  clear hop hfu
  clear hr0 hr1 hgd hat ho
  have XE : Hid (SBox 39 w.heap.size s (w.alloc (.cells s.cells.toArray 39 (0, 0)))) := heap_alloc_new _ _
  have HW1 := hide hW1.symm
  have HG := hide hd.symm
  clear h _hn hs _hw _h1 hF hW1 hd hlt
  go_enter Tryz.func20, Tryz.ntmps20
  go_wp2_with (refine wpList_val rfl (by rfl) (exec_rload_saga _ (by rfl) (by rfl) XE.out) ?_)
  simp only [HW1.out, HG.out]
  refine CG.out.mono ?_
  rintro e w2 ⟨rfl, hl2⟩
  have L2 : Hid (Later W1 w2) := hl2
  have H2 := hide (H1.out.later hl2)
  clear hl2 CG
  have C := hide (rsaga_any (id := id) H2.out (by have := HNN.out; omega))
  rw [HAT.out] at C
  go_wp2_with (fail)
  refine C.out.mono ?_
  rintro e w3 ⟨p, m, c2, rfl, _, hl3⟩
  obtain ⟨s2, hs2⟩ : ∃ s2, (atS t id).withV p m c2 = s2 := ⟨_, rfl⟩
  rw [hs2]
  have HS2 := hide hs2
  have L3 : Hid (Later w2 w3) := hl3
  have T3 : Hid (SBox 39 w3.heap.size SagaD.zero (w3.alloc (.cells #[.string ⟨#[]⟩, .slice none 0 0, .int .i64 0, .int .i64 0, .int .i64 0, .bool false, .bool false, .bool false, .bool false, .bool false, .bool false, .bool false, .bool false] 39 (0, 0)))) := heap_alloc_new _ _
  have L3b : Hid (Later w3 (w3.alloc (.cells #[.string ⟨#[]⟩, .slice none 0 0, .int .i64 0, .int .i64 0, .int .i64 0, .bool false, .bool false, .bool false, .bool false, .bool false, .bool false, .bool false, .bool false] 39 (0, 0)))) := (Below.refl _ _).alloc (Nat.le_refl _) _
  clear hl3 C hs2
  go_wp2_with (refine wpList_rstore_saga (s := s2) (by rfl) _ _ (by rfl) (by rfl) T3.out (by rfl) ?_)
  intro w4 X4 G4
  have Z4 := hide X4
  have L34 : Later w3 w4 := L3b.out.grown G4 (by simp) (fun k hk => by have := Option.some.inj hk; omega)
  have L23 : Later w2 w3 := L3.out
  have L24 : Later w2 w4 := Later.trans L23 L34
  have L12 : Later W1 w2 := L2.out
  have L4 : Hid (Later W1 w4) := Later.trans L12 L24
  have H4 := hide (H1.out.later L4.out)
  have CO := hide (ropen_any H4.out (by have := HNN.out; omega))
  rw [HON.out] at CO
  clear X4 G4 L34 L23 L24 L12
  go_wp2_with (fail)
  refine CO.out.mono ?_
  rintro e w5 ⟨rfl, hl5⟩
  have L45 : Hid (Later w4 w5) := hl5
  have L4a : Later W1 w4 := L4.out
  have L5 : Hid (Later W1 w5) := Later.trans L4a hl5
  have Z5 := hide (Z4.out.below hl5)
  clear hl5 CO L4a
  have CW := hide (ropen1_any s2 w5)
  rw [show (decide (s2.st = 1) || decide (s2.st = 2)) = false from by rw [← HS2.out]; exact HOO.out] at CW
  go_wp2_with (refine wpList_val rfl (by rfl) (exec_rload_saga _ (by rfl) (by rfl) Z5.out) ?_)
  refine CW.out.mono ?_
  rintro e w6 ⟨rfl, hl6⟩
  have L5a : Later W1 w5 := L5.out
  have L6 : Hid (Later W1 w6) := Later.trans L5a hl6
  clear hl6 CW L5a
  have HW : Hid (RBookAt F w6 g most t) := H1.out.later L6.out
  have XD : Hid (SBox 39 d s w6) := X1.out.below L6.out
  have CU := hide (ropen1_any s w6)
  rw [HOP.out] at CU
  go_wp2_with (refine wpList_val rfl (by rfl) (exec_rload_saga _ (by rfl) (by rfl) XD.out) ?_)
  refine CU.out.mono ?_
  rintro e w7 ⟨rfl, hl7⟩
  have L6a : Later W1 w6 := L6.out
  have L7 : Hid (Later W1 w7) := Later.trans L6a hl7
  have H7 := hide (H1.out.later L7.out)
  clear hl7 CU L6a
  have cc9 : w7.cell? ⟨g, 0, none⟩ = some (.int .i64 most) := by
    obtain ⟨_, _, _, hb9, _⟩ := H7.out.body
    exact cell_of_row w7 g 0 _ _ _ hb9
  go_wp2_with (fail)
  go_ret
  have La0 : Later w W1 := L1.out
  have La : Later w w7 := Later.trans La0 L7.out
  exact ⟨rfl, H7.out, Turned.of_below La _⟩
set_option maxHeartbeats 4000000 in
set_option maxRecDepth 100000 in
theorem rset_on_c {id : Int} {s : SagaD} {l : List StepD} (h : RBookAt F w g most t) (_hn : t.L.length ≤ 900) (hs : StepsAt F w s.v l) (_hw : ∀ x ∈ l, x.wf) (_h1 : I64 s.step) (hF : ∀ i, w.heap.size ≤ i → F i) (hr0 : 1 ≤ id) (hr1 : id ≤ 1099511627776) (hgd : goodF l s = true) (hat : atB t id = true) (hoo : (decide ((atS t id).st = 1) || decide ((atS t id).st = 2)) = false) (hop : (decide (s.st = 1) || decide (s.st = 2)) = true) (hfu : ((openN t.L : Nat) : Int) < most) :
    Calls Tryz.prog 20 #[.pointer (some ⟨g, 0, none⟩), .int .i64 id, s.val] w (RSetV F g most (0) (⟨max t.last id, putE ⟨id, s, l⟩ t.L⟩) w) := by
  have hlt := h.lt
  obtain ⟨W1, hW1⟩ : ∃ W1, W1 = w.alloc (.cells s.cells.toArray 39 (0, 0)) := ⟨_, rfl⟩
  obtain ⟨d, hd⟩ : ∃ d, d = w.heap.size := ⟨_, rfl⟩
  have X1 : Hid (SBox 39 d s W1) := by rw [hW1, hd]; exact heap_alloc_new _ _
  have L1 : Hid (Later w W1) := by rw [hW1]; exact (Below.refl _ _).alloc (Nat.le_refl _) _
  have HDG : Hid (g < d) := by rw [hd]; exact hlt
  have H1 : Hid (RBookAt F W1 g most t) := h.later L1.out
  have HS1 := hide (StepsAt.kept hs (Kept.of_below L1.out _))
  have k1 : decide (id < 1) = false := by simp; omega
  have k2 : decide (1099511627776 < id) = false := by simp; omega
  have CG := hide (rgood_any (s := s) (l := l) HS1.out _hw _h1)
  rw [hgd] at CG
  have HRG : Hid (1 ≤ id ∧ id ≤ 1099511627776) := ⟨hr0, hr1⟩
  have HWF := hide _hw
  have HNN := hide _hn
  have HF := hide hF
  have HGS : Hid (l.length ≤ 8 ∧ 0 ≤ s.step ∧ s.step ≤ 9) := good_step hgd
  have HAT := hide hat
  obtain ⟨o, ho⟩ : ∃ o : Int, ((openN t.L : Nat) : Int) = o := ⟨_, rfl⟩
  have HON := hide ho
  have ho0 : 0 ≤ o := by rw [← ho]; omega
  have ho1 : o ≤ 1000 := by have := openN_le t.L; rw [← ho]; omega
  have HOO := hide hoo
  clear hoo
  have HOP := hide hop
  rw [ho] at hfu
  have hfu2 : decide (most ≤ o) = false := by simp; omega
  clear hop hfu
  clear hr0 hr1 hgd hat ho
  have XE : Hid (SBox 39 w.heap.size s (w.alloc (.cells s.cells.toArray 39 (0, 0)))) := heap_alloc_new _ _
  have HW1 := hide hW1.symm
  have HG := hide hd.symm
  clear h _hn hs _hw _h1 hF hW1 hd hlt
  go_enter Tryz.func20, Tryz.ntmps20
  go_wp2_with (refine wpList_val rfl (by rfl) (exec_rload_saga _ (by rfl) (by rfl) XE.out) ?_)
  simp only [HW1.out, HG.out]
  refine CG.out.mono ?_
  rintro e w2 ⟨rfl, hl2⟩
  have L2 : Hid (Later W1 w2) := hl2
  have H2 := hide (H1.out.later hl2)
  clear hl2 CG
  have C := hide (rsaga_any (id := id) H2.out (by have := HNN.out; omega))
  rw [HAT.out] at C
  go_wp2_with (fail)
  refine C.out.mono ?_
  rintro e w3 ⟨p, m, c2, rfl, _, hl3⟩
  obtain ⟨s2, hs2⟩ : ∃ s2, (atS t id).withV p m c2 = s2 := ⟨_, rfl⟩
  rw [hs2]
  have HS2 := hide hs2
  have L3 : Hid (Later w2 w3) := hl3
  have T3 : Hid (SBox 39 w3.heap.size SagaD.zero (w3.alloc (.cells #[.string ⟨#[]⟩, .slice none 0 0, .int .i64 0, .int .i64 0, .int .i64 0, .bool false, .bool false, .bool false, .bool false, .bool false, .bool false, .bool false, .bool false] 39 (0, 0)))) := heap_alloc_new _ _
  have L3b : Hid (Later w3 (w3.alloc (.cells #[.string ⟨#[]⟩, .slice none 0 0, .int .i64 0, .int .i64 0, .int .i64 0, .bool false, .bool false, .bool false, .bool false, .bool false, .bool false, .bool false, .bool false] 39 (0, 0)))) := (Below.refl _ _).alloc (Nat.le_refl _) _
  clear hl3 C hs2
  go_wp2_with (refine wpList_rstore_saga (s := s2) (by rfl) _ _ (by rfl) (by rfl) T3.out (by rfl) ?_)
  intro w4 X4 G4
  have Z4 := hide X4
  have L34 : Later w3 w4 := L3b.out.grown G4 (by simp) (fun k hk => by have := Option.some.inj hk; omega)
  have L23 : Later w2 w3 := L3.out
  have L24 : Later w2 w4 := Later.trans L23 L34
  have L12 : Later W1 w2 := L2.out
  have L4 : Hid (Later W1 w4) := Later.trans L12 L24
  have H4 := hide (H1.out.later L4.out)
  have CO := hide (ropen_any H4.out (by have := HNN.out; omega))
  rw [HON.out] at CO
  clear X4 G4 L34 L23 L24 L12
  go_wp2_with (fail)
  refine CO.out.mono ?_
  rintro e w5 ⟨rfl, hl5⟩
  have L45 : Hid (Later w4 w5) := hl5
  have L4a : Later W1 w4 := L4.out
  have L5 : Hid (Later W1 w5) := Later.trans L4a hl5
  have Z5 := hide (Z4.out.below hl5)
  clear hl5 CO L4a
  have CW := hide (ropen1_any s2 w5)
  rw [show (decide (s2.st = 1) || decide (s2.st = 2)) = false from by rw [← HS2.out]; exact HOO.out] at CW
  go_wp2_with (refine wpList_val rfl (by rfl) (exec_rload_saga _ (by rfl) (by rfl) Z5.out) ?_)
  refine CW.out.mono ?_
  rintro e w6 ⟨rfl, hl6⟩
  have L5a : Later W1 w5 := L5.out
  have L6 : Hid (Later W1 w6) := Later.trans L5a hl6
  clear hl6 CW L5a
  have HW : Hid (RBookAt F w6 g most t) := H1.out.later L6.out
  have XD : Hid (SBox 39 d s w6) := X1.out.below L6.out
  have CU := hide (ropen1_any s w6)
  rw [HOP.out] at CU
  go_wp2_with (refine wpList_val rfl (by rfl) (exec_rload_saga _ (by rfl) (by rfl) XD.out) ?_)
  refine CU.out.mono ?_
  rintro e w7 ⟨rfl, hl7⟩
  have L6a : Later W1 w6 := L6.out
  have L7 : Hid (Later W1 w7) := Later.trans L6a hl7
  have H7 := hide (H1.out.later L7.out)
  clear hl7 CU L6a
  have cc9 : w7.cell? ⟨g, 0, none⟩ = some (.int .i64 most) := by
    obtain ⟨_, _, _, hb9, _⟩ := H7.out.body
    exact cell_of_row w7 g 0 _ _ _ hb9
  have XY : Hid (SBox 39 d s w7) := X1.out.below L7.out
  have CP := hide (rput_any (x := ⟨id, s, l⟩) (p := s.p) (n9 := s.n) (c9 := s.c) H7.out (StepsAt.kept HS1.out (Kept.of_below L7.out _)) ⟨⟨HWF.out, HGS.out.1, HGS.out.2, HRG.out.1⟩, by show id ≤ _; have := HRG.out.2; omega⟩ (fun i hi => HF.out i (by have := Below.size L7.out; have := Below.size L1.out; omega)) HNN.out)
  change Hid (Calls Tryz.prog 36 #[.pointer (some ⟨g, 0, none⟩), .int .i64 id, s.val] w7 _) at CP
  go_wp2_with (refine wpList_val rfl (by rfl) (exec_rload_saga _ (by rfl) (by rfl) XY.out) ?_)
  refine CP.out.mono ?_
  rintro e w8 ⟨rfl, hb8, ht8⟩
  have H8 := hide hb8
  have T8 := hide ht8
  clear hb8 ht8 CP
  obtain ⟨A8, c8, f8, hb8, _, _⟩ := H8.out.body
  have d1 := cell_of_row w8 g 1 _ _ _ hb8
  have d2 := frozen_of_row w8 g 1 _ _ hb8
  simp only [List.getElem?_toArray, List.getElem?_cons_succ, List.getElem?_cons_zero] at d1
  obtain ⟨la, hla⟩ : ∃ la, t.last = la := ⟨_, rfl⟩
  have HLA := hide hla
  have hok := H8.out.ok.2.2
  simp only at hok
  rw [hla] at d1 hok
  have HOK8 := hide hok
  have La0 : Later w W1 := L1.out
  have La1 : Later w w7 := Later.trans La0 L7.out
  have Ta : Hid (Turned (fun i => i = g) w w8) := (Turned.of_below La1 _).trans T8.out
  clear hb8 La0 La1 hok hla
  by_cases hgt : la < id
  · have e1 : decide (la < id) = true := by simp; exact hgt
    have HGT := hide hgt
    clear hgt
    go_wp2_with (fail)
    go_ret
    exact ⟨rfl, by rw [show max t.last id = id from by have := HGT.out; have := HLA.out; omega]; exact H8.out.setLast id (by have := HRG.out; omega) (by have := HRG.out; omega), Ta.out.trans (turned_setCell _ _ _ _)⟩
  · have e1 : decide (la < id) = false := by simp; omega
    have HGT := hide hgt
    clear hgt
    go_wp2_with (fail)
    go_ret
    exact ⟨rfl, by rw [show max t.last id = t.last from by have := HGT.out; have := HLA.out; omega]; exact H8.out, Ta.out⟩
set_option maxHeartbeats 4000000 in
set_option maxRecDepth 100000 in
theorem rset_off_o {id : Int} {s : SagaD} {l : List StepD} (h : RBookAt F w g most t) (_hn : t.L.length ≤ 900) (hs : StepsAt F w s.v l) (_hw : ∀ x ∈ l, x.wf) (_h1 : I64 s.step) (hF : ∀ i, w.heap.size ≤ i → F i) (hr0 : 1 ≤ id) (hr1 : id ≤ 1099511627776) (hgd : goodF l s = true) (hat : atB t id = true) (hoo : (decide ((atS t id).st = 1) || decide ((atS t id).st = 2)) = true) (hop : (decide (s.st = 1) || decide (s.st = 2)) = false) :
    Calls Tryz.prog 20 #[.pointer (some ⟨g, 0, none⟩), .int .i64 id, s.val] w (RSetV F g most (0) (⟨max t.last id, putE ⟨id, s, l⟩ t.L⟩) w) := by
  have hlt := h.lt
  obtain ⟨W1, hW1⟩ : ∃ W1, W1 = w.alloc (.cells s.cells.toArray 39 (0, 0)) := ⟨_, rfl⟩
  obtain ⟨d, hd⟩ : ∃ d, d = w.heap.size := ⟨_, rfl⟩
  have X1 : Hid (SBox 39 d s W1) := by rw [hW1, hd]; exact heap_alloc_new _ _
  have L1 : Hid (Later w W1) := by rw [hW1]; exact (Below.refl _ _).alloc (Nat.le_refl _) _
  have HDG : Hid (g < d) := by rw [hd]; exact hlt
  have H1 : Hid (RBookAt F W1 g most t) := h.later L1.out
  have HS1 := hide (StepsAt.kept hs (Kept.of_below L1.out _))
  have k1 : decide (id < 1) = false := by simp; omega
  have k2 : decide (1099511627776 < id) = false := by simp; omega
  have CG := hide (rgood_any (s := s) (l := l) HS1.out _hw _h1)
  rw [hgd] at CG
  have HRG : Hid (1 ≤ id ∧ id ≤ 1099511627776) := ⟨hr0, hr1⟩
  have HWF := hide _hw
  have HNN := hide _hn
  have HF := hide hF
  have HGS : Hid (l.length ≤ 8 ∧ 0 ≤ s.step ∧ s.step ≤ 9) := good_step hgd
  have HAT := hide hat
  obtain ⟨o, ho⟩ : ∃ o : Int, ((openN t.L : Nat) : Int) = o := ⟨_, rfl⟩
  have HON := hide ho
  have ho0 : 0 ≤ o := by rw [← ho]; omega
  have ho1 : o ≤ 1000 := by have := openN_le t.L; rw [← ho]; omega
  have HOO := hide hoo
  clear hoo
  have HOP := hide hop
  clear hop
  clear hr0 hr1 hgd hat ho
  have XE : Hid (SBox 39 w.heap.size s (w.alloc (.cells s.cells.toArray 39 (0, 0)))) := heap_alloc_new _ _
  have HW1 := hide hW1.symm
  have HG := hide hd.symm
  clear h _hn hs _hw _h1 hF hW1 hd hlt
  go_enter Tryz.func20, Tryz.ntmps20
  go_wp2_with (refine wpList_val rfl (by rfl) (exec_rload_saga _ (by rfl) (by rfl) XE.out) ?_)
  simp only [HW1.out, HG.out]
  refine CG.out.mono ?_
  rintro e w2 ⟨rfl, hl2⟩
  have L2 : Hid (Later W1 w2) := hl2
  have H2 := hide (H1.out.later hl2)
  clear hl2 CG
  have C := hide (rsaga_any (id := id) H2.out (by have := HNN.out; omega))
  rw [HAT.out] at C
  go_wp2_with (fail)
  refine C.out.mono ?_
  rintro e w3 ⟨p, m, c2, rfl, _, hl3⟩
  obtain ⟨s2, hs2⟩ : ∃ s2, (atS t id).withV p m c2 = s2 := ⟨_, rfl⟩
  rw [hs2]
  have HS2 := hide hs2
  have L3 : Hid (Later w2 w3) := hl3
  have T3 : Hid (SBox 39 w3.heap.size SagaD.zero (w3.alloc (.cells #[.string ⟨#[]⟩, .slice none 0 0, .int .i64 0, .int .i64 0, .int .i64 0, .bool false, .bool false, .bool false, .bool false, .bool false, .bool false, .bool false, .bool false] 39 (0, 0)))) := heap_alloc_new _ _
  have L3b : Hid (Later w3 (w3.alloc (.cells #[.string ⟨#[]⟩, .slice none 0 0, .int .i64 0, .int .i64 0, .int .i64 0, .bool false, .bool false, .bool false, .bool false, .bool false, .bool false, .bool false, .bool false] 39 (0, 0)))) := (Below.refl _ _).alloc (Nat.le_refl _) _
  clear hl3 C hs2
  go_wp2_with (refine wpList_rstore_saga (s := s2) (by rfl) _ _ (by rfl) (by rfl) T3.out (by rfl) ?_)
  intro w4 X4 G4
  have Z4 := hide X4
  have L34 : Later w3 w4 := L3b.out.grown G4 (by simp) (fun k hk => by have := Option.some.inj hk; omega)
  have L23 : Later w2 w3 := L3.out
  have L24 : Later w2 w4 := Later.trans L23 L34
  have L12 : Later W1 w2 := L2.out
  have L4 : Hid (Later W1 w4) := Later.trans L12 L24
  have H4 := hide (H1.out.later L4.out)
  have CO := hide (ropen_any H4.out (by have := HNN.out; omega))
  rw [HON.out] at CO
  clear X4 G4 L34 L23 L24 L12
  go_wp2_with (fail)
  refine CO.out.mono ?_
  rintro e w5 ⟨rfl, hl5⟩
  have L45 : Hid (Later w4 w5) := hl5
  have L4a : Later W1 w4 := L4.out
  have L5 : Hid (Later W1 w5) := Later.trans L4a hl5
  have Z5 := hide (Z4.out.below hl5)
  clear hl5 CO L4a
  have CW := hide (ropen1_any s2 w5)
  rw [show (decide (s2.st = 1) || decide (s2.st = 2)) = true from by rw [← HS2.out]; exact HOO.out] at CW
  go_wp2_with (refine wpList_val rfl (by rfl) (exec_rload_saga _ (by rfl) (by rfl) Z5.out) ?_)
  refine CW.out.mono ?_
  rintro e w6 ⟨rfl, hl6⟩
  have L5a : Later W1 w5 := L5.out
  have L6 : Hid (Later W1 w6) := Later.trans L5a hl6
  clear hl6 CW L5a
  have HW : Hid (RBookAt F w6 g most t) := H1.out.later L6.out
  have XD : Hid (SBox 39 d s w6) := X1.out.below L6.out
  have CU := hide (ropen1_any s w6)
  rw [HOP.out] at CU
  go_wp2_with (refine wpList_val rfl (by rfl) (exec_rload_saga _ (by rfl) (by rfl) XD.out) ?_)
  refine CU.out.mono ?_
  rintro e w7 ⟨rfl, hl7⟩
  have L6a : Later W1 w6 := L6.out
  have L7 : Hid (Later W1 w7) := Later.trans L6a hl7
  have H7 := hide (H1.out.later L7.out)
  clear hl7 CU L6a
  have XY : Hid (SBox 39 d s w7) := X1.out.below L7.out
  have CP := hide (rput_any (x := ⟨id, s, l⟩) (p := s.p) (n9 := s.n) (c9 := s.c) H7.out (StepsAt.kept HS1.out (Kept.of_below L7.out _)) ⟨⟨HWF.out, HGS.out.1, HGS.out.2, HRG.out.1⟩, by show id ≤ _; have := HRG.out.2; omega⟩ (fun i hi => HF.out i (by have := Below.size L7.out; have := Below.size L1.out; omega)) HNN.out)
  change Hid (Calls Tryz.prog 36 #[.pointer (some ⟨g, 0, none⟩), .int .i64 id, s.val] w7 _) at CP
  go_wp2_with (refine wpList_val rfl (by rfl) (exec_rload_saga _ (by rfl) (by rfl) XY.out) ?_)
  refine CP.out.mono ?_
  rintro e w8 ⟨rfl, hb8, ht8⟩
  have H8 := hide hb8
  have T8 := hide ht8
  clear hb8 ht8 CP
  obtain ⟨A8, c8, f8, hb8, _, _⟩ := H8.out.body
  have d1 := cell_of_row w8 g 1 _ _ _ hb8
  have d2 := frozen_of_row w8 g 1 _ _ hb8
  simp only [List.getElem?_toArray, List.getElem?_cons_succ, List.getElem?_cons_zero] at d1
  obtain ⟨la, hla⟩ : ∃ la, t.last = la := ⟨_, rfl⟩
  have HLA := hide hla
  have hok := H8.out.ok.2.2
  simp only at hok
  rw [hla] at d1 hok
  have HOK8 := hide hok
  have La0 : Later w W1 := L1.out
  have La1 : Later w w7 := Later.trans La0 L7.out
  have Ta : Hid (Turned (fun i => i = g) w w8) := (Turned.of_below La1 _).trans T8.out
  clear hb8 La0 La1 hok hla
  by_cases hgt : la < id
  · have e1 : decide (la < id) = true := by simp; exact hgt
    have HGT := hide hgt
    clear hgt
    go_wp2_with (fail)
    go_ret
    exact ⟨rfl, by rw [show max t.last id = id from by have := HGT.out; have := HLA.out; omega]; exact H8.out.setLast id (by have := HRG.out; omega) (by have := HRG.out; omega), Ta.out.trans (turned_setCell _ _ _ _)⟩
  · have e1 : decide (la < id) = false := by simp; omega
    have HGT := hide hgt
    clear hgt
    go_wp2_with (fail)
    go_ret
    exact ⟨rfl, by rw [show max t.last id = t.last from by have := HGT.out; have := HLA.out; omega]; exact H8.out, Ta.out⟩
set_option maxHeartbeats 4000000 in
set_option maxRecDepth 100000 in
theorem rset_full_o {id : Int} {s : SagaD} {l : List StepD} (h : RBookAt F w g most t) (_hn : t.L.length ≤ 900) (hs : StepsAt F w s.v l) (_hw : ∀ x ∈ l, x.wf) (_h1 : I64 s.step) (hF : ∀ i, w.heap.size ≤ i → F i) (hr0 : 1 ≤ id) (hr1 : id ≤ 1099511627776) (hgd : goodF l s = true) (hat : atB t id = true) (hoo : (decide ((atS t id).st = 1) || decide ((atS t id).st = 2)) = true) (hop : (decide (s.st = 1) || decide (s.st = 2)) = true) (hfu : most ≤ ((openN t.L : Nat) : Int) - 1) :
    Calls Tryz.prog 20 #[.pointer (some ⟨g, 0, none⟩), .int .i64 id, s.val] w (RSetV F g most (7) (t) w) := by
  have hlt := h.lt
  obtain ⟨W1, hW1⟩ : ∃ W1, W1 = w.alloc (.cells s.cells.toArray 39 (0, 0)) := ⟨_, rfl⟩
  obtain ⟨d, hd⟩ : ∃ d, d = w.heap.size := ⟨_, rfl⟩
  have X1 : Hid (SBox 39 d s W1) := by rw [hW1, hd]; exact heap_alloc_new _ _
  have L1 : Hid (Later w W1) := by rw [hW1]; exact (Below.refl _ _).alloc (Nat.le_refl _) _
  have HDG : Hid (g < d) := by rw [hd]; exact hlt
  have H1 : Hid (RBookAt F W1 g most t) := h.later L1.out
  have HS1 := hide (StepsAt.kept hs (Kept.of_below L1.out _))
  have k1 : decide (id < 1) = false := by simp; omega
  have k2 : decide (1099511627776 < id) = false := by simp; omega
  have CG := hide (rgood_any (s := s) (l := l) HS1.out _hw _h1)
  rw [hgd] at CG
  have HRG : Hid (1 ≤ id ∧ id ≤ 1099511627776) := ⟨hr0, hr1⟩
  have HWF := hide _hw
  have HNN := hide _hn
  have HF := hide hF
  have HAT := hide hat
  obtain ⟨o, ho⟩ : ∃ o : Int, ((openN t.L : Nat) : Int) = o := ⟨_, rfl⟩
  have HON := hide ho
  have ho0 : 0 ≤ o := by rw [← ho]; omega
  have ho1 : o ≤ 1000 := by have := openN_le t.L; rw [← ho]; omega
  have HOO := hide hoo
  clear hoo
  have HOP := hide hop
  rw [ho] at hfu
  have hfu2 : decide (most ≤ (o - 1)) = true := by simp; omega
  clear hop hfu
  clear hr0 hr1 hgd hat ho
  have XE : Hid (SBox 39 w.heap.size s (w.alloc (.cells s.cells.toArray 39 (0, 0)))) := heap_alloc_new _ _
  have HW1 := hide hW1.symm
  have HG := hide hd.symm
  clear h _hn hs _hw _h1 hF hW1 hd hlt
  go_enter Tryz.func20, Tryz.ntmps20
  go_wp2_with (refine wpList_val rfl (by rfl) (exec_rload_saga _ (by rfl) (by rfl) XE.out) ?_)
  simp only [HW1.out, HG.out]
  refine CG.out.mono ?_
  rintro e w2 ⟨rfl, hl2⟩
  have L2 : Hid (Later W1 w2) := hl2
  have H2 := hide (H1.out.later hl2)
  clear hl2 CG
  have C := hide (rsaga_any (id := id) H2.out (by have := HNN.out; omega))
  rw [HAT.out] at C
  go_wp2_with (fail)
  refine C.out.mono ?_
  rintro e w3 ⟨p, m, c2, rfl, _, hl3⟩
  obtain ⟨s2, hs2⟩ : ∃ s2, (atS t id).withV p m c2 = s2 := ⟨_, rfl⟩
  rw [hs2]
  have HS2 := hide hs2
  have L3 : Hid (Later w2 w3) := hl3
  have T3 : Hid (SBox 39 w3.heap.size SagaD.zero (w3.alloc (.cells #[.string ⟨#[]⟩, .slice none 0 0, .int .i64 0, .int .i64 0, .int .i64 0, .bool false, .bool false, .bool false, .bool false, .bool false, .bool false, .bool false, .bool false] 39 (0, 0)))) := heap_alloc_new _ _
  have L3b : Hid (Later w3 (w3.alloc (.cells #[.string ⟨#[]⟩, .slice none 0 0, .int .i64 0, .int .i64 0, .int .i64 0, .bool false, .bool false, .bool false, .bool false, .bool false, .bool false, .bool false, .bool false] 39 (0, 0)))) := (Below.refl _ _).alloc (Nat.le_refl _) _
  clear hl3 C hs2
  go_wp2_with (refine wpList_rstore_saga (s := s2) (by rfl) _ _ (by rfl) (by rfl) T3.out (by rfl) ?_)
  intro w4 X4 G4
  have Z4 := hide X4
  have L34 : Later w3 w4 := L3b.out.grown G4 (by simp) (fun k hk => by have := Option.some.inj hk; omega)
  have L23 : Later w2 w3 := L3.out
  have L24 : Later w2 w4 := Later.trans L23 L34
  have L12 : Later W1 w2 := L2.out
  have L4 : Hid (Later W1 w4) := Later.trans L12 L24
  have H4 := hide (H1.out.later L4.out)
  have CO := hide (ropen_any H4.out (by have := HNN.out; omega))
  rw [HON.out] at CO
  clear X4 G4 L34 L23 L24 L12
  go_wp2_with (fail)
  refine CO.out.mono ?_
  rintro e w5 ⟨rfl, hl5⟩
  have L45 : Hid (Later w4 w5) := hl5
  have L4a : Later W1 w4 := L4.out
  have L5 : Hid (Later W1 w5) := Later.trans L4a hl5
  have Z5 := hide (Z4.out.below hl5)
  clear hl5 CO L4a
  have CW := hide (ropen1_any s2 w5)
  rw [show (decide (s2.st = 1) || decide (s2.st = 2)) = true from by rw [← HS2.out]; exact HOO.out] at CW
  go_wp2_with (refine wpList_val rfl (by rfl) (exec_rload_saga _ (by rfl) (by rfl) Z5.out) ?_)
  refine CW.out.mono ?_
  rintro e w6 ⟨rfl, hl6⟩
  have L5a : Later W1 w5 := L5.out
  have L6 : Hid (Later W1 w6) := Later.trans L5a hl6
  clear hl6 CW L5a
  have HW : Hid (RBookAt F w6 g most t) := H1.out.later L6.out
  have XD : Hid (SBox 39 d s w6) := X1.out.below L6.out
  have CU := hide (ropen1_any s w6)
  rw [HOP.out] at CU
  go_wp2_with (refine wpList_val rfl (by rfl) (exec_rload_saga _ (by rfl) (by rfl) XD.out) ?_)
  refine CU.out.mono ?_
  rintro e w7 ⟨rfl, hl7⟩
  have L6a : Later W1 w6 := L6.out
  have L7 : Hid (Later W1 w7) := Later.trans L6a hl7
  have H7 := hide (H1.out.later L7.out)
  clear hl7 CU L6a
  have cc9 : w7.cell? ⟨g, 0, none⟩ = some (.int .i64 most) := by
    obtain ⟨_, _, _, hb9, _⟩ := H7.out.body
    exact cell_of_row w7 g 0 _ _ _ hb9
  go_wp2_with (fail)
  go_ret
  have La0 : Later w W1 := L1.out
  have La : Later w w7 := Later.trans La0 L7.out
  exact ⟨rfl, H7.out, Turned.of_below La _⟩
set_option maxHeartbeats 4000000 in
set_option maxRecDepth 100000 in
theorem rset_on_o {id : Int} {s : SagaD} {l : List StepD} (h : RBookAt F w g most t) (_hn : t.L.length ≤ 900) (hs : StepsAt F w s.v l) (_hw : ∀ x ∈ l, x.wf) (_h1 : I64 s.step) (hF : ∀ i, w.heap.size ≤ i → F i) (hr0 : 1 ≤ id) (hr1 : id ≤ 1099511627776) (hgd : goodF l s = true) (hat : atB t id = true) (hoo : (decide ((atS t id).st = 1) || decide ((atS t id).st = 2)) = true) (hop : (decide (s.st = 1) || decide (s.st = 2)) = true) (hfu : ((openN t.L : Nat) : Int) - 1 < most) :
    Calls Tryz.prog 20 #[.pointer (some ⟨g, 0, none⟩), .int .i64 id, s.val] w (RSetV F g most (0) (⟨max t.last id, putE ⟨id, s, l⟩ t.L⟩) w) := by
  have hlt := h.lt
  obtain ⟨W1, hW1⟩ : ∃ W1, W1 = w.alloc (.cells s.cells.toArray 39 (0, 0)) := ⟨_, rfl⟩
  obtain ⟨d, hd⟩ : ∃ d, d = w.heap.size := ⟨_, rfl⟩
  have X1 : Hid (SBox 39 d s W1) := by rw [hW1, hd]; exact heap_alloc_new _ _
  have L1 : Hid (Later w W1) := by rw [hW1]; exact (Below.refl _ _).alloc (Nat.le_refl _) _
  have HDG : Hid (g < d) := by rw [hd]; exact hlt
  have H1 : Hid (RBookAt F W1 g most t) := h.later L1.out
  have HS1 := hide (StepsAt.kept hs (Kept.of_below L1.out _))
  have k1 : decide (id < 1) = false := by simp; omega
  have k2 : decide (1099511627776 < id) = false := by simp; omega
  have CG := hide (rgood_any (s := s) (l := l) HS1.out _hw _h1)
  rw [hgd] at CG
  have HRG : Hid (1 ≤ id ∧ id ≤ 1099511627776) := ⟨hr0, hr1⟩
  have HWF := hide _hw
  have HNN := hide _hn
  have HF := hide hF
  have HGS : Hid (l.length ≤ 8 ∧ 0 ≤ s.step ∧ s.step ≤ 9) := good_step hgd
  have HAT := hide hat
  obtain ⟨o, ho⟩ : ∃ o : Int, ((openN t.L : Nat) : Int) = o := ⟨_, rfl⟩
  have HON := hide ho
  have ho0 : 0 ≤ o := by rw [← ho]; omega
  have ho1 : o ≤ 1000 := by have := openN_le t.L; rw [← ho]; omega
  have HOO := hide hoo
  clear hoo
  have HOP := hide hop
  rw [ho] at hfu
  have hfu2 : decide (most ≤ (o - 1)) = false := by simp; omega
  clear hop hfu
  clear hr0 hr1 hgd hat ho
  have XE : Hid (SBox 39 w.heap.size s (w.alloc (.cells s.cells.toArray 39 (0, 0)))) := heap_alloc_new _ _
  have HW1 := hide hW1.symm
  have HG := hide hd.symm
  clear h _hn hs _hw _h1 hF hW1 hd hlt
  go_enter Tryz.func20, Tryz.ntmps20
  go_wp2_with (refine wpList_val rfl (by rfl) (exec_rload_saga _ (by rfl) (by rfl) XE.out) ?_)
  simp only [HW1.out, HG.out]
  refine CG.out.mono ?_
  rintro e w2 ⟨rfl, hl2⟩
  have L2 : Hid (Later W1 w2) := hl2
  have H2 := hide (H1.out.later hl2)
  clear hl2 CG
  have C := hide (rsaga_any (id := id) H2.out (by have := HNN.out; omega))
  rw [HAT.out] at C
  go_wp2_with (fail)
  refine C.out.mono ?_
  rintro e w3 ⟨p, m, c2, rfl, _, hl3⟩
  obtain ⟨s2, hs2⟩ : ∃ s2, (atS t id).withV p m c2 = s2 := ⟨_, rfl⟩
  rw [hs2]
  have HS2 := hide hs2
  have L3 : Hid (Later w2 w3) := hl3
  have T3 : Hid (SBox 39 w3.heap.size SagaD.zero (w3.alloc (.cells #[.string ⟨#[]⟩, .slice none 0 0, .int .i64 0, .int .i64 0, .int .i64 0, .bool false, .bool false, .bool false, .bool false, .bool false, .bool false, .bool false, .bool false] 39 (0, 0)))) := heap_alloc_new _ _
  have L3b : Hid (Later w3 (w3.alloc (.cells #[.string ⟨#[]⟩, .slice none 0 0, .int .i64 0, .int .i64 0, .int .i64 0, .bool false, .bool false, .bool false, .bool false, .bool false, .bool false, .bool false, .bool false] 39 (0, 0)))) := (Below.refl _ _).alloc (Nat.le_refl _) _
  clear hl3 C hs2
  go_wp2_with (refine wpList_rstore_saga (s := s2) (by rfl) _ _ (by rfl) (by rfl) T3.out (by rfl) ?_)
  intro w4 X4 G4
  have Z4 := hide X4
  have L34 : Later w3 w4 := L3b.out.grown G4 (by simp) (fun k hk => by have := Option.some.inj hk; omega)
  have L23 : Later w2 w3 := L3.out
  have L24 : Later w2 w4 := Later.trans L23 L34
  have L12 : Later W1 w2 := L2.out
  have L4 : Hid (Later W1 w4) := Later.trans L12 L24
  have H4 := hide (H1.out.later L4.out)
  have CO := hide (ropen_any H4.out (by have := HNN.out; omega))
  rw [HON.out] at CO
  clear X4 G4 L34 L23 L24 L12
  go_wp2_with (fail)
  refine CO.out.mono ?_
  rintro e w5 ⟨rfl, hl5⟩
  have L45 : Hid (Later w4 w5) := hl5
  have L4a : Later W1 w4 := L4.out
  have L5 : Hid (Later W1 w5) := Later.trans L4a hl5
  have Z5 := hide (Z4.out.below hl5)
  clear hl5 CO L4a
  have CW := hide (ropen1_any s2 w5)
  rw [show (decide (s2.st = 1) || decide (s2.st = 2)) = true from by rw [← HS2.out]; exact HOO.out] at CW
  go_wp2_with (refine wpList_val rfl (by rfl) (exec_rload_saga _ (by rfl) (by rfl) Z5.out) ?_)
  refine CW.out.mono ?_
  rintro e w6 ⟨rfl, hl6⟩
  have L5a : Later W1 w5 := L5.out
  have L6 : Hid (Later W1 w6) := Later.trans L5a hl6
  clear hl6 CW L5a
  have HW : Hid (RBookAt F w6 g most t) := H1.out.later L6.out
  have XD : Hid (SBox 39 d s w6) := X1.out.below L6.out
  have CU := hide (ropen1_any s w6)
  rw [HOP.out] at CU
  go_wp2_with (refine wpList_val rfl (by rfl) (exec_rload_saga _ (by rfl) (by rfl) XD.out) ?_)
  refine CU.out.mono ?_
  rintro e w7 ⟨rfl, hl7⟩
  have L6a : Later W1 w6 := L6.out
  have L7 : Hid (Later W1 w7) := Later.trans L6a hl7
  have H7 := hide (H1.out.later L7.out)
  clear hl7 CU L6a
  have cc9 : w7.cell? ⟨g, 0, none⟩ = some (.int .i64 most) := by
    obtain ⟨_, _, _, hb9, _⟩ := H7.out.body
    exact cell_of_row w7 g 0 _ _ _ hb9
  have XY : Hid (SBox 39 d s w7) := X1.out.below L7.out
  have CP := hide (rput_any (x := ⟨id, s, l⟩) (p := s.p) (n9 := s.n) (c9 := s.c) H7.out (StepsAt.kept HS1.out (Kept.of_below L7.out _)) ⟨⟨HWF.out, HGS.out.1, HGS.out.2, HRG.out.1⟩, by show id ≤ _; have := HRG.out.2; omega⟩ (fun i hi => HF.out i (by have := Below.size L7.out; have := Below.size L1.out; omega)) HNN.out)
  change Hid (Calls Tryz.prog 36 #[.pointer (some ⟨g, 0, none⟩), .int .i64 id, s.val] w7 _) at CP
  go_wp2_with (refine wpList_val rfl (by rfl) (exec_rload_saga _ (by rfl) (by rfl) XY.out) ?_)
  refine CP.out.mono ?_
  rintro e w8 ⟨rfl, hb8, ht8⟩
  have H8 := hide hb8
  have T8 := hide ht8
  clear hb8 ht8 CP
  obtain ⟨A8, c8, f8, hb8, _, _⟩ := H8.out.body
  have d1 := cell_of_row w8 g 1 _ _ _ hb8
  have d2 := frozen_of_row w8 g 1 _ _ hb8
  simp only [List.getElem?_toArray, List.getElem?_cons_succ, List.getElem?_cons_zero] at d1
  obtain ⟨la, hla⟩ : ∃ la, t.last = la := ⟨_, rfl⟩
  have HLA := hide hla
  have hok := H8.out.ok.2.2
  simp only at hok
  rw [hla] at d1 hok
  have HOK8 := hide hok
  have La0 : Later w W1 := L1.out
  have La1 : Later w w7 := Later.trans La0 L7.out
  have Ta : Hid (Turned (fun i => i = g) w w8) := (Turned.of_below La1 _).trans T8.out
  clear hb8 La0 La1 hok hla
  by_cases hgt : la < id
  · have e1 : decide (la < id) = true := by simp; exact hgt
    have HGT := hide hgt
    clear hgt
    go_wp2_with (fail)
    go_ret
    exact ⟨rfl, by rw [show max t.last id = id from by have := HGT.out; have := HLA.out; omega]; exact H8.out.setLast id (by have := HRG.out; omega) (by have := HRG.out; omega), Ta.out.trans (turned_setCell _ _ _ _)⟩
  · have e1 : decide (la < id) = false := by simp; omega
    have HGT := hide hgt
    clear hgt
    go_wp2_with (fail)
    go_ret
    exact ⟨rfl, by rw [show max t.last id = t.last from by have := HGT.out; have := HLA.out; omega]; exact H8.out, Ta.out⟩
theorem othersN_same {y : Ent} {r : List Ent} {id : Int} (h : y.id = id) : othersN (y :: r) id = othersN r id := by
  unfold othersN
  rw [List.countP_cons_of_neg (by simp [h])]
theorem othersN_other {y : Ent} {r : List Ent} {id : Int} (h : y.id ≠ id) : othersN (y :: r) id = othersN r id + (if y.isOpen then 1 else 0) := by
  unfold othersN
  rw [List.countP_cons]
  simp [h]
theorem openN_cons (y : Ent) (r : List Ent) : openN (y :: r) = openN r + (if y.isOpen then 1 else 0) := by
  unfold openN
  rw [List.countP_cons]
theorem others_none : ∀ (L : List Ent) (id : Int), (∀ x ∈ L, x.id ≠ id) → openN L = othersN L id
  | [], _, _ => rfl
  | x :: r, id, h => by rw [openN_cons, othersN_other (h x (by simp)), others_none r id (fun y hy => h y (by simp [hy]))]
theorem others_some : ∀ (L : List Ent) (id : Int) (x : Ent), RiseE L → entAt L id = some x → openN L = othersN L id + (if x.isOpen then 1 else 0)
  | [], _, _, _, h => by cases h
  | y :: r, id, x, hr, h => by
    obtain ⟨h1, h2⟩ := List.pairwise_cons.1 hr
    unfold entAt at h
    by_cases hy : y.id = id
    · rw [List.find?_cons_of_pos (by simp [hy])] at h
      obtain rfl : y = x := Option.some.inj h
      rw [openN_cons, othersN_same hy, others_none r id (fun z hz => by have := h1 z hz; omega)]
    · rw [List.find?_cons_of_neg (by simp [hy])] at h
      rw [openN_cons, othersN_other hy, others_some r id x h2 h]
      omega
theorem rset_any {id : Int} {s : SagaD} {l : List StepD} (h : RBookAt F w g most t) (hn : t.L.length ≤ 900) (hs : StepsAt F w s.v l) (hw : ∀ x ∈ l, x.wf) (h1 : I64 s.step) (hF : ∀ i, w.heap.size ≤ i → F i) :
    Calls Tryz.prog 20 #[.pointer (some ⟨g, 0, none⟩), .int .i64 id, s.val] w (RSetV F g most (setE most t ⟨id, s, l⟩) (setS most t ⟨id, s, l⟩) w) := by
  unfold setS
  unfold setE
  by_cases hlo : id < 1
  · rw [if_pos (show (⟨id, s, l⟩ : Ent).id < 1 ∨ _ from .inl hlo), if_neg (by decide)]
    exact rset_lo h hn hs hw h1 hF hlo
  by_cases hhi : 1099511627776 < id
  · rw [if_pos (show (⟨id, s, l⟩ : Ent).id < 1 ∨ 1099511627776 < (⟨id, s, l⟩ : Ent).id ∨ _ from .inr (.inl hhi)), if_neg (by decide)]
    exact rset_hi h hn hs hw h1 hF (by omega) hhi
  cases hg : goodF l s with
  | false =>
    rw [if_pos (show (⟨id, s, l⟩ : Ent).id < 1 ∨ 1099511627776 < (⟨id, s, l⟩ : Ent).id ∨ false = false from .inr (.inr rfl)), if_neg (by decide)]
    exact rset_bad h hn hs hw h1 hF (by omega) (by omega) hg
  | true =>
    rw [if_neg (show ¬ ((⟨id, s, l⟩ : Ent).id < 1 ∨ 1099511627776 < (⟨id, s, l⟩ : Ent).id ∨ true = false) from fun e => by rcases e with e | e | e; exact hlo e; exact hhi e; cases e)]
    cases hx : entAt t.L id with
    | none =>
      have ha := atS_none hx
      have ho : openN t.L = othersN t.L id := others_none t.L id (entAt_none hx)
      have he : (none : Option Ent).isNone = true := rfl
      by_cases h32 : 32 ≤ t.L.length
      · rw [if_pos (.inl ⟨he, h32⟩), if_neg (by decide)]
        exact rset_many h hn hs hw h1 hF (by omega) (by omega) hg ha h32
      · cases hop : (decide (s.st = 1) || decide (s.st = 2)) with
        | false =>
          rw [if_neg (show ¬ (_ ∨ ((⟨id, s, l⟩ : Ent).isOpen = true ∧ _)) from fun e => e.elim (fun e => h32 e.2) (fun e => by have e1 : (decide (s.st = 1) || decide (s.st = 2)) = true := e.1; rw [hop] at e1; cases e1)), if_pos rfl]
          exact rset_off_n h hn hs hw h1 hF (by omega) (by omega) hg ha (by omega) hop
        | true =>
          by_cases hm : most ≤ (othersN t.L id : Int)
          · rw [if_pos (.inr ⟨hop, hm⟩), if_neg (by decide)]
            exact rset_full_n h hn hs hw h1 hF (by omega) (by omega) hg ha (by omega) hop (by omega)
          · rw [if_neg (fun e => e.elim (fun e => h32 e.2) (fun e => hm e.2)), if_pos rfl]
            exact rset_on_n h hn hs hw h1 hF (by omega) (by omega) hg ha (by omega) hop (by omega)
    | some x =>
      obtain ⟨ex, _, ha⟩ := atS_some hx
      have ho := others_some t.L id x h.ok.1 hx
      have he : ¬ (some x).isNone = true := by simp
      cases hoo : x.isOpen with
      | false =>
        have hoo2 : (decide ((atS t id).st = 1) || decide ((atS t id).st = 2)) = false := by rw [ex]; exact hoo
        rw [hoo, if_neg (by simp)] at ho
        cases hop : (decide (s.st = 1) || decide (s.st = 2)) with
        | false =>
          rw [if_neg (show ¬ (_ ∨ ((⟨id, s, l⟩ : Ent).isOpen = true ∧ _)) from fun e => e.elim (fun e => he e.1) (fun e => by have e1 : (decide (s.st = 1) || decide (s.st = 2)) = true := e.1; rw [hop] at e1; cases e1)), if_pos rfl]
          exact rset_off_c h hn hs hw h1 hF (by omega) (by omega) hg ha hoo2 hop
        | true =>
          by_cases hm : most ≤ (othersN t.L id : Int)
          · rw [if_pos (.inr ⟨hop, hm⟩), if_neg (by decide)]
            exact rset_full_c h hn hs hw h1 hF (by omega) (by omega) hg ha hoo2 hop (by omega)
          · rw [if_neg (fun e => e.elim (fun e => he e.1) (fun e => hm e.2)), if_pos rfl]
            exact rset_on_c h hn hs hw h1 hF (by omega) (by omega) hg ha hoo2 hop (by omega)
      | true =>
        have hoo2 : (decide ((atS t id).st = 1) || decide ((atS t id).st = 2)) = true := by rw [ex]; exact hoo
        rw [hoo, if_pos rfl] at ho
        cases hop : (decide (s.st = 1) || decide (s.st = 2)) with
        | false =>
          rw [if_neg (show ¬ (_ ∨ ((⟨id, s, l⟩ : Ent).isOpen = true ∧ _)) from fun e => e.elim (fun e => he e.1) (fun e => by have e1 : (decide (s.st = 1) || decide (s.st = 2)) = true := e.1; rw [hop] at e1; cases e1)), if_pos rfl]
          exact rset_off_o h hn hs hw h1 hF (by omega) (by omega) hg ha hoo2 hop
        | true =>
          by_cases hm : most ≤ (othersN t.L id : Int)
          · rw [if_pos (.inr ⟨hop, hm⟩), if_neg (by decide)]
            exact rset_full_o h hn hs hw h1 hF (by omega) (by omega) hg ha hoo2 hop (by omega)
          · rw [if_neg (fun e => e.elim (fun e => he e.1) (fun e => hm e.2)), if_pos rfl]
            exact rset_on_o h hn hs hw h1 hF (by omega) (by omega) hg ha hoo2 hop (by omega)
end
end Go.Proofs.YtpckdhjnhnonhaaGreat
/- From what a row says of steps and definitions that came in to what the walks are told of them. -/
namespace Go.Proofs.YtpckdhjnhnonhaaGreat
open Go.RowKit

def Sm {H : Type} (t : TypeId) (d : DataW H) : Prop := ∀ n ∈ d.weights Tryz.prog t, n ≤ reachBytes
theorem weights_mem_all {H : Type} {P : Program} {e : TypeId} {d : DataW H} : ∀ {l : List (DataW H)}, d ∈ l → ∀ n ∈ d.weights P e, n ∈ DataW.weightsAll P e l
  | [], h, _, _ => by cases h
  | y :: r, h, n, hn => by
    simp only [DataW.weightsAll, List.mem_append]
    rcases List.mem_cons.1 h with rfl | h
    · exact .inl hn
    · exact .inr (weights_mem_all h n hn)

section
variable {H : Type} {enc : TypeId × Value → H} {W : World}
abbrev Rdg (enc : TypeId × Value → H) (W : World) (n : Nat) (t : TypeId) (cs : List Value) (x : DataW H × List MemPlace) : Prop := DataW.trod enc Tryz.prog W 0 (fun _ => true) true n t cs = some x

theorem open_fields {t : TypeId} {fs : Array Field} {n : Nat} {cs : List Value} {x : DataW H × List MemPlace} (ht : Tryz.prog.underlying t = some (.struct fs)) (h : Rdg enc W n t cs x) (hs : Sm t x.1) :
    ∃ m, cs.length = Tryz.prog.cellsOf t ∧ ∀ (i : Nat) (f : Field), fs[i]? = some f → ∃ y, Rdg enc W m f.type ((cs.drop f.offset).take (Tryz.prog.cellsOf f.type)) y ∧ Sm f.type y.1 := by
  obtain ⟨xs, m, _, hx, hl, hxl, hf⟩ := DataW.trod_struct ht h
  refine ⟨m, hl, fun i f hi => ?_⟩
  have hil : i < xs.length := by rw [hxl]; exact (Array.getElem?_eq_some_iff.1 hi).1
  refine ⟨xs[i], (hf i f hi).trans (List.getElem?_eq_getElem hil), fun k hk => hs k ?_⟩
  rw [hx]
  simp only [DataW.weights, ht]
  exact DataW.weights_mem_each (j := i) (t := f.type) (d := xs[i].1) (by simp [hi]) (by simp [hil]) k hk
theorem open_int1 {t : TypeId} {n : Nat} {c : Value} {x : DataW H × List MemPlace} (ht : Tryz.prog.underlying t = some (.int .i64)) (h : Rdg enc W n t [c] x) : ∃ a : Int, c = .int .i64 a ∧ I64 a := by
  obtain ⟨a, h0, _, w0⟩ := DataW.trod_int ht h
  have b0 := bounds_i64 w0
  simp only [List.cons.injEq, and_true] at h0
  exact ⟨a, h0, by unfold I64; omega⟩
theorem open_bool1 {t : TypeId} {n : Nat} {c : Value} {x : DataW H × List MemPlace} (ht : Tryz.prog.underlying t = some .bool) (h : Rdg enc W n t [c] x) : ∃ a : Bool, c = .bool a := by
  obtain ⟨a, h0, _⟩ := DataW.trod_bool ht h
  simp only [List.cons.injEq, and_true] at h0
  exact ⟨a, h0⟩
theorem open_str1 {t : TypeId} {n : Nat} {c : Value} {x : DataW H × List MemPlace} (ht : Tryz.prog.underlying t = some .string) (h : Rdg enc W n t [c] x) (hs : Sm t x.1) : ∃ s : ByteArray, c = .string s ∧ s.size ≤ 140737488355328 := by
  obtain ⟨s, h0, h1, _⟩ := DataW.trod_string ht h
  simp only [List.cons.injEq, and_true] at h0
  refine ⟨s, h0, ?_⟩
  have := hs s.data.toList.length (by rw [h1]; simp [DataW.weights])
  unfold reachBytes at this
  rw [Array.length_toList] at this
  show s.data.size ≤ _
  omega

theorem open_elems {α : Type} [Inhabited α] (cells : α → List Value) (good : α → Prop) {t e : TypeId} (k : Nat) (hk : 0 < k) (hck : ∀ y, (cells y).length = k) (ht : Tryz.prog.underlying t = some (.slice e)) (hc : Tryz.prog.cellsOf e = k)
    (hel : ∀ (n : Nat) (cs : List Value) (x : DataW H × List MemPlace), Rdg enc W n e cs x → Sm e x.1 → ∃ y : α, cs = cells y ∧ good y) (hone : ∀ y, good y → ∀ u ∈ cells y, u.oneCell' = true)
    {n : Nat} {v : Value} {x : DataW H × List MemPlace} (h : Rdg enc W n t [v] x) (hs : Sm t x.1) :
    ∃ ys : List α, FlatAt (· < W.heap.size) W k v ys.length (ys.flatMap cells) ∧ ∀ y ∈ ys, good y := by
  rcases Go.Deep.open_slice ht h with ⟨hcs, _⟩ | ⟨a, l, c, m, n', D, Pl, hcs, _, hl, hm, hmm, hx, hi⟩
  · obtain rfl : v = .slice none 0 0 := by simpa using hcs
    exact ⟨[], FlatAt.nil_ _ _ _, by simp⟩
  · obtain rfl : v = .slice (some a) l c := by simpa using hcs
    simp only [if_true] at hmm
    rw [hc] at hi
    obtain ⟨F, hF⟩ := Go.Deep.choose_lt (p := fun i (y : α) => (∀ j u, (cells y)[j]? = some u → W.cell? (a.add (i * k + j)) = some u) ∧ good y) fun i (hil : i < l) => by
      obtain ⟨cs', h1, h2⟩ := hi i (by omega)
      have hsm : Sm e (D i) := fun q hq => hs q (by
        rw [hx]
        simp only [DataW.weights, ht]
        exact List.mem_cons_of_mem _ (List.mem_append_left _ (weights_mem_all (List.mem_map.2 ⟨i, List.mem_range.2 hil, rfl⟩) q hq)))
      obtain ⟨y, hy, hg⟩ := hel n' cs' (D i, Pl i) h2 hsm
      obtain ⟨_, hlen, hat⟩ := World.cells?_some h1
      refine ⟨y, fun j u hu => ?_, hg⟩
      have hj : j < k := by rw [← hck y]; exact (List.getElem?_eq_some_iff.1 hu).1
      rw [← Go.Deep.add_add, hat j hj, hy, hu]
    refine ⟨(List.range l).map F, ⟨?_, ?_, some a, c, by simp, by simpa using hl, hm, (fun e => by cases e), fun hn => ?_⟩, fun y hy => ?_⟩
    · exact flat_len cells k _ (fun y _ => hck y)
    · intro u hu
      obtain ⟨y, hy, hu⟩ := List.mem_flatMap.1 hu
      obtain ⟨i, hi, rfl⟩ := List.mem_map.1 hy
      exact hone _ (hF i (List.mem_range.1 hi)).2 u hu
    · have hn' : 0 < l := by simpa using hn
      obtain ⟨b, off, spot⟩ := a
      have hk0 : (cells (F 0))[0]? = some ((cells (F 0))[0]'(by rw [hck]; exact hk)) := List.getElem?_eq_getElem (by rw [hck]; exact hk)
      have h0 := (hF 0 hn').1 0 _ hk0
      have hspot : spot = none := by simpa [Addr.add] using World.cell?_spot h0
      subst hspot
      have hblt : b < W.heap.size := World.block_lt_of_cell? W _ (by simpa [Addr.add] using h0)
      refine ⟨b, off, rfl, hblt, hblt, fun j u hj => ?_⟩
      have hjl : j < l * k := by
        have := (List.getElem?_eq_some_iff.1 hj).1
        rw [flat_len cells k _ (fun y _ => hck y)] at this
        simpa using this
      have hq : j / k < l := Nat.div_lt_of_lt_mul (by rwa [Nat.mul_comm])
      have hr : j % k < k := Nat.mod_lt _ hk
      have hj2 : j = j / k * k + j % k := by rw [Nat.mul_comm]; exact (Nat.div_add_mod j k).symm
      have hge := flat_get cells k ((List.range l).map F) (j / k) (F (j / k)) (fun y _ => hck y) (by simp [hq])
      have hu : (cells (F (j / k)))[j % k]? = some u := by
        rw [← hge, List.getElem?_take_of_lt hr, List.getElem?_drop, ← hj2, hj]
      have := (hF (j / k) hq).1 (j % k) u hu
      rwa [Addr.add_lit, ← hj2] at this
    · obtain ⟨i, hi, rfl⟩ := List.mem_map.1 hy
      exact (hF i (List.mem_range.1 hi)).2
end

instance : Inhabited StepD := ⟨⟨⟨#[]⟩, 0, 0, 0, false, false⟩⟩
instance : Inhabited (OpD × Value) := ⟨⟨.zero, .slice none 0 0⟩⟩
section
variable {H : Type} {enc : TypeId × Value → H} {W : World}
set_option maxRecDepth 100000

theorem open_step {n : Nat} {cs : List Value} {x : DataW H × List MemPlace} (h : Rdg enc W n 67 cs x) (hs : Sm 67 x.1) :
    ∃ s : StepD, cs = s.cells ∧ s.wf := by
  obtain ⟨m, hl, hf⟩ := open_fields Tryz.underlying67 h hs
  have hl : cs.length = 6 := hl
  match cs, hl with
  | [c0, c1, c2, c3, c4, c5], _ =>
    obtain ⟨y0, g0, s0⟩ := hf 0 _ rfl
    have g0 : Rdg enc W m 9 [c0] y0 := (congrArg (fun q => DataW.trod enc Tryz.prog W 0 (fun _ => true) true m 9 q) (show ([c0, c1, c2, c3, c4, c5].drop 0).take (Tryz.prog.cellsOf 9) = [c0] from by rw [show Tryz.prog.cellsOf 9 = 1 from by kernel_rfl]; rfl)).symm.trans g0
    obtain ⟨a0, e0, w0⟩ := open_str1 Tryz.underlying9 g0 s0
    obtain ⟨y1, g1, s1⟩ := hf 1 _ rfl
    have g1 : Rdg enc W m 3 [c1] y1 := (congrArg (fun q => DataW.trod enc Tryz.prog W 0 (fun _ => true) true m 3 q) (show ([c0, c1, c2, c3, c4, c5].drop 1).take (Tryz.prog.cellsOf 3) = [c1] from by rw [show Tryz.prog.cellsOf 3 = 1 from by kernel_rfl]; rfl)).symm.trans g1
    obtain ⟨a1, e1, w1⟩ := open_int1 Tryz.underlying3 g1
    obtain ⟨y2, g2, s2⟩ := hf 2 _ rfl
    have g2 : Rdg enc W m 3 [c2] y2 := (congrArg (fun q => DataW.trod enc Tryz.prog W 0 (fun _ => true) true m 3 q) (show ([c0, c1, c2, c3, c4, c5].drop 2).take (Tryz.prog.cellsOf 3) = [c2] from by rw [show Tryz.prog.cellsOf 3 = 1 from by kernel_rfl]; rfl)).symm.trans g2
    obtain ⟨a2, e2, w2⟩ := open_int1 Tryz.underlying3 g2
    obtain ⟨y3, g3, s3⟩ := hf 3 _ rfl
    have g3 : Rdg enc W m 3 [c3] y3 := (congrArg (fun q => DataW.trod enc Tryz.prog W 0 (fun _ => true) true m 3 q) (show ([c0, c1, c2, c3, c4, c5].drop 3).take (Tryz.prog.cellsOf 3) = [c3] from by rw [show Tryz.prog.cellsOf 3 = 1 from by kernel_rfl]; rfl)).symm.trans g3
    obtain ⟨a3, e3, w3⟩ := open_int1 Tryz.underlying3 g3
    obtain ⟨y4, g4, s4⟩ := hf 4 _ rfl
    have g4 : Rdg enc W m 4 [c4] y4 := (congrArg (fun q => DataW.trod enc Tryz.prog W 0 (fun _ => true) true m 4 q) (show ([c0, c1, c2, c3, c4, c5].drop 4).take (Tryz.prog.cellsOf 4) = [c4] from by rw [show Tryz.prog.cellsOf 4 = 1 from by kernel_rfl]; rfl)).symm.trans g4
    obtain ⟨a4, e4⟩ := open_bool1 Tryz.underlying4 g4
    obtain ⟨y5, g5, s5⟩ := hf 5 _ rfl
    have g5 : Rdg enc W m 4 [c5] y5 := (congrArg (fun q => DataW.trod enc Tryz.prog W 0 (fun _ => true) true m 4 q) (show ([c0, c1, c2, c3, c4, c5].drop 5).take (Tryz.prog.cellsOf 4) = [c5] from by rw [show Tryz.prog.cellsOf 4 = 1 from by kernel_rfl]; rfl)).symm.trans g5
    obtain ⟨a5, e5⟩ := open_bool1 Tryz.underlying4 g5
    subst e0 e1 e2 e3 e4 e5
    exact ⟨⟨a0, a1, a2, a3, a4, a5⟩, rfl, w0, w1, w2, w3⟩

theorem open_steps {n : Nat} {v : Value} {x : DataW H × List MemPlace} (h : Rdg enc W n 29 [v] x) (hs : Sm 29 x.1) : ∃ l, StepsAt (· < W.heap.size) W v l ∧ ∀ s ∈ l, s.wf := by
  obtain ⟨ys, h1, h2⟩ := open_elems StepD.cells StepD.wf 6 (by decide) StepD.len Tryz.underlying29 (by kernel_rfl) (fun n cs x h hs => open_step h hs) (fun y _ => y.one) h hs
  exact ⟨ys, h1, h2⟩

theorem open_def {n : Nat} {cs : List Value} {x : DataW H × List MemPlace} (h : Rdg enc W n 31 cs x) (hs : Sm 31 x.1) :
    ∃ (nm : ByteArray) (v : Value) (l : List StepD), cs = [.string nm, v] ∧ nm.size ≤ 140737488355328 ∧ StepsAt (· < W.heap.size) W v l ∧ ∀ s ∈ l, s.wf := by
  obtain ⟨m, hl, hf⟩ := open_fields Tryz.underlying31 h hs
  have hl : cs.length = 2 := hl
  match cs, hl with
  | [c0, c1], _ =>
    obtain ⟨y0, g0, s0⟩ := hf 0 _ rfl
    have g0 : Rdg enc W m 9 [c0] y0 := (congrArg (fun q => DataW.trod enc Tryz.prog W 0 (fun _ => true) true m 9 q) (show ([c0, c1].drop 0).take (Tryz.prog.cellsOf 9) = [c0] from by rw [show Tryz.prog.cellsOf 9 = 1 from by kernel_rfl]; rfl)).symm.trans g0
    obtain ⟨a0, e0, w0⟩ := open_str1 Tryz.underlying9 g0 s0
    obtain ⟨y1, g1, s1⟩ := hf 1 _ rfl
    have g1 : Rdg enc W m 29 [c1] y1 := (congrArg (fun q => DataW.trod enc Tryz.prog W 0 (fun _ => true) true m 29 q) (show ([c0, c1].drop 1).take (Tryz.prog.cellsOf 29) = [c1] from by rw [show Tryz.prog.cellsOf 29 = 1 from by kernel_rfl]; rfl)).symm.trans g1
    obtain ⟨l, hl1, hl2⟩ := open_steps g1 s1
    subst e0
    exact ⟨a0, _, l, rfl, w0, hl1, hl2⟩
theorem sm_of {ts : List TypeId} {ds : List (DataW H)} (hsz : (DataW.weightsEach Tryz.prog ts ds).all (· ≤ reachBytes) = true) {j : Nat} {t : TypeId} {d : DataW H} (ht : ts[j]? = some t) (hd : ds[j]? = some d) : Sm t d := fun n hn => by
  have := List.all_eq_true.1 hsz n (DataW.weights_mem_each ht hd n hn)
  simpa using this
end
end Go.Proofs.YtpckdhjnhnonhaaGreat
/- From what a row says of numbers and events that came in to what the walks are told of them. -/
namespace Go.Proofs.YtpckdhjnhnonhaaGreat
open Go.RowKit
def EvD.wf (e : EvD) : Prop := I64 e.kind ∧ I64 e.step ∧ I64 e.tr
theorem EvD.len (e : EvD) : e.cells.length = 5 := rfl
theorem EvD.one (e : EvD) : ∀ u ∈ e.cells, u.oneCell' = true := by
  intro u hu
  simp only [EvD.cells, List.mem_cons, List.not_mem_nil, or_false] at hu
  rcases hu with rfl | rfl | rfl | rfl | rfl <;> rfl
instance : Inhabited EvD := ⟨⟨0, 0, 0, false, false⟩⟩
def EvsAt (F : Nat → Prop) (w : World) (v : Value) (l : List EvD) : Prop := FlatAt F w 5 v l.length (l.flatMap EvD.cells)
theorem EvsAt.kept {F : Nat → Prop} {w w' : World} {v : Value} {l : List EvD} (h : EvsAt F w v l) (hk : Kept F w w') : EvsAt F w' v l := FlatAt.kept h hk
section
variable {H : Type} {enc : TypeId × Value → H} {W : World}
end
end Go.Proofs.YtpckdhjnhnonhaaGreat
/- From what a row says of a saga that came in to what the walks are told of it. -/
namespace Go.Proofs.YtpckdhjnhnonhaaGreat
open Go.RowKit
section
variable {H : Type} {enc : TypeId × Value → H} {W : World}
set_option maxRecDepth 100000
theorem open_hits {n : Nat} {c0 c1 c2 c3 c4 c5 c6 c7 : Value} {x : DataW H × List MemPlace} (h : Rdg enc W n 34 [c0, c1, c2, c3, c4, c5, c6, c7] x) : ∃ y : Hits, [c0, c1, c2, c3, c4, c5, c6, c7] = y.cells := by
  obtain ⟨xs, m, _, _, _, hxs, hf⟩ := DataW.trod_array Tryz.underlying34 h
  have he : Tryz.prog.cellsOf 4 = 1 := by kernel_rfl
  have el : ∀ (i : Nat) (c : Value), i < 8 → ([c0, c1, c2, c3, c4, c5, c6, c7].drop i).take 1 = [c] → ∃ b : Bool, c = .bool b := fun i c hi hc => by
    have h1 := hf i hi
    rw [he, Nat.mul_one, hc, List.getElem?_eq_getElem (by omega)] at h1
    exact open_bool1 Tryz.underlying4 h1
  obtain ⟨b0, rfl⟩ := el 0 c0 (by decide) rfl
  obtain ⟨b1, rfl⟩ := el 1 c1 (by decide) rfl
  obtain ⟨b2, rfl⟩ := el 2 c2 (by decide) rfl
  obtain ⟨b3, rfl⟩ := el 3 c3 (by decide) rfl
  obtain ⟨b4, rfl⟩ := el 4 c4 (by decide) rfl
  obtain ⟨b5, rfl⟩ := el 5 c5 (by decide) rfl
  obtain ⟨b6, rfl⟩ := el 6 c6 (by decide) rfl
  obtain ⟨b7, rfl⟩ := el 7 c7 (by decide) rfl
  exact ⟨⟨b0, b1, b2, b3, b4, b5, b6, b7⟩, rfl⟩
def SagaIn (W : World) (s : SagaD) (l : List StepD) : Prop := StepsAt (· < W.heap.size) W s.v l ∧ (∀ a ∈ l, a.wf) ∧ I64 s.step
theorem open_saga {n : Nat} {cs : List Value} {x : DataW H × List MemPlace} (h : Rdg enc W n 36 cs x) (hs : Sm 36 x.1) : ∃ (s : SagaD) (l : List StepD), cs = s.cells ∧ SagaIn W s l := by
  obtain ⟨m, hl, hf⟩ := open_fields Tryz.underlying36 h hs
  have hl : cs.length = 13 := hl
  match cs, hl with
  | [c0, c1, c2, c3, c4, c5, c6, c7, c8, c9, c10, c11, c12], _ =>
    obtain ⟨y0, g0, s0⟩ := hf 0 _ rfl
    have g0 : Rdg enc W m 31 [c0, c1] y0 := (congrArg (fun q => DataW.trod enc Tryz.prog W 0 (fun _ => true) true m 31 q) (show ([c0, c1, c2, c3, c4, c5, c6, c7, c8, c9, c10, c11, c12].drop 0).take (Tryz.prog.cellsOf 31) = [c0, c1] from by rw [show Tryz.prog.cellsOf 31 = 2 from by kernel_rfl]; rfl)).symm.trans g0
    obtain ⟨y1, g1, s1⟩ := hf 1 _ rfl
    have g1 : Rdg enc W m 3 [c2] y1 := (congrArg (fun q => DataW.trod enc Tryz.prog W 0 (fun _ => true) true m 3 q) (show ([c0, c1, c2, c3, c4, c5, c6, c7, c8, c9, c10, c11, c12].drop 2).take (Tryz.prog.cellsOf 3) = [c2] from by rw [show Tryz.prog.cellsOf 3 = 1 from by kernel_rfl]; rfl)).symm.trans g1
    obtain ⟨y2, g2, s2⟩ := hf 2 _ rfl
    have g2 : Rdg enc W m 3 [c3] y2 := (congrArg (fun q => DataW.trod enc Tryz.prog W 0 (fun _ => true) true m 3 q) (show ([c0, c1, c2, c3, c4, c5, c6, c7, c8, c9, c10, c11, c12].drop 3).take (Tryz.prog.cellsOf 3) = [c3] from by rw [show Tryz.prog.cellsOf 3 = 1 from by kernel_rfl]; rfl)).symm.trans g2
    obtain ⟨y3, g3, s3⟩ := hf 3 _ rfl
    have g3 : Rdg enc W m 3 [c4] y3 := (congrArg (fun q => DataW.trod enc Tryz.prog W 0 (fun _ => true) true m 3 q) (show ([c0, c1, c2, c3, c4, c5, c6, c7, c8, c9, c10, c11, c12].drop 4).take (Tryz.prog.cellsOf 3) = [c4] from by rw [show Tryz.prog.cellsOf 3 = 1 from by kernel_rfl]; rfl)).symm.trans g3
    obtain ⟨y4, g4, s4⟩ := hf 4 _ rfl
    have g4 : Rdg enc W m 34 [c5, c6, c7, c8, c9, c10, c11, c12] y4 := (congrArg (fun q => DataW.trod enc Tryz.prog W 0 (fun _ => true) true m 34 q) (show ([c0, c1, c2, c3, c4, c5, c6, c7, c8, c9, c10, c11, c12].drop 5).take (Tryz.prog.cellsOf 34) = [c5, c6, c7, c8, c9, c10, c11, c12] from by rw [show Tryz.prog.cellsOf 34 = 8 from by kernel_rfl]; rfl)).symm.trans g4
    obtain ⟨nm, v, l, e0, _, h2, h3⟩ := open_def g0 s0
    obtain ⟨a1, e1, _⟩ := open_int1 Tryz.underlying3 g1
    obtain ⟨a2, e2, w2⟩ := open_int1 Tryz.underlying3 g2
    obtain ⟨a3, e3, _⟩ := open_int1 Tryz.underlying3 g3
    obtain ⟨y, e4⟩ := open_hits g4
    obtain ⟨A, c, rfl, _, _, _⟩ := FlatAt.shape h2
    subst e1 e2 e3
    simp only [List.cons.injEq, and_true] at e0
    obtain ⟨rfl, rfl⟩ := e0
    simp only [Hits.cells, List.cons.injEq, and_true] at e4
    obtain ⟨rfl, rfl, rfl, rfl, rfl, rfl, rfl, rfl⟩ := e4
    exact ⟨⟨nm, A, l.length, c, a1, a2, a3, y⟩, l, rfl, h2, h3, w2⟩
end
end Go.Proofs.YtpckdhjnhnonhaaGreat
/- From what a row says of operations, and of sagas to be set, that came in to what the walks are told of them. -/
namespace Go.Proofs.YtpckdhjnhnonhaaGreat
open Go.ChangeShapes Go.WideShapes Go.ChangeAt Go.RowKit
instance : Inhabited (OpD × Value) := ⟨(OpD.zero, .slice none 0 0)⟩
section
variable {H : Type} {enc : TypeId × Value → H} {W : World}
set_option maxRecDepth 100000
theorem open_op {n : Nat} {cs : List Value} {x : DataW H × List MemPlace} (h : Rdg enc W n 33 cs x) (hs : Sm 33 x.1) :
    ∃ p : OpD × Value, cs = p.1.cells p.2 ∧ StepsAt (· < W.heap.size) W p.2 p.1.steps ∧ p.1.wf := by
  obtain ⟨m, hl, hf⟩ := open_fields Tryz.underlying33 h hs
  have hl : cs.length = 10 := hl
  match cs, hl with
  | [c0, c1, c2, c3, c4, c5, c6, c7, c8, c9], _ =>
    obtain ⟨y0, g0, s0⟩ := hf 0 _ rfl
    have g0 : Rdg enc W m 3 [c0] y0 := (congrArg (fun q => DataW.trod enc Tryz.prog W 0 (fun _ => true) true m 3 q) (show ([c0, c1, c2, c3, c4, c5, c6, c7, c8, c9].drop 0).take (Tryz.prog.cellsOf 3) = [c0] from by rw [show Tryz.prog.cellsOf 3 = 1 from by kernel_rfl]; rfl)).symm.trans g0
    obtain ⟨a0, e0, w0⟩ := open_int1 Tryz.underlying3 g0
    obtain ⟨y1, g1, s1⟩ := hf 1 _ rfl
    have g1 : Rdg enc W m 3 [c1] y1 := (congrArg (fun q => DataW.trod enc Tryz.prog W 0 (fun _ => true) true m 3 q) (show ([c0, c1, c2, c3, c4, c5, c6, c7, c8, c9].drop 1).take (Tryz.prog.cellsOf 3) = [c1] from by rw [show Tryz.prog.cellsOf 3 = 1 from by kernel_rfl]; rfl)).symm.trans g1
    obtain ⟨a1, e1, w1⟩ := open_int1 Tryz.underlying3 g1
    obtain ⟨y2, g2, s2⟩ := hf 2 _ rfl
    have g2 : Rdg enc W m 3 [c2] y2 := (congrArg (fun q => DataW.trod enc Tryz.prog W 0 (fun _ => true) true m 3 q) (show ([c0, c1, c2, c3, c4, c5, c6, c7, c8, c9].drop 2).take (Tryz.prog.cellsOf 3) = [c2] from by rw [show Tryz.prog.cellsOf 3 = 1 from by kernel_rfl]; rfl)).symm.trans g2
    obtain ⟨a2, e2, w2⟩ := open_int1 Tryz.underlying3 g2
    obtain ⟨y3, g3, s3⟩ := hf 3 _ rfl
    have g3 : Rdg enc W m 31 [c3, c4] y3 := (congrArg (fun q => DataW.trod enc Tryz.prog W 0 (fun _ => true) true m 31 q) (show ([c0, c1, c2, c3, c4, c5, c6, c7, c8, c9].drop 3).take (Tryz.prog.cellsOf 31) = [c3, c4] from by rw [show Tryz.prog.cellsOf 31 = 2 from by kernel_rfl]; rfl)).symm.trans g3
    obtain ⟨nm, v, l, f3, w3, st, wst⟩ := open_def g3 s3
    obtain ⟨y4, g4, s4⟩ := hf 4 _ rfl
    have g4 : Rdg enc W m 3 [c5] y4 := (congrArg (fun q => DataW.trod enc Tryz.prog W 0 (fun _ => true) true m 3 q) (show ([c0, c1, c2, c3, c4, c5, c6, c7, c8, c9].drop 5).take (Tryz.prog.cellsOf 3) = [c5] from by rw [show Tryz.prog.cellsOf 3 = 1 from by kernel_rfl]; rfl)).symm.trans g4
    obtain ⟨a4, e4, w4⟩ := open_int1 Tryz.underlying3 g4
    obtain ⟨y5, g5, s5⟩ := hf 5 _ rfl
    have g5 : Rdg enc W m 3 [c6] y5 := (congrArg (fun q => DataW.trod enc Tryz.prog W 0 (fun _ => true) true m 3 q) (show ([c0, c1, c2, c3, c4, c5, c6, c7, c8, c9].drop 6).take (Tryz.prog.cellsOf 3) = [c6] from by rw [show Tryz.prog.cellsOf 3 = 1 from by kernel_rfl]; rfl)).symm.trans g5
    obtain ⟨a5, e5, w5⟩ := open_int1 Tryz.underlying3 g5
    obtain ⟨y6, g6, s6⟩ := hf 6 _ rfl
    have g6 : Rdg enc W m 3 [c7] y6 := (congrArg (fun q => DataW.trod enc Tryz.prog W 0 (fun _ => true) true m 3 q) (show ([c0, c1, c2, c3, c4, c5, c6, c7, c8, c9].drop 7).take (Tryz.prog.cellsOf 3) = [c7] from by rw [show Tryz.prog.cellsOf 3 = 1 from by kernel_rfl]; rfl)).symm.trans g6
    obtain ⟨a6, e6, w6⟩ := open_int1 Tryz.underlying3 g6
    obtain ⟨y7, g7, s7⟩ := hf 7 _ rfl
    have g7 : Rdg enc W m 4 [c8] y7 := (congrArg (fun q => DataW.trod enc Tryz.prog W 0 (fun _ => true) true m 4 q) (show ([c0, c1, c2, c3, c4, c5, c6, c7, c8, c9].drop 8).take (Tryz.prog.cellsOf 4) = [c8] from by rw [show Tryz.prog.cellsOf 4 = 1 from by kernel_rfl]; rfl)).symm.trans g7
    obtain ⟨a7, e7⟩ := open_bool1 Tryz.underlying4 g7
    obtain ⟨y8, g8, s8⟩ := hf 8 _ rfl
    have g8 : Rdg enc W m 4 [c9] y8 := (congrArg (fun q => DataW.trod enc Tryz.prog W 0 (fun _ => true) true m 4 q) (show ([c0, c1, c2, c3, c4, c5, c6, c7, c8, c9].drop 9).take (Tryz.prog.cellsOf 4) = [c9] from by rw [show Tryz.prog.cellsOf 4 = 1 from by kernel_rfl]; rfl)).symm.trans g8
    obtain ⟨a8, e8⟩ := open_bool1 Tryz.underlying4 g8
    subst e0 e1 e2 e4 e5 e6 e7 e8
    simp only [List.cons.injEq, and_true] at f3
    obtain ⟨rfl, rfl⟩ := f3
    exact ⟨(⟨a0, a1, a2, nm, l, a4, a5, a6, a7, a8⟩, _), rfl, st, w0, w1, w2, w3, wst, w4, w5, w6⟩

theorem open_ops {n : Nat} {v : Value} {x : DataW H × List MemPlace} (h : Rdg enc W n 22 [v] x) (hs : Sm 22 x.1) : ∃ l, OpsAt (· < W.heap.size) W v l ∧ ∀ o ∈ l, o.wf := by
  obtain ⟨ys, h1, h2⟩ := open_elems (fun p : OpD × Value => p.1.cells p.2) (fun p => StepsAt (· < W.heap.size) W p.2 p.1.steps ∧ p.1.wf) 10 (by decide) (fun p => p.1.len p.2) Tryz.underlying22 (by kernel_rfl) (fun n cs x h hs => open_op h hs) (fun y hy => y.1.one (FlatAt.oneCell hy.1)) h hs
  refine ⟨ys.map (·.1), ⟨ys, rfl, h1, fun p hp => (h2 p hp).1⟩, fun o ho => ?_⟩
  obtain ⟨p, hp, rfl⟩ := List.mem_map.1 ho
  exact (h2 p hp).2
theorem arg_ops {A : Option Addr} {len cap : Nat} {d : DataW H} {p : List MemPlace} (h : DataW.Trod enc Tryz.prog W 0 (fun _ => true) true 22 (.slice A len cap) d p) (hs : Sm 22 d) : ∃ l : List OpD, OpsAt (· < W.heap.size) W (.slice A len cap) l ∧ ∀ o ∈ l, o.wf := by
  obtain ⟨fuel, hf⟩ := h
  exact open_ops (n := fuel) (x := (d, p)) hf hs
end
end Go.Proofs.YtpckdhjnhnonhaaGreat
/- From what a row says of sagas to be set that came in to what the walks are told of them. -/
namespace Go.Proofs.YtpckdhjnhnonhaaGreat
open Go.ChangeShapes Go.WideShapes Go.ChangeAt Go.RowKit
abbrev PutD : Type := Int × SagaD × List StepD
def putC (p : PutD) : List Value := .int .i64 p.1 :: p.2.1.cells
theorem putC_one (p : PutD) : ∀ u ∈ putC p, u.oneCell' = true := by
  intro u hu
  rcases List.mem_cons.1 hu with rfl | hu
  · rfl
  · exact p.2.1.one u hu
def PutsAt (F : Nat → Prop) (w : World) (v : Value) (L : List PutD) : Prop := FlatAt F w 14 v L.length (L.flatMap putC) ∧ ∀ p ∈ L, StepsAt F w p.2.1.v p.2.2
def PutWf (p : PutD) : Prop := I64 p.1 ∧ (∀ a ∈ p.2.2, a.wf) ∧ I64 p.2.1.step
instance : Inhabited PutD := ⟨(0, SagaD.zero, [])⟩
section
variable {H : Type} {enc : TypeId × Value → H} {W : World}
set_option maxRecDepth 100000
theorem open_put {n : Nat} {cs : List Value} {x : DataW H × List MemPlace} (h : Rdg enc W n 52 cs x) (hs : Sm 52 x.1) : ∃ p : PutD, cs = putC p ∧ StepsAt (· < W.heap.size) W p.2.1.v p.2.2 ∧ PutWf p := by
  obtain ⟨m, hl, hf⟩ := open_fields Tryz.underlying52 h hs
  have hl : cs.length = 14 := hl
  match cs, hl with
  | [c0, c1, c2, c3, c4, c5, c6, c7, c8, c9, c10, c11, c12, c13], _ =>
    obtain ⟨y0, g0, s0⟩ := hf 0 _ rfl
    have g0 : Rdg enc W m 3 [c0] y0 := (congrArg (fun q => DataW.trod enc Tryz.prog W 0 (fun _ => true) true m 3 q) (show ([c0, c1, c2, c3, c4, c5, c6, c7, c8, c9, c10, c11, c12, c13].drop 0).take (Tryz.prog.cellsOf 3) = [c0] from by rw [show Tryz.prog.cellsOf 3 = 1 from by kernel_rfl]; rfl)).symm.trans g0
    obtain ⟨y1, g1, s1⟩ := hf 1 _ rfl
    have g1 : Rdg enc W m 36 [c1, c2, c3, c4, c5, c6, c7, c8, c9, c10, c11, c12, c13] y1 := (congrArg (fun q => DataW.trod enc Tryz.prog W 0 (fun _ => true) true m 36 q) (show ([c0, c1, c2, c3, c4, c5, c6, c7, c8, c9, c10, c11, c12, c13].drop 1).take (Tryz.prog.cellsOf 36) = [c1, c2, c3, c4, c5, c6, c7, c8, c9, c10, c11, c12, c13] from by rw [show Tryz.prog.cellsOf 36 = 13 from by kernel_rfl]; rfl)).symm.trans g1
    obtain ⟨a0, e0, w0⟩ := open_int1 Tryz.underlying3 g0
    obtain ⟨s, l, e1, hi, hw, h1⟩ := open_saga g1 s1
    subst e0
    exact ⟨(a0, s, l), by show _ = Value.int .i64 a0 :: s.cells; rw [← e1], hi, w0, hw, h1⟩
theorem arg_puts {A : Option Addr} {len cap : Nat} {d : DataW H} {p : List MemPlace} (h : DataW.Trod enc Tryz.prog W 0 (fun _ => true) true 50 (.slice A len cap) d p) (hs : Sm 50 d) : ∃ l : List PutD, PutsAt (· < W.heap.size) W (.slice A len cap) l ∧ ∀ o ∈ l, PutWf o := by
  obtain ⟨fuel, hf⟩ := h
  obtain ⟨ys, h1, h2⟩ := open_elems putC (fun p => StepsAt (· < W.heap.size) W p.2.1.v p.2.2 ∧ PutWf p) 14 (by decide) (fun p => rfl) Tryz.underlying50 (by kernel_rfl) (fun n cs x h hs => open_put h hs) (fun y _ => putC_one y) (n := fuel) (x := (d, p)) hf hs
  exact ⟨ys, ⟨h1, fun p hp => (h2 p hp).1⟩, fun p hp => (h2 p hp).2⟩
end
def PBox (g : Nat) (cs : List Value) (w : World) : Prop := w.heap[g]? = some (.cells cs.toArray 52 (0, 0))
section
variable {ops : Array Oper} {rest : List Oper} {op : Oper} {a : Act} {W : World} {Q : Exit → Act → World → Prop} {g : Nat} {y : PutD} {id : Int} {z : SagaD}
theorem put_putAt (id : Int) (s : SagaD) (x : PutD) : putAt ((.int .i64 id :: s.cells).toArray) 0 (putC x) = (putC x).toArray := by simp [putAt, putC, SagaD.cells]
theorem wpList_store_put (hgd : op.guard = none) (x v : Operand) (ho : op.op = .store 52 x v) (hx : a.eval x = .pointer (some ⟨g, 0, none⟩)) (hg : PBox g (.int .i64 id :: z.cells) W) (hy : a.eval v = .agg (putC y).toArray)
    (h : ∀ w', PBox g (putC y) w' → W.grownBy w' (some g) → wpList Tryz.prog ops Q rest (a.put op.dst undef) w') : wpList Tryz.prog ops Q (op :: rest) a W :=
  wpList_store_box hgd 52 x v ho g 0 (putC y).toArray hx hy _ _ hg (by kernel_rfl) (by exact Nat.le_of_ble_eq_true rfl) (by exact putC_one y) (fun w' hb hg' => h w' (by rw [show (putC y).toArray.toList = putC y from rfl, put_putAt] at hb; exact hb) hg')
theorem exec_load_put (x : Operand) (ho : op.op = .load 52 x) {b off : Nat} (hx : a.eval x = .pointer (some ⟨b, off, none⟩)) (hr : W.rangeAt b off (putC y)) : (execOp a.eval op).run Tryz.prog W = .ok (.value (.agg (putC y).toArray)) W :=
  exec_load_range 52 x ho b off hx (putC y) hr _ Tryz.underlying52 (by rfl) (by kernel_rfl)
theorem exec_load_psaga (x : Operand) (ho : op.op = .load 36 x) {b off : Nat} {s : SagaD} (hx : a.eval x = .pointer (some ⟨b, off, none⟩)) (hr : W.rangeAt b off s.cells) : (execOp a.eval op).run Tryz.prog W = .ok (.value s.val) W :=
  exec_load_range 36 x ho b off hx s.cells hr _ Tryz.underlying36 (by rfl) (by kernel_rfl)
theorem exec_load_pdef (x : Operand) (ho : op.op = .load 31 x) {b off : Nat} {n : ByteArray} {v : Value} (hx : a.eval x = .pointer (some ⟨b, off, none⟩)) (hr : W.rangeAt b off [.string n, v]) : (execOp a.eval op).run Tryz.prog W = .ok (.value (.agg #[.string n, v])) W :=
  exec_load_range 31 x ho b off hx [.string n, v] hr _ Tryz.underlying31 (by rfl) (by kernel_rfl)
theorem range_put {b off : Nat} (h : W.rangeAt b off (putC y)) : W.cell? ⟨b, off, none⟩ = some (.int .i64 y.1) ∧ W.rangeAt b (off + 1) y.2.1.cells ∧ W.rangeAt b (off + 1) [.string y.2.1.name, y.2.1.v] :=
  ⟨h 0 _ rfl, fun j u hj => (congrArg (fun q => W.cell? ⟨b, q, none⟩) (show off + 1 + j = off + (j + 1) from by omega)).trans (h (j + 1) u (by simpa [putC] using hj)), fun j u hj => (congrArg (fun q => W.cell? ⟨b, q, none⟩) (show off + 1 + j = off + (j + 1) from by omega)).trans (h (j + 1) u (by
    match j, hj with
    | 0, hj => exact hj
    | 1, hj => exact hj))⟩
end
end Go.Proofs.YtpckdhjnhnonhaaGreat
/- BookRoom, as data: what starts and reports of the example's sagas leave. -/
namespace Go.Proofs.YtpckdhjnhnonhaaGreat
open Go.RowKit Go.Maps
def runB : SagaD := ⟨nmB, none, 0, 0, 1, 1, 1, upH 0⟩
def doneB : SagaD := ⟨nmB, none, 0, 0, 3, 0, 0, (upH 0).set 0 true⟩
structure RoomI (n : Nat) (t : BkS) (la op : Nat) : Prop where
  last : t.last = (la : Int)
  ids : ∀ x ∈ t.L, x.id ≤ (la : Int)
  each : ∀ x ∈ t.L, x.l = lB ∧ (x.s = runB ∨ x.s = doneB)
  count : openN t.L = op
  most : op ≤ n
  len : t.L.length ≤ 32
theorem dropE_none {L : List Ent} {id : Int} (h : ∀ x ∈ L, x.id ≠ id) : dropE L id = L := by
  unfold dropE
  rw [List.filter_eq_self]
  intro x hx
  simp [h x hx]
theorem dropE_len : ∀ {L : List Ent} {x : Ent}, RiseE L → x ∈ L → (dropE L x.id).length + 1 = L.length ∧ openN (dropE L x.id) + (if x.isOpen then 1 else 0) = openN L
  | [], _, _, h => by cases h
  | y :: r, x, hr, hx => by
    obtain ⟨h1, h2⟩ := List.pairwise_cons.1 hr
    rcases List.mem_cons.1 hx with rfl | hx
    · have e : dropE (x :: r) x.id = r := by
        unfold dropE
        rw [List.filter_cons_of_neg (by simp)]
        exact dropE_none fun z hz => by have := h1 z hz; omega
      rw [e]
      refine ⟨rfl, ?_⟩
      unfold openN
      rw [List.countP_cons]
    · have ih := dropE_len h2 hx
      have hne := h1 x hx
      have e : dropE (y :: r) x.id = y :: dropE r x.id := by
        unfold dropE
        rw [List.filter_cons_of_pos (by simp; omega)]
      rw [e]
      unfold openN at ih ⊢
      rw [List.countP_cons, List.countP_cons, List.length_cons, List.length_cons]
      omega
theorem roomF_room {L : List Ent} (hr : RiseE L) (hl : L.length ≤ 32) (ho : openN L < 32) : (roomF L).length ≤ 31 ∧ openN (roomF L) = openN L ∧ ∀ x ∈ roomF L, x ∈ L := by
  unfold roomF
  split
  · exact ⟨by omega, rfl, fun _ h => h⟩
  · cases hf : L.find? (fun x => !x.isOpen) with
    | none =>
      exfalso
      have hall : openN L = L.length := by
        unfold openN
        rw [List.countP_eq_length]
        intro x hx
        have := List.find?_eq_none.1 hf x hx
        simpa using this
      omega
    | some x =>
      have hx := List.mem_of_find?_eq_some hf
      have ho2 : x.isOpen = false := by have := List.find?_some hf; simpa using this
      obtain ⟨a1, a2⟩ := dropE_len hr hx
      rw [ho2] at a2
      exact ⟨by simp only; omega, by simpa using a2, fun y hy => dropE_sub y hy⟩
theorem RoomI.start {n : Nat} {t : BkS} {la op : Nat} (h : RoomI n t la op) (hr : RiseE t.L) (hn : n ≤ 32) (ho : op < n) : RoomI n ⟨t.last + 1, putE (newE (t.last + 1) nmB lB) (roomF t.L)⟩ (la + 1) (op + 1) := by
  obtain ⟨a1, a2, a3⟩ := roomF_room hr h.len (by rw [h.count]; omega)
  have hlt : ∀ y ∈ roomF t.L, y.id < (newE (t.last + 1) nmB lB).id := fun y hy => by
    have := h.ids y (a3 y hy)
    have := h.last
    show y.id < t.last + 1
    omega
  have e := putE_last (newE (t.last + 1) nmB lB) hlt
  have hl := h.last
  refine ⟨by show t.last + 1 = _; omega, fun x hx => ?_, fun x hx => ?_, ?_, by omega, ?_⟩
  · rw [e] at hx
    rcases List.mem_append.1 hx with hx | hx
    · have := h.ids x (a3 x hx); omega
    · obtain rfl : x = newE (t.last + 1) nmB lB := by simpa using hx
      show t.last + 1 ≤ _
      omega
  · rw [e] at hx
    rcases List.mem_append.1 hx with hx | hx
    · exact h.each x (a3 x hx)
    · obtain rfl : x = newE (t.last + 1) nmB lB := by simpa using hx
      exact ⟨rfl, .inl rfl⟩
  · simp only [e]
    unfold openN at a2 ⊢
    rw [List.countP_append, a2]
    have := h.count
    unfold openN at this
    rw [this]
    rfl
  · simp only [e]
    rw [List.length_append]
    simp
    omega
end Go.Proofs.YtpckdhjnhnonhaaGreat
