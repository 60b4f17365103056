/- Texts merged: BkRQ, SagS, BkRT, BkSt. -/
import Derived.Test.YtpckdhjnhnonhaaGreatBaseS1
import Derived.Test.YtpckdhjnhnonhaaGreatBaseS2
import Derived.Test.YtpckdhjnhnonhaaGreatBaseS3
import Derived.Test.YtpckdhjnhnonhaaGreatBaseS4
import Derived.Test.YtpckdhjnhnonhaaGreatBaseS5
import Derived.Test.YtpckdhjnhnonhaaGreatBaseS6
import Derived.Lib.MinMax
/- The document's Apply, whatever the operation. -/
namespace Go.Proofs.YtpckdhjnhnonhaaGreat
open Go.RowKit Go.Maps
theorem rcancel_same (l : List StepD) (s : SagaD) (p : Option Addr) (n c : Nat) : (rcancelF l (s.withV p n c)).2 = (cancelF l s).2 ∧ ((cancelF l s).2 = 0 → (rcancelF l (s.withV p n c)).1 = (cancelF l s).1.withV p n c) := by
  unfold rcancelF cancelF
  rw [show goodF l (s.withV p n c) = goodF l s from rfl, show lateB l (s.withV p n c) = lateB l s from rfl, show (s.withV p n c).st = s.st from rfl, hitN_withV, failsS_withV]
  split
  · split
    · exact ⟨rfl, fun _ => rfl⟩
    · split
      · exact ⟨rfl, fun h => absurd (show (10 : Int) = 0 from h) (by decide)⟩
      · exact ⟨rfl, fun _ => rfl⟩
  · exact ⟨rfl, fun h => absurd (show (2 : Int) = 0 from h) (by decide)⟩
theorem reportF_V {l : List StepD} {s : SagaD} {step tr : Int} {back good : Bool} (p : Option Addr) (n c : Nat) (h : isIt l s step tr back = true) : reportF l (s.withV p n c) step tr back good = (reportE l s back good).withV p n c := by
  unfold reportF
  rw [show isIt l (s.withV p n c) step tr back = isIt l s step tr back from rfl, h, if_pos rfl, reportE_withV]
theorem lapseF_V {l : List StepD} {s : SagaD} {step tr : Int} {back : Bool} (p : Option Addr) (n c : Nat) (h : isIt l s step tr back = true) : lapseF l (s.withV p n c) step tr back = (lapseE l s).withV p n c := by
  unfold lapseF
  rw [show isIt l (s.withV p n c) step tr back = isIt l s step tr back from rfl, h, if_pos rfl, lapseE_withV]
theorem atS_some {t : BkS} {id : Int} {x : Ent} (h : entAt t.L id = some x) : atS t id = x.s ∧ atL t id = x.l ∧ atB t id = true := by
  unfold atS atL atB
  rw [h]
  exact ⟨rfl, rfl, rfl⟩
theorem atS_none {t : BkS} {id : Int} (h : entAt t.L id = none) : atB t id = false := by
  unfold atB
  rw [h]
  rfl
section
variable {F : Nat → Prop} {w : World} {g : Nat} {most : Int} {t : BkS}
set_option maxHeartbeats 4000000 in
set_option maxRecDepth 100000 in
theorem rapply_0 {F0 : Nat → Prop} {o : OpD} {A : Option Addr} {n c : Nat} (h : RBookAt F w g most t) (_hn : t.L.length ≤ 900) (hst : StepsAt F0 w (.slice A n c) o.steps) (_hw : o.wf) (_hla : t.last < 4611686018427387904) (hF : ∀ i, w.heap.size ≤ i → F i) (hkd : o.kind = 0) :
    Calls Tryz.prog 12 #[.pointer (some ⟨g, 0, none⟩), .agg (o.cells (.slice A n c)).toArray] w (RDid F g most (errR 0) (t) w) := by
  have hlt := h.lt
  obtain ⟨W1, hW1⟩ : ∃ W1, W1 = (w.alloc (.cells (o.cells (.slice A n c)).toArray 33 (0, 0))).alloc (.cells #[.int .i64 0, .int .i64 0, .int .i64 0, .int .i64 0] 44 (0, 0)) := ⟨_, rfl⟩
  obtain ⟨d, hd⟩ : ∃ d, d = w.heap.size := ⟨_, rfl⟩
  have X1 : Hid (OBox d o (.slice A n c) W1) := by rw [hW1, hd]; exact (heap_alloc_old _ _ (by simp)).trans (heap_alloc_new _ _)
  have Y1 : Hid (RBox (d + 1) (errR 0) W1) := by rw [hW1, hd]; exact heap_second _ _ _
  have L1 : Hid (Later w W1) := by rw [hW1]; exact ((Below.refl _ _).alloc (Nat.le_refl _) _).alloc (by simp) _
  have HYG : Hid (g < d + 1) := by rw [hd]; show g < _; omega
  have HDG : Hid (g < d) := by rw [hd]; exact hlt
  have HY : Hid (w.heap.size ≤ d + 1) := by rw [hd]; exact Nat.le_succ _
  have HYW : Hid (d + 1 < W1.heap.size) := lt_of_block Y1.out
  have h1 : RBookAt (fun i => F i ∧ i ≠ d + 1) W1 g most t := (h.mono (G := fun i => F i ∧ i ≠ d + 1) (fun i hi hf => ⟨hf, by omega⟩) (fun e => h.apart e.1)).later L1.out
  have hF1 : ∀ i, W1.heap.size ≤ i → F i ∧ i ≠ d + 1 := fun i hi => by
    have a1 := Below.size L1.out
    have a2 := HYW.out
    exact ⟨hF i (by omega), by omega⟩
  have HF1 := hide hF1
  have H1 := hide h1
  have HA := hide h.apart
  have HNN := hide _hn
  have hst1 := StepsAt.kept hst (Kept.of_below L1.out _)
  obtain ⟨a0, a3, a4, a5, a6, a7, a8, a9⟩ := X1.out.at_
  clear a3 a4 a5 a6 a7 a8 a9
  rw [hkd] at a0
  clear hkd
  have ye := Y1.out
  rw [hW1, hd] at ye
  have YE := hide ye
  try rw [hW1, hd] at a0
  try rw [hW1, hd] at a3
  try rw [hW1, hd] at a4
  try rw [hW1, hd] at a5
  clear ye
  have HW1 := hide hW1.symm
  have HG := hide hd.symm
  clear h _hn hst hst1 _hw _hla hF hF1 hW1 hd h1 hlt
  go_enter Tryz.func12, Tryz.ntmps12
  go_wp2_with (refine wpList_store_rep (r := errR 0) (by rfl) _ _ (by rfl) (by rfl) YE.out (by rfl) ?_; simp only [HW1.out, HG.out])
  intro w9 Z9 G9
  have HZ := hide Z9
  have T9 : Hid (Turned (fun i => i = d + 1) W1 w9) := Turned.of_grown G9 (fun g e => (Option.some.inj e).symm)
  clear Z9 G9
  go_wp2
  refine bodyPost_ret (results_cell_row Tryz.results12 _ _ (d + 1) 44 _ (0, 0) _ (by rfl) HZ.out Tryz.underlying44 (by rfl) (by kernel_rfl)) (by rfl) ?_
  have B9 := (H1.out).turned T9.out (by have := HYG.out; omega) (fun i hi => hi.2)
  have La : Turned (fun i => i = g) w W1 := Turned.of_below L1.out _
  exact ⟨rfl, B9.mono (fun i _ hf => hf.1) HA.out, La.onto T9.out (fun i hi => .inr (by have := HY.out; omega))⟩
set_option maxHeartbeats 4000000 in
set_option maxRecDepth 100000 in
theorem rapply_x {F0 : Nat → Prop} {o : OpD} {A : Option Addr} {n c : Nat} (h : RBookAt F w g most t) (_hn : t.L.length ≤ 900) (hst : StepsAt F0 w (.slice A n c) o.steps) (_hw : o.wf) (_hla : t.last < 4611686018427387904) (hF : ∀ i, w.heap.size ≤ i → F i) (h0 : o.kind ≠ 0) (h1k : o.kind ≠ 1) (h2k : o.kind ≠ 2) (h3k : o.kind ≠ 3) (h4k : o.kind ≠ 4) (h5k : o.kind ≠ 5) :
    Calls Tryz.prog 12 #[.pointer (some ⟨g, 0, none⟩), .agg (o.cells (.slice A n c)).toArray] w (RDid F g most (errR 2) (t) w) := by
  have hlt := h.lt
  obtain ⟨W1, hW1⟩ : ∃ W1, W1 = (w.alloc (.cells (o.cells (.slice A n c)).toArray 33 (0, 0))).alloc (.cells #[.int .i64 0, .int .i64 0, .int .i64 0, .int .i64 0] 44 (0, 0)) := ⟨_, rfl⟩
  obtain ⟨d, hd⟩ : ∃ d, d = w.heap.size := ⟨_, rfl⟩
  have X1 : Hid (OBox d o (.slice A n c) W1) := by rw [hW1, hd]; exact (heap_alloc_old _ _ (by simp)).trans (heap_alloc_new _ _)
  have Y1 : Hid (RBox (d + 1) (errR 0) W1) := by rw [hW1, hd]; exact heap_second _ _ _
  have L1 : Hid (Later w W1) := by rw [hW1]; exact ((Below.refl _ _).alloc (Nat.le_refl _) _).alloc (by simp) _
  have HYG : Hid (g < d + 1) := by rw [hd]; show g < _; omega
  have HDG : Hid (g < d) := by rw [hd]; exact hlt
  have HY : Hid (w.heap.size ≤ d + 1) := by rw [hd]; exact Nat.le_succ _
  have HYW : Hid (d + 1 < W1.heap.size) := lt_of_block Y1.out
  have h1 : RBookAt (fun i => F i ∧ i ≠ d + 1) W1 g most t := (h.mono (G := fun i => F i ∧ i ≠ d + 1) (fun i hi hf => ⟨hf, by omega⟩) (fun e => h.apart e.1)).later L1.out
  have hF1 : ∀ i, W1.heap.size ≤ i → F i ∧ i ≠ d + 1 := fun i hi => by
    have a1 := Below.size L1.out
    have a2 := HYW.out
    exact ⟨hF i (by omega), by omega⟩
  have HF1 := hide hF1
  have H1 := hide h1
  have HA := hide h.apart
  have HNN := hide _hn
  have hst1 := StepsAt.kept hst (Kept.of_below L1.out _)
  obtain ⟨a0, a3, a4, a5, a6, a7, a8, a9⟩ := X1.out.at_
  clear a3 a4 a5 a6 a7 a8 a9
  obtain ⟨kd, hkd⟩ : ∃ kd, o.kind = kd := ⟨_, rfl⟩
  rw [hkd] at a0 h0 h1k h2k h3k h4k h5k
  clear hkd
  have k0 : (kd == 0) = false := by simp; omega
  have k1 : (kd == 1) = false := by simp; omega
  have k2 : (kd == 2) = false := by simp; omega
  have k3 : (kd == 3) = false := by simp; omega
  have k4 : (kd == 4) = false := by simp; omega
  have k5 : (kd == 5) = false := by simp; omega
  clear h0 h1k h2k h3k h4k h5k
  have ye := Y1.out
  rw [hW1, hd] at ye
  have YE := hide ye
  try rw [hW1, hd] at a0
  try rw [hW1, hd] at a3
  try rw [hW1, hd] at a4
  try rw [hW1, hd] at a5
  clear ye
  have HW1 := hide hW1.symm
  have HG := hide hd.symm
  clear h _hn hst hst1 _hw _hla hF hF1 hW1 hd h1 hlt
  go_enter Tryz.func12, Tryz.ntmps12
  go_wp2_with (refine wpList_store_rep (r := errR 2) (by rfl) _ _ (by rfl) (by rfl) YE.out (by rfl) ?_; simp only [HW1.out, HG.out])
  intro w9 Z9 G9
  have HZ := hide Z9
  have T9 : Hid (Turned (fun i => i = d + 1) W1 w9) := Turned.of_grown G9 (fun g e => (Option.some.inj e).symm)
  clear Z9 G9
  go_wp2
  refine bodyPost_ret (results_cell_row Tryz.results12 _ _ (d + 1) 44 _ (0, 0) _ (by rfl) HZ.out Tryz.underlying44 (by rfl) (by kernel_rfl)) (by rfl) ?_
  have B9 := (H1.out).turned T9.out (by have := HYG.out; omega) (fun i hi => hi.2)
  have La : Turned (fun i => i = g) w W1 := Turned.of_below L1.out _
  exact ⟨rfl, B9.mono (fun i _ hf => hf.1) HA.out, La.onto T9.out (fun i hi => .inr (by have := HY.out; omega))⟩
set_option maxHeartbeats 4000000 in
set_option maxRecDepth 100000 in
theorem rapply_1 {F0 : Nat → Prop} {o : OpD} {A : Option Addr} {n c : Nat} (h : RBookAt F w g most t) (_hn : t.L.length ≤ 900) (hst : StepsAt F0 w (.slice A n c) o.steps) (_hw : o.wf) (_hla : t.last < 4611686018427387904) (hF : ∀ i, w.heap.size ≤ i → F i) (hkd : o.kind = 1) :
    Calls Tryz.prog 12 #[.pointer (some ⟨g, 0, none⟩), .agg (o.cells (.slice A n c)).toArray] w (RDid F g most (startR most t o.name o.steps) (startS most t o.name o.steps) w) := by
  have hlt := h.lt
  obtain ⟨W1, hW1⟩ : ∃ W1, W1 = (w.alloc (.cells (o.cells (.slice A n c)).toArray 33 (0, 0))).alloc (.cells #[.int .i64 0, .int .i64 0, .int .i64 0, .int .i64 0] 44 (0, 0)) := ⟨_, rfl⟩
  obtain ⟨d, hd⟩ : ∃ d, d = w.heap.size := ⟨_, rfl⟩
  have X1 : Hid (OBox d o (.slice A n c) W1) := by rw [hW1, hd]; exact (heap_alloc_old _ _ (by simp)).trans (heap_alloc_new _ _)
  have Y1 : Hid (RBox (d + 1) (errR 0) W1) := by rw [hW1, hd]; exact heap_second _ _ _
  have L1 : Hid (Later w W1) := by rw [hW1]; exact ((Below.refl _ _).alloc (Nat.le_refl _) _).alloc (by simp) _
  have HYG : Hid (g < d + 1) := by rw [hd]; show g < _; omega
  have HDG : Hid (g < d) := by rw [hd]; exact hlt
  have HY : Hid (w.heap.size ≤ d + 1) := by rw [hd]; exact Nat.le_succ _
  have HYW : Hid (d + 1 < W1.heap.size) := lt_of_block Y1.out
  have h1 : RBookAt (fun i => F i ∧ i ≠ d + 1) W1 g most t := (h.mono (G := fun i => F i ∧ i ≠ d + 1) (fun i hi hf => ⟨hf, by omega⟩) (fun e => h.apart e.1)).later L1.out
  have hF1 : ∀ i, W1.heap.size ≤ i → F i ∧ i ≠ d + 1 := fun i hi => by
    have a1 := Below.size L1.out
    have a2 := HYW.out
    exact ⟨hF i (by omega), by omega⟩
  have HF1 := hide hF1
  have H1 := hide h1
  have HA := hide h.apart
  have HNN := hide _hn
  have hst1 := StepsAt.kept hst (Kept.of_below L1.out _)
  obtain ⟨a0, a3, a4, a5, a6, a7, a8, a9⟩ := X1.out.at_
  clear a5 a6 a7 a8 a9
  rw [hkd] at a0
  clear hkd
  have C := hide (rstart_any (name := o.name) h1 _hn hst1 _hw.2.2.2.2.1 _hla hF1)
  obtain ⟨r9, hr9⟩ : ∃ r9, startR most t o.name o.steps = r9 := ⟨_, rfl⟩
  rw [hr9] at C ⊢
  obtain ⟨t9, ht9⟩ : ∃ t9, startS most t o.name o.steps = t9 := ⟨_, rfl⟩
  rw [ht9] at C ⊢
  clear hr9 ht9
  generalize o.name = nm at a3 C
  have ye := Y1.out
  rw [hW1, hd] at ye
  have YE := hide ye
  try rw [hW1, hd] at a0
  try rw [hW1, hd] at a3
  try rw [hW1, hd] at a4
  try rw [hW1, hd] at a5
  clear ye
  have HW1 := hide hW1.symm
  have HG := hide hd.symm
  clear h _hn hst hst1 _hw _hla hF hF1 hW1 hd h1 hlt
  go_enter Tryz.func12, Tryz.ntmps12
  go_wp2_with (fail)
  simp only [HW1.out, HG.out]
  refine C.out.mono ?_
  rintro e w3 ⟨rfl, hb3, ht3⟩
  have T3 := hide ht3
  have H3 := hide hb3
  clear hb3 ht3 C
  have Y3 : Hid (RBox (d + 1) (errR 0) w3) := Y1.out.turned T3.out (by have := HYG.out; omega)
  go_wp2_with (refine wpList_store_rep (r := r9) (by rfl) _ _ (by rfl) (by rfl) Y3.out (by rfl) ?_)
  intro w9 Z9 G9
  have HZ := hide Z9
  have T9 : Hid (Turned (fun i => i = d + 1) w3 w9) := Turned.of_grown G9 (fun g e => (Option.some.inj e).symm)
  clear Z9 G9
  go_wp2
  refine bodyPost_ret (results_cell_row Tryz.results12 _ _ (d + 1) 44 _ (0, 0) _ (by rfl) HZ.out Tryz.underlying44 (by rfl) (by kernel_rfl)) (by rfl) ?_
  have B9 := (H3.out).turned T9.out (by have := HYG.out; omega) (fun i hi => hi.2)
  have La0 : Turned (fun i => i = g) w W1 := Turned.of_below L1.out _
  have La := La0.trans T3.out
  exact ⟨rfl, B9.mono (fun i _ hf => hf.1) HA.out, La.onto T9.out (fun i hi => .inr (by have := HY.out; omega))⟩
set_option maxHeartbeats 4000000 in
set_option maxRecDepth 100000 in
theorem rapply_none2 {F0 : Nat → Prop} {o : OpD} {A : Option Addr} {n c : Nat} (h : RBookAt F w g most t) (_hn : t.L.length ≤ 900) (hst : StepsAt F0 w (.slice A n c) o.steps) (_hw : o.wf) (_hla : t.last < 4611686018427387904) (hF : ∀ i, w.heap.size ≤ i → F i) (hkd : o.kind = 2) (hx : entAt t.L o.saga = none) :
    Calls Tryz.prog 12 #[.pointer (some ⟨g, 0, none⟩), .agg (o.cells (.slice A n c)).toArray] w (RDid F g most (errR 8) (t) w) := by
  have hlt := h.lt
  obtain ⟨W1, hW1⟩ : ∃ W1, W1 = (w.alloc (.cells (o.cells (.slice A n c)).toArray 33 (0, 0))).alloc (.cells #[.int .i64 0, .int .i64 0, .int .i64 0, .int .i64 0] 44 (0, 0)) := ⟨_, rfl⟩
  obtain ⟨d, hd⟩ : ∃ d, d = w.heap.size := ⟨_, rfl⟩
  have X1 : Hid (OBox d o (.slice A n c) W1) := by rw [hW1, hd]; exact (heap_alloc_old _ _ (by simp)).trans (heap_alloc_new _ _)
  have Y1 : Hid (RBox (d + 1) (errR 0) W1) := by rw [hW1, hd]; exact heap_second _ _ _
  have L1 : Hid (Later w W1) := by rw [hW1]; exact ((Below.refl _ _).alloc (Nat.le_refl _) _).alloc (by simp) _
  have HYG : Hid (g < d + 1) := by rw [hd]; show g < _; omega
  have HDG : Hid (g < d) := by rw [hd]; exact hlt
  have HY : Hid (w.heap.size ≤ d + 1) := by rw [hd]; exact Nat.le_succ _
  have HYW : Hid (d + 1 < W1.heap.size) := lt_of_block Y1.out
  have h1 : RBookAt (fun i => F i ∧ i ≠ d + 1) W1 g most t := (h.mono (G := fun i => F i ∧ i ≠ d + 1) (fun i hi hf => ⟨hf, by omega⟩) (fun e => h.apart e.1)).later L1.out
  have hF1 : ∀ i, W1.heap.size ≤ i → F i ∧ i ≠ d + 1 := fun i hi => by
    have a1 := Below.size L1.out
    have a2 := HYW.out
    exact ⟨hF i (by omega), by omega⟩
  have HF1 := hide hF1
  have H1 := hide h1
  have HA := hide h.apart
  have HNN := hide _hn
  have hst1 := StepsAt.kept hst (Kept.of_below L1.out _)
  obtain ⟨a0, a3, a4, a5, a6, a7, a8, a9⟩ := X1.out.at_
  clear a3 a4 a6 a7 a8 a9
  rw [hkd] at a0
  have C := hide (rsaga_any (id := o.saga) h1 (by omega))
  rw [atS_none hx] at C
  generalize atS t o.saga = xs at C
  generalize atL t o.saga = xl at C
  clear hx hkd
  have ye := Y1.out
  rw [hW1, hd] at ye
  have YE := hide ye
  try rw [hW1, hd] at a0
  try rw [hW1, hd] at a3
  try rw [hW1, hd] at a4
  try rw [hW1, hd] at a5
  clear ye
  have HW1 := hide hW1.symm
  have HG := hide hd.symm
  clear h _hn hst hst1 _hw _hla hF hF1 hW1 hd h1 hlt
  go_enter Tryz.func12, Tryz.ntmps12
  go_wp2_with (fail)
  simp only [HW1.out, HG.out]
  refine C.out.mono ?_
  rintro e w2 ⟨p, m, c2, rfl, hs, hl2⟩
  obtain ⟨s2, hs2⟩ : ∃ s2, xs.withV p m c2 = s2 := ⟨_, rfl⟩
  rw [hs2]
  have S2 := hide hs
  have HS2 := hide hs2
  have L2 : Hid (Later W1 w2) := hl2
  have T2 : Hid (SBox 39 w2.heap.size SagaD.zero (w2.alloc (.cells #[.string ⟨#[]⟩, .slice none 0 0, .int .i64 0, .int .i64 0, .int .i64 0, .bool false, .bool false, .bool false, .bool false, .bool false, .bool false, .bool false, .bool false] 39 (0, 0)))) := heap_alloc_new _ _
  have L2b : Hid (Later w2 (w2.alloc (.cells #[.string ⟨#[]⟩, .slice none 0 0, .int .i64 0, .int .i64 0, .int .i64 0, .bool false, .bool false, .bool false, .bool false, .bool false, .bool false, .bool false, .bool false] 39 (0, 0)))) := (Below.refl _ _).alloc (Nat.le_refl _) _
  have HYS : Hid (d + 1 < w2.heap.size) := lt_of_block (Y1.out.below L2.out)
  clear hs hl2 C hs2 a0 a5
  go_wp2_with (refine wpList_rstore_saga (s := s2) (by rfl) _ _ (by rfl) (by rfl) T2.out (by rfl) ?_)
  intro w3 X3 G3
  have L3 : Hid (Later w2 w3) := L2b.out.grown G3 (by simp) (fun k hk => by have := Option.some.inj hk; omega)
  obtain ⟨y, hy⟩ : ∃ y, w2.heap.size = y := ⟨_, rfl⟩
  rw [hy] at X3 HYS
  have HYE := hide hy
  have Z3 := hide X3
  have L3a : Later W1 w2 := L2.out
  have L13 : Hid (Later W1 w3) := Later.trans L3a L3.out
  have Y3 : Hid (RBox (d + 1) (errR 0) w3) := Y1.out.below L13.out
  have X3o : Hid (OBox d o (.slice A n c) w3) := X1.out.below L13.out
  have H3 : Hid (RBookAt (fun i => F i ∧ i ≠ d + 1) w3 g most t) := H1.out.later L13.out
  clear X3 G3 L3a hy
  try rw [HYE.out]
  obtain ⟨a0, _, _, a5, a6, a7, a8, a9⟩ := X3o.out.at_
  clear a0 a5 a6 a7 a8 a9
  go_wp2_with (refine wpList_store_rep (r := errR 8) (by rfl) _ _ (by rfl) (by rfl) Y3.out (by rfl) ?_)
  intro w9 Z9 G9
  have HZ := hide Z9
  have T9 : Hid (Turned (fun i => i = d + 1) w3 w9) := Turned.of_grown G9 (fun g e => (Option.some.inj e).symm)
  clear Z9 G9
  go_wp2
  refine bodyPost_ret (results_cell_row Tryz.results12 _ _ (d + 1) 44 _ (0, 0) _ (by rfl) HZ.out Tryz.underlying44 (by rfl) (by kernel_rfl)) (by rfl) ?_
  have B9 := (H3.out).turned T9.out (by have := HYG.out; omega) (fun i hi => hi.2)
  have Lb : Later w W1 := L1.out
  have Lc : Later w w3 := Later.trans Lb L13.out
  have La : Turned (fun i => i = g) w w3 := Turned.of_below Lc _
  exact ⟨rfl, B9.mono (fun i _ hf => hf.1) HA.out, La.onto T9.out (fun i hi => .inr (by have := HY.out; omega))⟩
set_option maxHeartbeats 4000000 in
set_option maxRecDepth 100000 in
theorem rapply_none3 {F0 : Nat → Prop} {o : OpD} {A : Option Addr} {n c : Nat} (h : RBookAt F w g most t) (_hn : t.L.length ≤ 900) (hst : StepsAt F0 w (.slice A n c) o.steps) (_hw : o.wf) (_hla : t.last < 4611686018427387904) (hF : ∀ i, w.heap.size ≤ i → F i) (hkd : o.kind = 3) (hx : entAt t.L o.saga = none) :
    Calls Tryz.prog 12 #[.pointer (some ⟨g, 0, none⟩), .agg (o.cells (.slice A n c)).toArray] w (RDid F g most (errR 8) (t) w) := by
  have hlt := h.lt
  obtain ⟨W1, hW1⟩ : ∃ W1, W1 = (w.alloc (.cells (o.cells (.slice A n c)).toArray 33 (0, 0))).alloc (.cells #[.int .i64 0, .int .i64 0, .int .i64 0, .int .i64 0] 44 (0, 0)) := ⟨_, rfl⟩
  obtain ⟨d, hd⟩ : ∃ d, d = w.heap.size := ⟨_, rfl⟩
  have X1 : Hid (OBox d o (.slice A n c) W1) := by rw [hW1, hd]; exact (heap_alloc_old _ _ (by simp)).trans (heap_alloc_new _ _)
  have Y1 : Hid (RBox (d + 1) (errR 0) W1) := by rw [hW1, hd]; exact heap_second _ _ _
  have L1 : Hid (Later w W1) := by rw [hW1]; exact ((Below.refl _ _).alloc (Nat.le_refl _) _).alloc (by simp) _
  have HYG : Hid (g < d + 1) := by rw [hd]; show g < _; omega
  have HDG : Hid (g < d) := by rw [hd]; exact hlt
  have HY : Hid (w.heap.size ≤ d + 1) := by rw [hd]; exact Nat.le_succ _
  have HYW : Hid (d + 1 < W1.heap.size) := lt_of_block Y1.out
  have h1 : RBookAt (fun i => F i ∧ i ≠ d + 1) W1 g most t := (h.mono (G := fun i => F i ∧ i ≠ d + 1) (fun i hi hf => ⟨hf, by omega⟩) (fun e => h.apart e.1)).later L1.out
  have hF1 : ∀ i, W1.heap.size ≤ i → F i ∧ i ≠ d + 1 := fun i hi => by
    have a1 := Below.size L1.out
    have a2 := HYW.out
    exact ⟨hF i (by omega), by omega⟩
  have HF1 := hide hF1
  have H1 := hide h1
  have HA := hide h.apart
  have HNN := hide _hn
  have hst1 := StepsAt.kept hst (Kept.of_below L1.out _)
  obtain ⟨a0, a3, a4, a5, a6, a7, a8, a9⟩ := X1.out.at_
  clear a3 a4 a6 a7 a8 a9
  rw [hkd] at a0
  have C := hide (rsaga_any (id := o.saga) h1 (by omega))
  rw [atS_none hx] at C
  generalize atS t o.saga = xs at C
  generalize atL t o.saga = xl at C
  clear hx hkd
  have ye := Y1.out
  rw [hW1, hd] at ye
  have YE := hide ye
  try rw [hW1, hd] at a0
  try rw [hW1, hd] at a3
  try rw [hW1, hd] at a4
  try rw [hW1, hd] at a5
  clear ye
  have HW1 := hide hW1.symm
  have HG := hide hd.symm
  clear h _hn hst hst1 _hw _hla hF hF1 hW1 hd h1 hlt
  go_enter Tryz.func12, Tryz.ntmps12
  go_wp2_with (fail)
  simp only [HW1.out, HG.out]
  refine C.out.mono ?_
  rintro e w2 ⟨p, m, c2, rfl, hs, hl2⟩
  obtain ⟨s2, hs2⟩ : ∃ s2, xs.withV p m c2 = s2 := ⟨_, rfl⟩
  rw [hs2]
  have S2 := hide hs
  have HS2 := hide hs2
  have L2 : Hid (Later W1 w2) := hl2
  have T2 : Hid (SBox 39 w2.heap.size SagaD.zero (w2.alloc (.cells #[.string ⟨#[]⟩, .slice none 0 0, .int .i64 0, .int .i64 0, .int .i64 0, .bool false, .bool false, .bool false, .bool false, .bool false, .bool false, .bool false, .bool false] 39 (0, 0)))) := heap_alloc_new _ _
  have L2b : Hid (Later w2 (w2.alloc (.cells #[.string ⟨#[]⟩, .slice none 0 0, .int .i64 0, .int .i64 0, .int .i64 0, .bool false, .bool false, .bool false, .bool false, .bool false, .bool false, .bool false, .bool false] 39 (0, 0)))) := (Below.refl _ _).alloc (Nat.le_refl _) _
  have HYS : Hid (d + 1 < w2.heap.size) := lt_of_block (Y1.out.below L2.out)
  clear hs hl2 C hs2 a0 a5
  go_wp2_with (refine wpList_rstore_saga (s := s2) (by rfl) _ _ (by rfl) (by rfl) T2.out (by rfl) ?_)
  intro w3 X3 G3
  have L3 : Hid (Later w2 w3) := L2b.out.grown G3 (by simp) (fun k hk => by have := Option.some.inj hk; omega)
  obtain ⟨y, hy⟩ : ∃ y, w2.heap.size = y := ⟨_, rfl⟩
  rw [hy] at X3 HYS
  have HYE := hide hy
  have Z3 := hide X3
  have L3a : Later W1 w2 := L2.out
  have L13 : Hid (Later W1 w3) := Later.trans L3a L3.out
  have Y3 : Hid (RBox (d + 1) (errR 0) w3) := Y1.out.below L13.out
  have X3o : Hid (OBox d o (.slice A n c) w3) := X1.out.below L13.out
  have H3 : Hid (RBookAt (fun i => F i ∧ i ≠ d + 1) w3 g most t) := H1.out.later L13.out
  clear X3 G3 L3a hy
  try rw [HYE.out]
  obtain ⟨a0, _, _, a5, a6, a7, a8, a9⟩ := X3o.out.at_
  clear a0 a5 a6 a7 a8 a9
  go_wp2_with (refine wpList_store_rep (r := errR 8) (by rfl) _ _ (by rfl) (by rfl) Y3.out (by rfl) ?_)
  intro w9 Z9 G9
  have HZ := hide Z9
  have T9 : Hid (Turned (fun i => i = d + 1) w3 w9) := Turned.of_grown G9 (fun g e => (Option.some.inj e).symm)
  clear Z9 G9
  go_wp2
  refine bodyPost_ret (results_cell_row Tryz.results12 _ _ (d + 1) 44 _ (0, 0) _ (by rfl) HZ.out Tryz.underlying44 (by rfl) (by kernel_rfl)) (by rfl) ?_
  have B9 := (H3.out).turned T9.out (by have := HYG.out; omega) (fun i hi => hi.2)
  have Lb : Later w W1 := L1.out
  have Lc : Later w w3 := Later.trans Lb L13.out
  have La : Turned (fun i => i = g) w w3 := Turned.of_below Lc _
  exact ⟨rfl, B9.mono (fun i _ hf => hf.1) HA.out, La.onto T9.out (fun i hi => .inr (by have := HY.out; omega))⟩
set_option maxHeartbeats 4000000 in
set_option maxRecDepth 100000 in
theorem rapply_none4 {F0 : Nat → Prop} {o : OpD} {A : Option Addr} {n c : Nat} (h : RBookAt F w g most t) (_hn : t.L.length ≤ 900) (hst : StepsAt F0 w (.slice A n c) o.steps) (_hw : o.wf) (_hla : t.last < 4611686018427387904) (hF : ∀ i, w.heap.size ≤ i → F i) (hkd : o.kind = 4) (hx : entAt t.L o.saga = none) :
    Calls Tryz.prog 12 #[.pointer (some ⟨g, 0, none⟩), .agg (o.cells (.slice A n c)).toArray] w (RDid F g most (errR 8) (t) w) := by
  have hlt := h.lt
  obtain ⟨W1, hW1⟩ : ∃ W1, W1 = (w.alloc (.cells (o.cells (.slice A n c)).toArray 33 (0, 0))).alloc (.cells #[.int .i64 0, .int .i64 0, .int .i64 0, .int .i64 0] 44 (0, 0)) := ⟨_, rfl⟩
  obtain ⟨d, hd⟩ : ∃ d, d = w.heap.size := ⟨_, rfl⟩
  have X1 : Hid (OBox d o (.slice A n c) W1) := by rw [hW1, hd]; exact (heap_alloc_old _ _ (by simp)).trans (heap_alloc_new _ _)
  have Y1 : Hid (RBox (d + 1) (errR 0) W1) := by rw [hW1, hd]; exact heap_second _ _ _
  have L1 : Hid (Later w W1) := by rw [hW1]; exact ((Below.refl _ _).alloc (Nat.le_refl _) _).alloc (by simp) _
  have HYG : Hid (g < d + 1) := by rw [hd]; show g < _; omega
  have HDG : Hid (g < d) := by rw [hd]; exact hlt
  have HY : Hid (w.heap.size ≤ d + 1) := by rw [hd]; exact Nat.le_succ _
  have HYW : Hid (d + 1 < W1.heap.size) := lt_of_block Y1.out
  have h1 : RBookAt (fun i => F i ∧ i ≠ d + 1) W1 g most t := (h.mono (G := fun i => F i ∧ i ≠ d + 1) (fun i hi hf => ⟨hf, by omega⟩) (fun e => h.apart e.1)).later L1.out
  have hF1 : ∀ i, W1.heap.size ≤ i → F i ∧ i ≠ d + 1 := fun i hi => by
    have a1 := Below.size L1.out
    have a2 := HYW.out
    exact ⟨hF i (by omega), by omega⟩
  have HF1 := hide hF1
  have H1 := hide h1
  have HA := hide h.apart
  have HNN := hide _hn
  have hst1 := StepsAt.kept hst (Kept.of_below L1.out _)
  obtain ⟨a0, a3, a4, a5, a6, a7, a8, a9⟩ := X1.out.at_
  clear a3 a4 a6 a7 a8 a9
  rw [hkd] at a0
  have C := hide (rsaga_any (id := o.saga) h1 (by omega))
  rw [atS_none hx] at C
  generalize atS t o.saga = xs at C
  generalize atL t o.saga = xl at C
  clear hx hkd
  have ye := Y1.out
  rw [hW1, hd] at ye
  have YE := hide ye
  try rw [hW1, hd] at a0
  try rw [hW1, hd] at a3
  try rw [hW1, hd] at a4
  try rw [hW1, hd] at a5
  clear ye
  have HW1 := hide hW1.symm
  have HG := hide hd.symm
  clear h _hn hst hst1 _hw _hla hF hF1 hW1 hd h1 hlt
  go_enter Tryz.func12, Tryz.ntmps12
  go_wp2_with (fail)
  simp only [HW1.out, HG.out]
  refine C.out.mono ?_
  rintro e w2 ⟨p, m, c2, rfl, hs, hl2⟩
  obtain ⟨s2, hs2⟩ : ∃ s2, xs.withV p m c2 = s2 := ⟨_, rfl⟩
  rw [hs2]
  have S2 := hide hs
  have HS2 := hide hs2
  have L2 : Hid (Later W1 w2) := hl2
  have T2 : Hid (SBox 39 w2.heap.size SagaD.zero (w2.alloc (.cells #[.string ⟨#[]⟩, .slice none 0 0, .int .i64 0, .int .i64 0, .int .i64 0, .bool false, .bool false, .bool false, .bool false, .bool false, .bool false, .bool false, .bool false] 39 (0, 0)))) := heap_alloc_new _ _
  have L2b : Hid (Later w2 (w2.alloc (.cells #[.string ⟨#[]⟩, .slice none 0 0, .int .i64 0, .int .i64 0, .int .i64 0, .bool false, .bool false, .bool false, .bool false, .bool false, .bool false, .bool false, .bool false] 39 (0, 0)))) := (Below.refl _ _).alloc (Nat.le_refl _) _
  have HYS : Hid (d + 1 < w2.heap.size) := lt_of_block (Y1.out.below L2.out)
  clear hs hl2 C hs2 a0 a5
  go_wp2_with (refine wpList_rstore_saga (s := s2) (by rfl) _ _ (by rfl) (by rfl) T2.out (by rfl) ?_)
  intro w3 X3 G3
  have L3 : Hid (Later w2 w3) := L2b.out.grown G3 (by simp) (fun k hk => by have := Option.some.inj hk; omega)
  obtain ⟨y, hy⟩ : ∃ y, w2.heap.size = y := ⟨_, rfl⟩
  rw [hy] at X3 HYS
  have HYE := hide hy
  have Z3 := hide X3
  have L3a : Later W1 w2 := L2.out
  have L13 : Hid (Later W1 w3) := Later.trans L3a L3.out
  have Y3 : Hid (RBox (d + 1) (errR 0) w3) := Y1.out.below L13.out
  have X3o : Hid (OBox d o (.slice A n c) w3) := X1.out.below L13.out
  have H3 : Hid (RBookAt (fun i => F i ∧ i ≠ d + 1) w3 g most t) := H1.out.later L13.out
  clear X3 G3 L3a hy
  try rw [HYE.out]
  obtain ⟨a0, _, _, a5, a6, a7, a8, a9⟩ := X3o.out.at_
  clear a0 a5 a6 a7 a8 a9
  go_wp2_with (refine wpList_store_rep (r := errR 8) (by rfl) _ _ (by rfl) (by rfl) Y3.out (by rfl) ?_)
  intro w9 Z9 G9
  have HZ := hide Z9
  have T9 : Hid (Turned (fun i => i = d + 1) w3 w9) := Turned.of_grown G9 (fun g e => (Option.some.inj e).symm)
  clear Z9 G9
  go_wp2
  refine bodyPost_ret (results_cell_row Tryz.results12 _ _ (d + 1) 44 _ (0, 0) _ (by rfl) HZ.out Tryz.underlying44 (by rfl) (by kernel_rfl)) (by rfl) ?_
  have B9 := (H3.out).turned T9.out (by have := HYG.out; omega) (fun i hi => hi.2)
  have Lb : Later w W1 := L1.out
  have Lc : Later w w3 := Later.trans Lb L13.out
  have La : Turned (fun i => i = g) w w3 := Turned.of_below Lc _
  exact ⟨rfl, B9.mono (fun i _ hf => hf.1) HA.out, La.onto T9.out (fun i hi => .inr (by have := HY.out; omega))⟩
set_option maxHeartbeats 4000000 in
set_option maxRecDepth 100000 in
theorem rapply_none5 {F0 : Nat → Prop} {o : OpD} {A : Option Addr} {n c : Nat} (h : RBookAt F w g most t) (_hn : t.L.length ≤ 900) (hst : StepsAt F0 w (.slice A n c) o.steps) (_hw : o.wf) (_hla : t.last < 4611686018427387904) (hF : ∀ i, w.heap.size ≤ i → F i) (hkd : o.kind = 5) (hx : entAt t.L o.saga = none) :
    Calls Tryz.prog 12 #[.pointer (some ⟨g, 0, none⟩), .agg (o.cells (.slice A n c)).toArray] w (RDid F g most (errR 8) (t) w) := by
  have hlt := h.lt
  obtain ⟨W1, hW1⟩ : ∃ W1, W1 = (w.alloc (.cells (o.cells (.slice A n c)).toArray 33 (0, 0))).alloc (.cells #[.int .i64 0, .int .i64 0, .int .i64 0, .int .i64 0] 44 (0, 0)) := ⟨_, rfl⟩
  obtain ⟨d, hd⟩ : ∃ d, d = w.heap.size := ⟨_, rfl⟩
  have X1 : Hid (OBox d o (.slice A n c) W1) := by rw [hW1, hd]; exact (heap_alloc_old _ _ (by simp)).trans (heap_alloc_new _ _)
  have Y1 : Hid (RBox (d + 1) (errR 0) W1) := by rw [hW1, hd]; exact heap_second _ _ _
  have L1 : Hid (Later w W1) := by rw [hW1]; exact ((Below.refl _ _).alloc (Nat.le_refl _) _).alloc (by simp) _
  have HYG : Hid (g < d + 1) := by rw [hd]; show g < _; omega
  have HDG : Hid (g < d) := by rw [hd]; exact hlt
  have HY : Hid (w.heap.size ≤ d + 1) := by rw [hd]; exact Nat.le_succ _
  have HYW : Hid (d + 1 < W1.heap.size) := lt_of_block Y1.out
  have h1 : RBookAt (fun i => F i ∧ i ≠ d + 1) W1 g most t := (h.mono (G := fun i => F i ∧ i ≠ d + 1) (fun i hi hf => ⟨hf, by omega⟩) (fun e => h.apart e.1)).later L1.out
  have hF1 : ∀ i, W1.heap.size ≤ i → F i ∧ i ≠ d + 1 := fun i hi => by
    have a1 := Below.size L1.out
    have a2 := HYW.out
    exact ⟨hF i (by omega), by omega⟩
  have HF1 := hide hF1
  have H1 := hide h1
  have HA := hide h.apart
  have HNN := hide _hn
  have hst1 := StepsAt.kept hst (Kept.of_below L1.out _)
  obtain ⟨a0, a3, a4, a5, a6, a7, a8, a9⟩ := X1.out.at_
  clear a3 a4 a6 a7 a8 a9
  rw [hkd] at a0
  have C := hide (rsaga_any (id := o.saga) h1 (by omega))
  rw [atS_none hx] at C
  generalize atS t o.saga = xs at C
  generalize atL t o.saga = xl at C
  clear hx hkd
  have ye := Y1.out
  rw [hW1, hd] at ye
  have YE := hide ye
  try rw [hW1, hd] at a0
  try rw [hW1, hd] at a3
  try rw [hW1, hd] at a4
  try rw [hW1, hd] at a5
  clear ye
  have HW1 := hide hW1.symm
  have HG := hide hd.symm
  clear h _hn hst hst1 _hw _hla hF hF1 hW1 hd h1 hlt
  go_enter Tryz.func12, Tryz.ntmps12
  go_wp2_with (fail)
  simp only [HW1.out, HG.out]
  refine C.out.mono ?_
  rintro e w2 ⟨p, m, c2, rfl, hs, hl2⟩
  obtain ⟨s2, hs2⟩ : ∃ s2, xs.withV p m c2 = s2 := ⟨_, rfl⟩
  rw [hs2]
  have S2 := hide hs
  have HS2 := hide hs2
  have L2 : Hid (Later W1 w2) := hl2
  have T2 : Hid (SBox 39 w2.heap.size SagaD.zero (w2.alloc (.cells #[.string ⟨#[]⟩, .slice none 0 0, .int .i64 0, .int .i64 0, .int .i64 0, .bool false, .bool false, .bool false, .bool false, .bool false, .bool false, .bool false, .bool false] 39 (0, 0)))) := heap_alloc_new _ _
  have L2b : Hid (Later w2 (w2.alloc (.cells #[.string ⟨#[]⟩, .slice none 0 0, .int .i64 0, .int .i64 0, .int .i64 0, .bool false, .bool false, .bool false, .bool false, .bool false, .bool false, .bool false, .bool false] 39 (0, 0)))) := (Below.refl _ _).alloc (Nat.le_refl _) _
  have HYS : Hid (d + 1 < w2.heap.size) := lt_of_block (Y1.out.below L2.out)
  clear hs hl2 C hs2 a0 a5
  go_wp2_with (refine wpList_rstore_saga (s := s2) (by rfl) _ _ (by rfl) (by rfl) T2.out (by rfl) ?_)
  intro w3 X3 G3
  have L3 : Hid (Later w2 w3) := L2b.out.grown G3 (by simp) (fun k hk => by have := Option.some.inj hk; omega)
  obtain ⟨y, hy⟩ : ∃ y, w2.heap.size = y := ⟨_, rfl⟩
  rw [hy] at X3 HYS
  have HYE := hide hy
  have Z3 := hide X3
  have L3a : Later W1 w2 := L2.out
  have L13 : Hid (Later W1 w3) := Later.trans L3a L3.out
  have Y3 : Hid (RBox (d + 1) (errR 0) w3) := Y1.out.below L13.out
  have X3o : Hid (OBox d o (.slice A n c) w3) := X1.out.below L13.out
  have H3 : Hid (RBookAt (fun i => F i ∧ i ≠ d + 1) w3 g most t) := H1.out.later L13.out
  clear X3 G3 L3a hy
  try rw [HYE.out]
  obtain ⟨a0, _, _, a5, a6, a7, a8, a9⟩ := X3o.out.at_
  clear a0 a5 a6 a7 a8 a9
  go_wp2_with (refine wpList_store_rep (r := errR 8) (by rfl) _ _ (by rfl) (by rfl) Y3.out (by rfl) ?_)
  intro w9 Z9 G9
  have HZ := hide Z9
  have T9 : Hid (Turned (fun i => i = d + 1) w3 w9) := Turned.of_grown G9 (fun g e => (Option.some.inj e).symm)
  clear Z9 G9
  go_wp2
  refine bodyPost_ret (results_cell_row Tryz.results12 _ _ (d + 1) 44 _ (0, 0) _ (by rfl) HZ.out Tryz.underlying44 (by rfl) (by kernel_rfl)) (by rfl) ?_
  have B9 := (H3.out).turned T9.out (by have := HYG.out; omega) (fun i hi => hi.2)
  have Lb : Later w W1 := L1.out
  have Lc : Later w w3 := Later.trans Lb L13.out
  have La : Turned (fun i => i = g) w w3 := Turned.of_below Lc _
  exact ⟨rfl, B9.mono (fun i _ hf => hf.1) HA.out, La.onto T9.out (fun i hi => .inr (by have := HY.out; omega))⟩
set_option maxHeartbeats 4000000 in
set_option maxRecDepth 100000 in
theorem rapply_st {F0 : Nat → Prop} {o : OpD} {A : Option Addr} {n c : Nat} (h : RBookAt F w g most t) (_hn : t.L.length ≤ 900) (hst : StepsAt F0 w (.slice A n c) o.steps) (_hw : o.wf) (_hla : t.last < 4611686018427387904) (hF : ∀ i, w.heap.size ≤ i → F i) (hkd : o.kind = 3) {x : Ent} (hx : entAt t.L o.saga = some x) :
    Calls Tryz.prog 12 #[.pointer (some ⟨g, 0, none⟩), .agg (o.cells (.slice A n c)).toArray] w (RDid F g most (⟨0, o.saga, x.s.st, x.s.step⟩) (t) w) := by
  have hlt := h.lt
  obtain ⟨W1, hW1⟩ : ∃ W1, W1 = (w.alloc (.cells (o.cells (.slice A n c)).toArray 33 (0, 0))).alloc (.cells #[.int .i64 0, .int .i64 0, .int .i64 0, .int .i64 0] 44 (0, 0)) := ⟨_, rfl⟩
  obtain ⟨d, hd⟩ : ∃ d, d = w.heap.size := ⟨_, rfl⟩
  have X1 : Hid (OBox d o (.slice A n c) W1) := by rw [hW1, hd]; exact (heap_alloc_old _ _ (by simp)).trans (heap_alloc_new _ _)
  have Y1 : Hid (RBox (d + 1) (errR 0) W1) := by rw [hW1, hd]; exact heap_second _ _ _
  have L1 : Hid (Later w W1) := by rw [hW1]; exact ((Below.refl _ _).alloc (Nat.le_refl _) _).alloc (by simp) _
  have HYG : Hid (g < d + 1) := by rw [hd]; show g < _; omega
  have HDG : Hid (g < d) := by rw [hd]; exact hlt
  have HY : Hid (w.heap.size ≤ d + 1) := by rw [hd]; exact Nat.le_succ _
  have HYW : Hid (d + 1 < W1.heap.size) := lt_of_block Y1.out
  have h1 : RBookAt (fun i => F i ∧ i ≠ d + 1) W1 g most t := (h.mono (G := fun i => F i ∧ i ≠ d + 1) (fun i hi hf => ⟨hf, by omega⟩) (fun e => h.apart e.1)).later L1.out
  have hF1 : ∀ i, W1.heap.size ≤ i → F i ∧ i ≠ d + 1 := fun i hi => by
    have a1 := Below.size L1.out
    have a2 := HYW.out
    exact ⟨hF i (by omega), by omega⟩
  have HF1 := hide hF1
  have H1 := hide h1
  have HA := hide h.apart
  have HNN := hide _hn
  have hst1 := StepsAt.kept hst (Kept.of_below L1.out _)
  obtain ⟨a0, a3, a4, a5, a6, a7, a8, a9⟩ := X1.out.at_
  clear a3 a4 a6 a7 a8 a9
  rw [hkd] at a0
  have HKD := hide hkd
  have C := hide (rsaga_any (id := o.saga) h1 (by omega))
  obtain ⟨e1, e2, e3⟩ := atS_some hx
  rw [e1, e2, e3] at C
  clear e1 e2 e3
  have HM := hide (entAt_mem hx)
  have HOK := hide (h.ok)
  have HSF : Hid (statusF t.L o.saga = ⟨0, o.saga, x.s.st, x.s.step⟩) := by show statusF t.L o.saga = _; unfold statusF; rw [hx]
  obtain ⟨rr, hrr⟩ : ∃ rr, (⟨0, o.saga, x.s.st, x.s.step⟩ : RepD) = rr := ⟨_, rfl⟩
  rw [hrr] at HSF ⊢
  clear hx hkd hrr
  have ye := Y1.out
  rw [hW1, hd] at ye
  have YE := hide ye
  try rw [hW1, hd] at a0
  try rw [hW1, hd] at a3
  try rw [hW1, hd] at a4
  try rw [hW1, hd] at a5
  clear ye
  have HW1 := hide hW1.symm
  have HG := hide hd.symm
  clear h _hn hst hst1 _hw _hla hF hF1 hW1 hd h1 hlt
  go_enter Tryz.func12, Tryz.ntmps12
  go_wp2_with (fail)
  simp only [HW1.out, HG.out]
  refine C.out.mono ?_
  rintro e w2 ⟨p, m, c2, rfl, hs, hl2⟩
  obtain ⟨s2, hs2⟩ : ∃ s2, x.s.withV p m c2 = s2 := ⟨_, rfl⟩
  rw [hs2]
  have S2 := hide hs
  have HS2 := hide hs2
  have L2 : Hid (Later W1 w2) := hl2
  have T2 : Hid (SBox 39 w2.heap.size SagaD.zero (w2.alloc (.cells #[.string ⟨#[]⟩, .slice none 0 0, .int .i64 0, .int .i64 0, .int .i64 0, .bool false, .bool false, .bool false, .bool false, .bool false, .bool false, .bool false, .bool false] 39 (0, 0)))) := heap_alloc_new _ _
  have L2b : Hid (Later w2 (w2.alloc (.cells #[.string ⟨#[]⟩, .slice none 0 0, .int .i64 0, .int .i64 0, .int .i64 0, .bool false, .bool false, .bool false, .bool false, .bool false, .bool false, .bool false, .bool false] 39 (0, 0)))) := (Below.refl _ _).alloc (Nat.le_refl _) _
  have HYS : Hid (d + 1 < w2.heap.size) := lt_of_block (Y1.out.below L2.out)
  clear hs hl2 C hs2 a0 a5
  go_wp2_with (refine wpList_rstore_saga (s := s2) (by rfl) _ _ (by rfl) (by rfl) T2.out (by rfl) ?_)
  intro w3 X3 G3
  have L3 : Hid (Later w2 w3) := L2b.out.grown G3 (by simp) (fun k hk => by have := Option.some.inj hk; omega)
  obtain ⟨y, hy⟩ : ∃ y, w2.heap.size = y := ⟨_, rfl⟩
  rw [hy] at X3 HYS
  have HYE := hide hy
  have Z3 := hide X3
  have L3a : Later W1 w2 := L2.out
  have L13 : Hid (Later W1 w3) := Later.trans L3a L3.out
  have Y3 : Hid (RBox (d + 1) (errR 0) w3) := Y1.out.below L13.out
  have X3o : Hid (OBox d o (.slice A n c) w3) := X1.out.below L13.out
  have H3 : Hid (RBookAt (fun i => F i ∧ i ≠ d + 1) w3 g most t) := H1.out.later L13.out
  clear X3 G3 L3a hy
  try rw [HYE.out]
  obtain ⟨a0, _, _, a5, a6, a7, a8, a9⟩ := X3o.out.at_
  rw [HKD.out] at a0
  have CS := hide (rstatus_any (id := o.saga) H3.out (by have := HNN.out; omega))
  have Y7 := Y3
  clear a6 a7 a8 a9
  go_wp2_with (fail)
  refine CS.out.mono ?_
  rintro e w8 ⟨rfl, hl8⟩
  have L8 := hide hl8
  have Y8 : Hid (RBox (d + 1) (errR 0) w8) := Y7.out.below L8.out
  clear hl8 CS
  try rw [HSF.out]
  go_wp2_with (refine wpList_store_rep (r := rr) (by rfl) _ _ (by rfl) (by rfl) Y8.out (by rfl) ?_)
  intro w9 Z9 G9
  have HZ := hide Z9
  have T9 : Hid (Turned (fun i => i = d + 1) w8 w9) := Turned.of_grown G9 (fun g e => (Option.some.inj e).symm)
  clear Z9 G9
  go_wp2
  refine bodyPost_ret (results_cell_row Tryz.results12 _ _ (d + 1) 44 _ (0, 0) _ (by rfl) HZ.out Tryz.underlying44 (by rfl) (by kernel_rfl)) (by rfl) ?_
  have B9 := (H3.out.later L8.out).turned T9.out (by have := HYG.out; omega) (fun i hi => hi.2)
  have L9a : Later W1 w3 := L13.out
  have L9 : Hid (Later W1 w8) := Later.trans L9a L8.out
  have Lb : Later w W1 := L1.out
  have Lc : Later w w8 := Later.trans Lb L9.out
  have La : Turned (fun i => i = g) w w8 := Turned.of_below Lc _
  exact ⟨rfl, B9.mono (fun i _ hf => hf.1) HA.out, La.onto T9.out (fun i hi => .inr (by have := HY.out; omega))⟩
set_option maxHeartbeats 4000000 in
set_option maxRecDepth 100000 in
theorem rapply_can_ok {F0 : Nat → Prop} {o : OpD} {A : Option Addr} {n c : Nat} (h : RBookAt F w g most t) (_hn : t.L.length ≤ 900) (hst : StepsAt F0 w (.slice A n c) o.steps) (_hw : o.wf) (_hla : t.last < 4611686018427387904) (hF : ∀ i, w.heap.size ≤ i → F i) (hkd : o.kind = 2) {x : Ent} (hx : entAt t.L o.saga = some x) (he : (cancelF x.l x.s).2 = 0) :
    Calls Tryz.prog 12 #[.pointer (some ⟨g, 0, none⟩), .agg (o.cells (.slice A n c)).toArray] w (RDid F g most (⟨0, o.saga, (cancelF x.l x.s).1.st, (cancelF x.l x.s).1.step⟩) (⟨t.last, putE ⟨o.saga, (cancelF x.l x.s).1, x.l⟩ t.L⟩) w) := by
  have hlt := h.lt
  obtain ⟨W1, hW1⟩ : ∃ W1, W1 = (w.alloc (.cells (o.cells (.slice A n c)).toArray 33 (0, 0))).alloc (.cells #[.int .i64 0, .int .i64 0, .int .i64 0, .int .i64 0] 44 (0, 0)) := ⟨_, rfl⟩
  obtain ⟨d, hd⟩ : ∃ d, d = w.heap.size := ⟨_, rfl⟩
  have X1 : Hid (OBox d o (.slice A n c) W1) := by rw [hW1, hd]; exact (heap_alloc_old _ _ (by simp)).trans (heap_alloc_new _ _)
  have Y1 : Hid (RBox (d + 1) (errR 0) W1) := by rw [hW1, hd]; exact heap_second _ _ _
  have L1 : Hid (Later w W1) := by rw [hW1]; exact ((Below.refl _ _).alloc (Nat.le_refl _) _).alloc (by simp) _
  have HYG : Hid (g < d + 1) := by rw [hd]; show g < _; omega
  have HDG : Hid (g < d) := by rw [hd]; exact hlt
  have HY : Hid (w.heap.size ≤ d + 1) := by rw [hd]; exact Nat.le_succ _
  have HYW : Hid (d + 1 < W1.heap.size) := lt_of_block Y1.out
  have h1 : RBookAt (fun i => F i ∧ i ≠ d + 1) W1 g most t := (h.mono (G := fun i => F i ∧ i ≠ d + 1) (fun i hi hf => ⟨hf, by omega⟩) (fun e => h.apart e.1)).later L1.out
  have hF1 : ∀ i, W1.heap.size ≤ i → F i ∧ i ≠ d + 1 := fun i hi => by
    have a1 := Below.size L1.out
    have a2 := HYW.out
    exact ⟨hF i (by omega), by omega⟩
  have HF1 := hide hF1
  have H1 := hide h1
  have HA := hide h.apart
  have HNN := hide _hn
  have hst1 := StepsAt.kept hst (Kept.of_below L1.out _)
  obtain ⟨a0, a3, a4, a5, a6, a7, a8, a9⟩ := X1.out.at_
  clear a3 a4 a6 a7 a8 a9
  rw [hkd] at a0
  have HKD := hide hkd
  have C := hide (rsaga_any (id := o.saga) h1 (by omega))
  obtain ⟨e1, e2, e3⟩ := atS_some hx
  rw [e1, e2, e3] at C
  clear e1 e2 e3
  have HM := hide (entAt_mem hx)
  have HOK := hide (h.ok)
  have HID : Hid (x.id = o.saga) := (entAt_mem hx).2
  have HXO : Hid (EntOk x ∧ x.id ≤ 4611686018427387904) := h.ok.2.1 x (entAt_mem hx).1
  have HST : Hid (0 ≤ ((cancelF x.l x.s).1).step ∧ ((cancelF x.l x.s).1).step ≤ 9) := cancelV_step he
  obtain ⟨zz, hzz⟩ : ∃ zz, (cancelF x.l x.s).1 = zz := ⟨_, rfl⟩
  have HZQ := hide hzz
  obtain ⟨rr, hrr⟩ : ∃ rr, (⟨0, o.saga, zz.st, zz.step⟩ : RepD) = rr := ⟨_, rfl⟩
  have HRR2 := hide hrr
  rw [hzz, hrr]
  rw [hzz] at HST
  clear hzz hrr
  have HE := hide he
  clear hx hkd he
  have ye := Y1.out
  rw [hW1, hd] at ye
  have YE := hide ye
  try rw [hW1, hd] at a0
  try rw [hW1, hd] at a3
  try rw [hW1, hd] at a4
  try rw [hW1, hd] at a5
  clear ye
  have HW1 := hide hW1.symm
  have HG := hide hd.symm
  clear h _hn hst hst1 _hw _hla hF hF1 hW1 hd h1 hlt
  go_enter Tryz.func12, Tryz.ntmps12
  go_wp2_with (fail)
  simp only [HW1.out, HG.out]
  refine C.out.mono ?_
  rintro e w2 ⟨p, m, c2, rfl, hs, hl2⟩
  obtain ⟨s2, hs2⟩ : ∃ s2, x.s.withV p m c2 = s2 := ⟨_, rfl⟩
  rw [hs2]
  have S2 := hide hs
  have HS2 := hide hs2
  have L2 : Hid (Later W1 w2) := hl2
  have T2 : Hid (SBox 39 w2.heap.size SagaD.zero (w2.alloc (.cells #[.string ⟨#[]⟩, .slice none 0 0, .int .i64 0, .int .i64 0, .int .i64 0, .bool false, .bool false, .bool false, .bool false, .bool false, .bool false, .bool false, .bool false] 39 (0, 0)))) := heap_alloc_new _ _
  have L2b : Hid (Later w2 (w2.alloc (.cells #[.string ⟨#[]⟩, .slice none 0 0, .int .i64 0, .int .i64 0, .int .i64 0, .bool false, .bool false, .bool false, .bool false, .bool false, .bool false, .bool false, .bool false] 39 (0, 0)))) := (Below.refl _ _).alloc (Nat.le_refl _) _
  have HYS : Hid (d + 1 < w2.heap.size) := lt_of_block (Y1.out.below L2.out)
  clear hs hl2 C hs2 a0 a5
  go_wp2_with (refine wpList_rstore_saga (s := s2) (by rfl) _ _ (by rfl) (by rfl) T2.out (by rfl) ?_)
  intro w3 X3 G3
  have L3 : Hid (Later w2 w3) := L2b.out.grown G3 (by simp) (fun k hk => by have := Option.some.inj hk; omega)
  obtain ⟨y, hy⟩ : ∃ y, w2.heap.size = y := ⟨_, rfl⟩
  rw [hy] at X3 HYS
  have HYE := hide hy
  have Z3 := hide X3
  have L3a : Later W1 w2 := L2.out
  have L13 : Hid (Later W1 w3) := Later.trans L3a L3.out
  have Y3 : Hid (RBox (d + 1) (errR 0) w3) := Y1.out.below L13.out
  have X3o : Hid (OBox d o (.slice A n c) w3) := X1.out.below L13.out
  have H3 : Hid (RBookAt (fun i => F i ∧ i ≠ d + 1) w3 g most t) := H1.out.later L13.out
  clear X3 G3 L3a hy
  try rw [HYE.out]
  obtain ⟨a0, _, _, a5, a6, a7, a8, a9⟩ := X3o.out.at_
  rw [HKD.out] at a0
  have HSI : Hid (I64 s2.step) := by rw [← HS2.out]; have := HXO.out.1.2.2.1; exact ⟨by show _ ≤ x.s.step; omega, by show x.s.step < _; omega⟩
  have HSV : Hid (StepsAt (fun i => F i ∧ i ≠ d + 1) w3 s2.v x.l) := by rw [← HS2.out]; exact StepsAt.kept S2.out (Kept.of_below L3.out _)
  have CE := hide (rcancel_any HSV.out HXO.out.1.1 HSI.out (by have := HXO.out.1.2.1; omega))
  have HZ0 : Hid ((rcancelF x.l s2).2 = 0 ∧ (rcancelF x.l s2).1 = ((cancelF x.l x.s).1).withV p m c2) := by
    rw [← HS2.out]
    obtain ⟨e1, e2⟩ := rcancel_same x.l x.s p m c2
    exact ⟨e1.trans HE.out, e2 HE.out⟩
  rw [HZ0.out.1, HZ0.out.2] at CE
  rw [HZQ.out] at CE
  obtain ⟨z, hz⟩ : ∃ z, zz.withV p m c2 = z := ⟨_, rfl⟩
  rw [hz] at CE
  have HZZ := hide hz
  clear hz
  go_wp2_with (refine wpList_rload_saga (by rfl) _ (by rfl) (by rfl) Z3.out ?_)
  refine CE.out.mono ?_
  rintro e w4 ⟨rfl, hl4⟩
  have L4 : Hid (Later w3 w4) := hl4
  have T4 : Hid (SBox 39 w4.heap.size SagaD.zero (w4.alloc (.cells #[.string ⟨#[]⟩, .slice none 0 0, .int .i64 0, .int .i64 0, .int .i64 0, .bool false, .bool false, .bool false, .bool false, .bool false, .bool false, .bool false, .bool false] 39 (0, 0)))) := heap_alloc_new _ _
  have L4b : Hid (Later w4 (w4.alloc (.cells #[.string ⟨#[]⟩, .slice none 0 0, .int .i64 0, .int .i64 0, .int .i64 0, .bool false, .bool false, .bool false, .bool false, .bool false, .bool false, .bool false, .bool false] 39 (0, 0)))) := (Below.refl _ _).alloc (Nat.le_refl _) _
  clear hl4 CE a0 a5 a6 a7 a8 a9
  go_wp2_with (refine wpList_rstore_saga (s := z) (by rfl) _ _ (by rfl) (by rfl) T4.out (by rfl) ?_)
  intro w5 X5 G5
  have L5 : Hid (Later w4 w5) := L4b.out.grown G5 (by simp) (fun k hk => by have := Option.some.inj hk; omega)
  obtain ⟨y5, hy5⟩ : ∃ y5, w4.heap.size = y5 := ⟨_, rfl⟩
  rw [hy5] at X5
  have HYE5 := hide hy5
  have Z5 := hide X5
  have L5a : Later w3 w4 := L4.out
  have L35 : Hid (Later w3 w5) := Later.trans L5a L5.out
  have L5b : Later W1 w3 := L13.out
  have L15 : Hid (Later W1 w5) := Later.trans L5b L35.out
  have Y5 : Hid (RBox (d + 1) (errR 0) w5) := Y1.out.below L15.out
  have X5o : Hid (OBox d o (.slice A n c) w5) := X1.out.below L15.out
  have H5 : Hid (RBookAt (fun i => F i ∧ i ≠ d + 1) w5 g most t) := H1.out.later L15.out
  clear X5 G5 L5a L5b hy5
  try rw [HYE5.out]
  obtain ⟨_, _, _, a5, _⟩ := X5o.out.at_
  have HPS : Hid (StepsAt (fun i => F i ∧ i ≠ d + 1) w5 (.slice p m c2) x.l) := by
    have a1 := StepsAt.kept HSV.out (Kept.of_below L35.out _)
    rw [← HS2.out] at a1
    exact a1
  have CP := hide (rput_any (x := ⟨o.saga, zz, x.l⟩) (p := p) (n9 := m) (c9 := c2) H5.out HPS.out ⟨⟨HXO.out.1.1, HXO.out.1.2.1, HST.out, by show (1 : Int) ≤ o.saga; have := HXO.out.1.2.2.2; have := HID.out; omega⟩, by show o.saga ≤ _; have := HXO.out.2; have := HID.out; omega⟩ (fun i hi => HF1.out i (by have := Below.size L15.out; omega)) HNN.out)
  rw [show (⟨o.saga, zz, x.l⟩ : Ent).s.withV p m c2 = z from HZZ.out] at CP
  change Hid (Calls Tryz.prog 36 #[.pointer (some ⟨g, 0, none⟩), .int .i64 o.saga, z.val] w5 _) at CP
  go_wp2_with (refine wpList_rload_saga (by rfl) _ (by rfl) (by rfl) Z5.out ?_)
  refine CP.out.mono ?_
  rintro e w7 ⟨rfl, hb7, ht7⟩
  have H7 := hide hb7
  have T7 := hide ht7
  have Y7 : Hid (RBox (d + 1) (errR 0) w7) := Y5.out.turned T7.out (by have := HYG.out; omega)
  have X7o : Hid (OBox d o (.slice A n c) w7) := X5o.out.turned T7.out (by have := HDG.out; omega)
  clear hb7 ht7 CP a5
  obtain ⟨_, _, _, a5, _⟩ := X7o.out.at_
  have HRR : Hid (RiseE t.L) := HOK.out.1
  have HSF : Hid (statusF (putE ⟨o.saga, zz, x.l⟩ t.L) o.saga = ⟨0, o.saga, zz.st, zz.step⟩) := statusF_put ⟨o.saga, zz, x.l⟩ HRR.out
  have CS := hide (rstatus_any (id := o.saga) H7.out (by have a1 := putE_len_is (x := ⟨o.saga, zz, x.l⟩) HRR.out ⟨x, HM.out.1, HID.out⟩; have := HNN.out; show (putE ⟨o.saga, zz, x.l⟩ t.L).length ≤ 1000000; omega))
  change Hid (Calls _ _ _ _ (Gives (statusF (putE ⟨o.saga, zz, x.l⟩ t.L) o.saga).val w7)) at CS
  rw [HSF.out, HRR2.out] at CS
  go_wp2_with (fail)
  refine CS.out.mono ?_
  rintro e w8 ⟨rfl, hl8⟩
  have L8 := hide hl8
  have Y8 : Hid (RBox (d + 1) (errR 0) w8) := Y7.out.below L8.out
  clear hl8 CS
  go_wp2_with (refine wpList_store_rep (r := rr) (by rfl) _ _ (by rfl) (by rfl) Y8.out (by rfl) ?_)
  intro w9 Z9 G9
  have HZ := hide Z9
  have T9 : Hid (Turned (fun i => i = d + 1) w8 w9) := Turned.of_grown G9 (fun g e => (Option.some.inj e).symm)
  clear Z9 G9
  go_wp2
  refine bodyPost_ret (results_cell_row Tryz.results12 _ _ (d + 1) 44 _ (0, 0) _ (by rfl) HZ.out Tryz.underlying44 (by rfl) (by kernel_rfl)) (by rfl) ?_
  have B9 := (H7.out.later L8.out).turned T9.out (by have := HYG.out; omega) (fun i hi => hi.2)
  have Lb : Later w W1 := L1.out
  have Lc : Later w w5 := Later.trans Lb L15.out
  have La1 : Turned (fun i => i = g) w w5 := Turned.of_below Lc _
  have La2 : Turned (fun i => i = g) w w7 := La1.trans T7.out
  have La : Turned (fun i => i = g) w w8 := La2.trans (Turned.of_below L8.out _)
  exact ⟨rfl, B9.mono (fun i _ hf => hf.1) HA.out, La.onto T9.out (fun i hi => .inr (by have := HY.out; omega))⟩
set_option maxHeartbeats 4000000 in
set_option maxRecDepth 100000 in
theorem rapply_can_no {F0 : Nat → Prop} {o : OpD} {A : Option Addr} {n c : Nat} (h : RBookAt F w g most t) (_hn : t.L.length ≤ 900) (hst : StepsAt F0 w (.slice A n c) o.steps) (_hw : o.wf) (_hla : t.last < 4611686018427387904) (hF : ∀ i, w.heap.size ≤ i → F i) (hkd : o.kind = 2) {x : Ent} (hx : entAt t.L o.saga = some x) (he : (cancelF x.l x.s).2 ≠ 0) :
    Calls Tryz.prog 12 #[.pointer (some ⟨g, 0, none⟩), .agg (o.cells (.slice A n c)).toArray] w (RDid F g most (errR (cancelF x.l x.s).2) (t) w) := by
  have hlt := h.lt
  obtain ⟨W1, hW1⟩ : ∃ W1, W1 = (w.alloc (.cells (o.cells (.slice A n c)).toArray 33 (0, 0))).alloc (.cells #[.int .i64 0, .int .i64 0, .int .i64 0, .int .i64 0] 44 (0, 0)) := ⟨_, rfl⟩
  obtain ⟨d, hd⟩ : ∃ d, d = w.heap.size := ⟨_, rfl⟩
  have X1 : Hid (OBox d o (.slice A n c) W1) := by rw [hW1, hd]; exact (heap_alloc_old _ _ (by simp)).trans (heap_alloc_new _ _)
  have Y1 : Hid (RBox (d + 1) (errR 0) W1) := by rw [hW1, hd]; exact heap_second _ _ _
  have L1 : Hid (Later w W1) := by rw [hW1]; exact ((Below.refl _ _).alloc (Nat.le_refl _) _).alloc (by simp) _
  have HYG : Hid (g < d + 1) := by rw [hd]; show g < _; omega
  have HDG : Hid (g < d) := by rw [hd]; exact hlt
  have HY : Hid (w.heap.size ≤ d + 1) := by rw [hd]; exact Nat.le_succ _
  have HYW : Hid (d + 1 < W1.heap.size) := lt_of_block Y1.out
  have h1 : RBookAt (fun i => F i ∧ i ≠ d + 1) W1 g most t := (h.mono (G := fun i => F i ∧ i ≠ d + 1) (fun i hi hf => ⟨hf, by omega⟩) (fun e => h.apart e.1)).later L1.out
  have hF1 : ∀ i, W1.heap.size ≤ i → F i ∧ i ≠ d + 1 := fun i hi => by
    have a1 := Below.size L1.out
    have a2 := HYW.out
    exact ⟨hF i (by omega), by omega⟩
  have HF1 := hide hF1
  have H1 := hide h1
  have HA := hide h.apart
  have HNN := hide _hn
  have hst1 := StepsAt.kept hst (Kept.of_below L1.out _)
  obtain ⟨a0, a3, a4, a5, a6, a7, a8, a9⟩ := X1.out.at_
  clear a3 a4 a6 a7 a8 a9
  rw [hkd] at a0
  have HKD := hide hkd
  have C := hide (rsaga_any (id := o.saga) h1 (by omega))
  obtain ⟨e1, e2, e3⟩ := atS_some hx
  rw [e1, e2, e3] at C
  clear e1 e2 e3
  have HM := hide (entAt_mem hx)
  have HOK := hide (h.ok)
  have HID : Hid (x.id = o.saga) := (entAt_mem hx).2
  have HXO : Hid (EntOk x ∧ x.id ≤ 4611686018427387904) := h.ok.2.1 x (entAt_mem hx).1
  obtain ⟨er, her⟩ : ∃ er, (cancelF x.l x.s).2 = er := ⟨_, rfl⟩
  have HER := hide her
  rw [her]
  clear her
  have HE := hide he
  clear hx hkd he
  have ye := Y1.out
  rw [hW1, hd] at ye
  have YE := hide ye
  try rw [hW1, hd] at a0
  try rw [hW1, hd] at a3
  try rw [hW1, hd] at a4
  try rw [hW1, hd] at a5
  clear ye
  have HW1 := hide hW1.symm
  have HG := hide hd.symm
  clear h _hn hst hst1 _hw _hla hF hF1 hW1 hd h1 hlt
  go_enter Tryz.func12, Tryz.ntmps12
  go_wp2_with (fail)
  simp only [HW1.out, HG.out]
  refine C.out.mono ?_
  rintro e w2 ⟨p, m, c2, rfl, hs, hl2⟩
  obtain ⟨s2, hs2⟩ : ∃ s2, x.s.withV p m c2 = s2 := ⟨_, rfl⟩
  rw [hs2]
  have S2 := hide hs
  have HS2 := hide hs2
  have L2 : Hid (Later W1 w2) := hl2
  have T2 : Hid (SBox 39 w2.heap.size SagaD.zero (w2.alloc (.cells #[.string ⟨#[]⟩, .slice none 0 0, .int .i64 0, .int .i64 0, .int .i64 0, .bool false, .bool false, .bool false, .bool false, .bool false, .bool false, .bool false, .bool false] 39 (0, 0)))) := heap_alloc_new _ _
  have L2b : Hid (Later w2 (w2.alloc (.cells #[.string ⟨#[]⟩, .slice none 0 0, .int .i64 0, .int .i64 0, .int .i64 0, .bool false, .bool false, .bool false, .bool false, .bool false, .bool false, .bool false, .bool false] 39 (0, 0)))) := (Below.refl _ _).alloc (Nat.le_refl _) _
  have HYS : Hid (d + 1 < w2.heap.size) := lt_of_block (Y1.out.below L2.out)
  clear hs hl2 C hs2 a0 a5
  go_wp2_with (refine wpList_rstore_saga (s := s2) (by rfl) _ _ (by rfl) (by rfl) T2.out (by rfl) ?_)
  intro w3 X3 G3
  have L3 : Hid (Later w2 w3) := L2b.out.grown G3 (by simp) (fun k hk => by have := Option.some.inj hk; omega)
  obtain ⟨y, hy⟩ : ∃ y, w2.heap.size = y := ⟨_, rfl⟩
  rw [hy] at X3 HYS
  have HYE := hide hy
  have Z3 := hide X3
  have L3a : Later W1 w2 := L2.out
  have L13 : Hid (Later W1 w3) := Later.trans L3a L3.out
  have Y3 : Hid (RBox (d + 1) (errR 0) w3) := Y1.out.below L13.out
  have X3o : Hid (OBox d o (.slice A n c) w3) := X1.out.below L13.out
  have H3 : Hid (RBookAt (fun i => F i ∧ i ≠ d + 1) w3 g most t) := H1.out.later L13.out
  clear X3 G3 L3a hy
  try rw [HYE.out]
  obtain ⟨a0, _, _, a5, a6, a7, a8, a9⟩ := X3o.out.at_
  rw [HKD.out] at a0
  have HSI : Hid (I64 s2.step) := by rw [← HS2.out]; have := HXO.out.1.2.2.1; exact ⟨by show _ ≤ x.s.step; omega, by show x.s.step < _; omega⟩
  have HSV : Hid (StepsAt (fun i => F i ∧ i ≠ d + 1) w3 s2.v x.l) := by rw [← HS2.out]; exact StepsAt.kept S2.out (Kept.of_below L3.out _)
  have CE := hide (rcancel_any HSV.out HXO.out.1.1 HSI.out (by have := HXO.out.1.2.1; omega))
  have HZ0 : Hid ((rcancelF x.l s2).2 = (cancelF x.l x.s).2) := by
    rw [← HS2.out]
    exact (rcancel_same x.l x.s p m c2).1
  rw [HZ0.out] at CE
  generalize (rcancelF x.l s2).1 = z at CE
  rw [HER.out] at CE
  have he0 : (er == 0) = false := by have := HE.out; rw [HER.out] at this; simpa using this
  have he1 : (er != 0) = true := by have := HE.out; rw [HER.out] at this; simpa using this
  go_wp2_with (refine wpList_rload_saga (by rfl) _ (by rfl) (by rfl) Z3.out ?_)
  refine CE.out.mono ?_
  rintro e w4 ⟨rfl, hl4⟩
  have L4 : Hid (Later w3 w4) := hl4
  have T4 : Hid (SBox 39 w4.heap.size SagaD.zero (w4.alloc (.cells #[.string ⟨#[]⟩, .slice none 0 0, .int .i64 0, .int .i64 0, .int .i64 0, .bool false, .bool false, .bool false, .bool false, .bool false, .bool false, .bool false, .bool false] 39 (0, 0)))) := heap_alloc_new _ _
  have L4b : Hid (Later w4 (w4.alloc (.cells #[.string ⟨#[]⟩, .slice none 0 0, .int .i64 0, .int .i64 0, .int .i64 0, .bool false, .bool false, .bool false, .bool false, .bool false, .bool false, .bool false, .bool false] 39 (0, 0)))) := (Below.refl _ _).alloc (Nat.le_refl _) _
  clear hl4 CE a0 a5 a6 a7 a8 a9
  go_wp2_with (refine wpList_rstore_saga (s := z) (by rfl) _ _ (by rfl) (by rfl) T4.out (by rfl) ?_)
  intro w5 X5 G5
  have L5 : Hid (Later w4 w5) := L4b.out.grown G5 (by simp) (fun k hk => by have := Option.some.inj hk; omega)
  obtain ⟨y5, hy5⟩ : ∃ y5, w4.heap.size = y5 := ⟨_, rfl⟩
  rw [hy5] at X5
  have HYE5 := hide hy5
  have Z5 := hide X5
  have L5a : Later w3 w4 := L4.out
  have L35 : Hid (Later w3 w5) := Later.trans L5a L5.out
  have L5b : Later W1 w3 := L13.out
  have L15 : Hid (Later W1 w5) := Later.trans L5b L35.out
  have Y5 : Hid (RBox (d + 1) (errR 0) w5) := Y1.out.below L15.out
  have X5o : Hid (OBox d o (.slice A n c) w5) := X1.out.below L15.out
  have H5 : Hid (RBookAt (fun i => F i ∧ i ≠ d + 1) w5 g most t) := H1.out.later L15.out
  clear X5 G5 L5a L5b hy5
  try rw [HYE5.out]
  obtain ⟨_, _, _, a5, _⟩ := X5o.out.at_
  clear a5
  go_wp2_with (refine wpList_store_rep (r := errR er) (by rfl) _ _ (by rfl) (by rfl) Y5.out (by rfl) ?_)
  intro w9 Z9 G9
  have HZ := hide Z9
  have T9 : Hid (Turned (fun i => i = d + 1) w5 w9) := Turned.of_grown G9 (fun g e => (Option.some.inj e).symm)
  clear Z9 G9
  go_wp2
  refine bodyPost_ret (results_cell_row Tryz.results12 _ _ (d + 1) 44 _ (0, 0) _ (by rfl) HZ.out Tryz.underlying44 (by rfl) (by kernel_rfl)) (by rfl) ?_
  have B9 := (H5.out).turned T9.out (by have := HYG.out; omega) (fun i hi => hi.2)
  have Lb : Later w W1 := L1.out
  have Lc : Later w w5 := Later.trans Lb L15.out
  have La : Turned (fun i => i = g) w w5 := Turned.of_below Lc _
  exact ⟨rfl, B9.mono (fun i _ hf => hf.1) HA.out, La.onto T9.out (fun i hi => .inr (by have := HY.out; omega))⟩
set_option maxHeartbeats 4000000 in
set_option maxRecDepth 100000 in
theorem rapply_rep_ok {F0 : Nat → Prop} {o : OpD} {A : Option Addr} {n c : Nat} (h : RBookAt F w g most t) (_hn : t.L.length ≤ 900) (hst : StepsAt F0 w (.slice A n c) o.steps) (_hw : o.wf) (_hla : t.last < 4611686018427387904) (hF : ∀ i, w.heap.size ≤ i → F i) (hkd : o.kind = 4) {x : Ent} (hx : entAt t.L o.saga = some x) (he : isIt x.l x.s o.step o.try_ o.back = true) :
    Calls Tryz.prog 12 #[.pointer (some ⟨g, 0, none⟩), .agg (o.cells (.slice A n c)).toArray] w (RDid F g most (⟨0, o.saga, (reportE x.l x.s o.back o.good).st, (reportE x.l x.s o.back o.good).step⟩) (⟨t.last, putE ⟨o.saga, reportE x.l x.s o.back o.good, x.l⟩ t.L⟩) w) := by
  have hlt := h.lt
  obtain ⟨W1, hW1⟩ : ∃ W1, W1 = (w.alloc (.cells (o.cells (.slice A n c)).toArray 33 (0, 0))).alloc (.cells #[.int .i64 0, .int .i64 0, .int .i64 0, .int .i64 0] 44 (0, 0)) := ⟨_, rfl⟩
  obtain ⟨d, hd⟩ : ∃ d, d = w.heap.size := ⟨_, rfl⟩
  have X1 : Hid (OBox d o (.slice A n c) W1) := by rw [hW1, hd]; exact (heap_alloc_old _ _ (by simp)).trans (heap_alloc_new _ _)
  have Y1 : Hid (RBox (d + 1) (errR 0) W1) := by rw [hW1, hd]; exact heap_second _ _ _
  have L1 : Hid (Later w W1) := by rw [hW1]; exact ((Below.refl _ _).alloc (Nat.le_refl _) _).alloc (by simp) _
  have HYG : Hid (g < d + 1) := by rw [hd]; show g < _; omega
  have HDG : Hid (g < d) := by rw [hd]; exact hlt
  have HY : Hid (w.heap.size ≤ d + 1) := by rw [hd]; exact Nat.le_succ _
  have HYW : Hid (d + 1 < W1.heap.size) := lt_of_block Y1.out
  have h1 : RBookAt (fun i => F i ∧ i ≠ d + 1) W1 g most t := (h.mono (G := fun i => F i ∧ i ≠ d + 1) (fun i hi hf => ⟨hf, by omega⟩) (fun e => h.apart e.1)).later L1.out
  have hF1 : ∀ i, W1.heap.size ≤ i → F i ∧ i ≠ d + 1 := fun i hi => by
    have a1 := Below.size L1.out
    have a2 := HYW.out
    exact ⟨hF i (by omega), by omega⟩
  have HF1 := hide hF1
  have H1 := hide h1
  have HA := hide h.apart
  have HNN := hide _hn
  have hst1 := StepsAt.kept hst (Kept.of_below L1.out _)
  obtain ⟨a0, a3, a4, a5, a6, a7, a8, a9⟩ := X1.out.at_
  clear a3 a4 a6 a7 a8 a9
  rw [hkd] at a0
  have HKD := hide hkd
  have C := hide (rsaga_any (id := o.saga) h1 (by omega))
  obtain ⟨e1, e2, e3⟩ := atS_some hx
  rw [e1, e2, e3] at C
  clear e1 e2 e3
  have HM := hide (entAt_mem hx)
  have HOK := hide (h.ok)
  have HID : Hid (x.id = o.saga) := (entAt_mem hx).2
  have HXO : Hid (EntOk x ∧ x.id ≤ 4611686018427387904) := h.ok.2.1 x (entAt_mem hx).1
  have HST : Hid (0 ≤ (reportE x.l x.s o.back o.good).step ∧ (reportE x.l x.s o.back o.good).step ≤ 9) := reportE_step o.back o.good (isIt_wants he)
  obtain ⟨zz, hzz⟩ : ∃ zz, reportE x.l x.s o.back o.good = zz := ⟨_, rfl⟩
  have HZQ := hide hzz
  obtain ⟨rr, hrr⟩ : ∃ rr, (⟨0, o.saga, zz.st, zz.step⟩ : RepD) = rr := ⟨_, rfl⟩
  have HRR2 := hide hrr
  rw [hzz, hrr]
  rw [hzz] at HST
  clear hzz hrr
  have HE := hide he
  clear hx hkd he
  have ye := Y1.out
  rw [hW1, hd] at ye
  have YE := hide ye
  try rw [hW1, hd] at a0
  try rw [hW1, hd] at a3
  try rw [hW1, hd] at a4
  try rw [hW1, hd] at a5
  clear ye
  have HW1 := hide hW1.symm
  have HG := hide hd.symm
  clear h _hn hst hst1 _hw _hla hF hF1 hW1 hd h1 hlt
  go_enter Tryz.func12, Tryz.ntmps12
  go_wp2_with (fail)
  simp only [HW1.out, HG.out]
  refine C.out.mono ?_
  rintro e w2 ⟨p, m, c2, rfl, hs, hl2⟩
  obtain ⟨s2, hs2⟩ : ∃ s2, x.s.withV p m c2 = s2 := ⟨_, rfl⟩
  rw [hs2]
  have S2 := hide hs
  have HS2 := hide hs2
  have L2 : Hid (Later W1 w2) := hl2
  have T2 : Hid (SBox 39 w2.heap.size SagaD.zero (w2.alloc (.cells #[.string ⟨#[]⟩, .slice none 0 0, .int .i64 0, .int .i64 0, .int .i64 0, .bool false, .bool false, .bool false, .bool false, .bool false, .bool false, .bool false, .bool false] 39 (0, 0)))) := heap_alloc_new _ _
  have L2b : Hid (Later w2 (w2.alloc (.cells #[.string ⟨#[]⟩, .slice none 0 0, .int .i64 0, .int .i64 0, .int .i64 0, .bool false, .bool false, .bool false, .bool false, .bool false, .bool false, .bool false, .bool false] 39 (0, 0)))) := (Below.refl _ _).alloc (Nat.le_refl _) _
  have HYS : Hid (d + 1 < w2.heap.size) := lt_of_block (Y1.out.below L2.out)
  clear hs hl2 C hs2 a0 a5
  go_wp2_with (refine wpList_rstore_saga (s := s2) (by rfl) _ _ (by rfl) (by rfl) T2.out (by rfl) ?_)
  intro w3 X3 G3
  have L3 : Hid (Later w2 w3) := L2b.out.grown G3 (by simp) (fun k hk => by have := Option.some.inj hk; omega)
  obtain ⟨y, hy⟩ : ∃ y, w2.heap.size = y := ⟨_, rfl⟩
  rw [hy] at X3 HYS
  have HYE := hide hy
  have Z3 := hide X3
  have L3a : Later W1 w2 := L2.out
  have L13 : Hid (Later W1 w3) := Later.trans L3a L3.out
  have Y3 : Hid (RBox (d + 1) (errR 0) w3) := Y1.out.below L13.out
  have X3o : Hid (OBox d o (.slice A n c) w3) := X1.out.below L13.out
  have H3 : Hid (RBookAt (fun i => F i ∧ i ≠ d + 1) w3 g most t) := H1.out.later L13.out
  clear X3 G3 L3a hy
  try rw [HYE.out]
  obtain ⟨a0, _, _, a5, a6, a7, a8, a9⟩ := X3o.out.at_
  rw [HKD.out] at a0
  have HSI : Hid (I64 s2.step) := by rw [← HS2.out]; have := HXO.out.1.2.2.1; exact ⟨by show _ ≤ x.s.step; omega, by show x.s.step < _; omega⟩
  have HSV : Hid (StepsAt (fun i => F i ∧ i ≠ d + 1) w3 s2.v x.l) := by rw [← HS2.out]; exact StepsAt.kept S2.out (Kept.of_below L3.out _)
  have CE := hide (rreport_any (step := o.step) (tr := o.try_) (back := o.back) (good := o.good) HSV.out HXO.out.1.1 HSI.out)
  have HZ0 : Hid (isIt x.l s2 o.step o.try_ o.back = true ∧ reportF x.l s2 o.step o.try_ o.back o.good = (reportE x.l x.s o.back o.good).withV p m c2) := by
    rw [← HS2.out]
    exact ⟨HE.out, reportF_V p m c2 HE.out⟩
  rw [HZ0.out.1, HZ0.out.2] at CE
  rw [HZQ.out] at CE
  obtain ⟨z, hz⟩ : ∃ z, zz.withV p m c2 = z := ⟨_, rfl⟩
  rw [hz] at CE
  have HZZ := hide hz
  clear hz
  go_wp2_with (refine wpList_rload_saga (by rfl) _ (by rfl) (by rfl) Z3.out ?_)
  refine CE.out.mono ?_
  rintro e w4 ⟨rfl, hl4⟩
  have L4 : Hid (Later w3 w4) := hl4
  have T4 : Hid (SBox 39 w4.heap.size SagaD.zero (w4.alloc (.cells #[.string ⟨#[]⟩, .slice none 0 0, .int .i64 0, .int .i64 0, .int .i64 0, .bool false, .bool false, .bool false, .bool false, .bool false, .bool false, .bool false, .bool false] 39 (0, 0)))) := heap_alloc_new _ _
  have L4b : Hid (Later w4 (w4.alloc (.cells #[.string ⟨#[]⟩, .slice none 0 0, .int .i64 0, .int .i64 0, .int .i64 0, .bool false, .bool false, .bool false, .bool false, .bool false, .bool false, .bool false, .bool false] 39 (0, 0)))) := (Below.refl _ _).alloc (Nat.le_refl _) _
  clear hl4 CE a0 a5 a6 a7 a8 a9
  go_wp2_with (refine wpList_rstore_saga (s := z) (by rfl) _ _ (by rfl) (by rfl) T4.out (by rfl) ?_)
  intro w5 X5 G5
  have L5 : Hid (Later w4 w5) := L4b.out.grown G5 (by simp) (fun k hk => by have := Option.some.inj hk; omega)
  obtain ⟨y5, hy5⟩ : ∃ y5, w4.heap.size = y5 := ⟨_, rfl⟩
  rw [hy5] at X5
  have HYE5 := hide hy5
  have Z5 := hide X5
  have L5a : Later w3 w4 := L4.out
  have L35 : Hid (Later w3 w5) := Later.trans L5a L5.out
  have L5b : Later W1 w3 := L13.out
  have L15 : Hid (Later W1 w5) := Later.trans L5b L35.out
  have Y5 : Hid (RBox (d + 1) (errR 0) w5) := Y1.out.below L15.out
  have X5o : Hid (OBox d o (.slice A n c) w5) := X1.out.below L15.out
  have H5 : Hid (RBookAt (fun i => F i ∧ i ≠ d + 1) w5 g most t) := H1.out.later L15.out
  clear X5 G5 L5a L5b hy5
  try rw [HYE5.out]
  obtain ⟨_, _, _, a5, _⟩ := X5o.out.at_
  have HPS : Hid (StepsAt (fun i => F i ∧ i ≠ d + 1) w5 (.slice p m c2) x.l) := by
    have a1 := StepsAt.kept HSV.out (Kept.of_below L35.out _)
    rw [← HS2.out] at a1
    exact a1
  have CP := hide (rput_any (x := ⟨o.saga, zz, x.l⟩) (p := p) (n9 := m) (c9 := c2) H5.out HPS.out ⟨⟨HXO.out.1.1, HXO.out.1.2.1, HST.out, by show (1 : Int) ≤ o.saga; have := HXO.out.1.2.2.2; have := HID.out; omega⟩, by show o.saga ≤ _; have := HXO.out.2; have := HID.out; omega⟩ (fun i hi => HF1.out i (by have := Below.size L15.out; omega)) HNN.out)
  rw [show (⟨o.saga, zz, x.l⟩ : Ent).s.withV p m c2 = z from HZZ.out] at CP
  change Hid (Calls Tryz.prog 36 #[.pointer (some ⟨g, 0, none⟩), .int .i64 o.saga, z.val] w5 _) at CP
  go_wp2_with (refine wpList_rload_saga (by rfl) _ (by rfl) (by rfl) Z5.out ?_)
  refine CP.out.mono ?_
  rintro e w7 ⟨rfl, hb7, ht7⟩
  have H7 := hide hb7
  have T7 := hide ht7
  have Y7 : Hid (RBox (d + 1) (errR 0) w7) := Y5.out.turned T7.out (by have := HYG.out; omega)
  have X7o : Hid (OBox d o (.slice A n c) w7) := X5o.out.turned T7.out (by have := HDG.out; omega)
  clear hb7 ht7 CP a5
  obtain ⟨_, _, _, a5, _⟩ := X7o.out.at_
  have HRR : Hid (RiseE t.L) := HOK.out.1
  have HSF : Hid (statusF (putE ⟨o.saga, zz, x.l⟩ t.L) o.saga = ⟨0, o.saga, zz.st, zz.step⟩) := statusF_put ⟨o.saga, zz, x.l⟩ HRR.out
  have CS := hide (rstatus_any (id := o.saga) H7.out (by have a1 := putE_len_is (x := ⟨o.saga, zz, x.l⟩) HRR.out ⟨x, HM.out.1, HID.out⟩; have := HNN.out; show (putE ⟨o.saga, zz, x.l⟩ t.L).length ≤ 1000000; omega))
  change Hid (Calls _ _ _ _ (Gives (statusF (putE ⟨o.saga, zz, x.l⟩ t.L) o.saga).val w7)) at CS
  rw [HSF.out, HRR2.out] at CS
  go_wp2_with (fail)
  refine CS.out.mono ?_
  rintro e w8 ⟨rfl, hl8⟩
  have L8 := hide hl8
  have Y8 : Hid (RBox (d + 1) (errR 0) w8) := Y7.out.below L8.out
  clear hl8 CS
  go_wp2_with (refine wpList_store_rep (r := rr) (by rfl) _ _ (by rfl) (by rfl) Y8.out (by rfl) ?_)
  intro w9 Z9 G9
  have HZ := hide Z9
  have T9 : Hid (Turned (fun i => i = d + 1) w8 w9) := Turned.of_grown G9 (fun g e => (Option.some.inj e).symm)
  clear Z9 G9
  go_wp2
  refine bodyPost_ret (results_cell_row Tryz.results12 _ _ (d + 1) 44 _ (0, 0) _ (by rfl) HZ.out Tryz.underlying44 (by rfl) (by kernel_rfl)) (by rfl) ?_
  have B9 := (H7.out.later L8.out).turned T9.out (by have := HYG.out; omega) (fun i hi => hi.2)
  have Lb : Later w W1 := L1.out
  have Lc : Later w w5 := Later.trans Lb L15.out
  have La1 : Turned (fun i => i = g) w w5 := Turned.of_below Lc _
  have La2 : Turned (fun i => i = g) w w7 := La1.trans T7.out
  have La : Turned (fun i => i = g) w w8 := La2.trans (Turned.of_below L8.out _)
  exact ⟨rfl, B9.mono (fun i _ hf => hf.1) HA.out, La.onto T9.out (fun i hi => .inr (by have := HY.out; omega))⟩
set_option maxHeartbeats 4000000 in
set_option maxRecDepth 100000 in
theorem rapply_rep_no {F0 : Nat → Prop} {o : OpD} {A : Option Addr} {n c : Nat} (h : RBookAt F w g most t) (_hn : t.L.length ≤ 900) (hst : StepsAt F0 w (.slice A n c) o.steps) (_hw : o.wf) (_hla : t.last < 4611686018427387904) (hF : ∀ i, w.heap.size ≤ i → F i) (hkd : o.kind = 4) {x : Ent} (hx : entAt t.L o.saga = some x) (he : isIt x.l x.s o.step o.try_ o.back = false) :
    Calls Tryz.prog 12 #[.pointer (some ⟨g, 0, none⟩), .agg (o.cells (.slice A n c)).toArray] w (RDid F g most (errR 10) (t) w) := by
  have hlt := h.lt
  obtain ⟨W1, hW1⟩ : ∃ W1, W1 = (w.alloc (.cells (o.cells (.slice A n c)).toArray 33 (0, 0))).alloc (.cells #[.int .i64 0, .int .i64 0, .int .i64 0, .int .i64 0] 44 (0, 0)) := ⟨_, rfl⟩
  obtain ⟨d, hd⟩ : ∃ d, d = w.heap.size := ⟨_, rfl⟩
  have X1 : Hid (OBox d o (.slice A n c) W1) := by rw [hW1, hd]; exact (heap_alloc_old _ _ (by simp)).trans (heap_alloc_new _ _)
  have Y1 : Hid (RBox (d + 1) (errR 0) W1) := by rw [hW1, hd]; exact heap_second _ _ _
  have L1 : Hid (Later w W1) := by rw [hW1]; exact ((Below.refl _ _).alloc (Nat.le_refl _) _).alloc (by simp) _
  have HYG : Hid (g < d + 1) := by rw [hd]; show g < _; omega
  have HDG : Hid (g < d) := by rw [hd]; exact hlt
  have HY : Hid (w.heap.size ≤ d + 1) := by rw [hd]; exact Nat.le_succ _
  have HYW : Hid (d + 1 < W1.heap.size) := lt_of_block Y1.out
  have h1 : RBookAt (fun i => F i ∧ i ≠ d + 1) W1 g most t := (h.mono (G := fun i => F i ∧ i ≠ d + 1) (fun i hi hf => ⟨hf, by omega⟩) (fun e => h.apart e.1)).later L1.out
  have hF1 : ∀ i, W1.heap.size ≤ i → F i ∧ i ≠ d + 1 := fun i hi => by
    have a1 := Below.size L1.out
    have a2 := HYW.out
    exact ⟨hF i (by omega), by omega⟩
  have HF1 := hide hF1
  have H1 := hide h1
  have HA := hide h.apart
  have HNN := hide _hn
  have hst1 := StepsAt.kept hst (Kept.of_below L1.out _)
  obtain ⟨a0, a3, a4, a5, a6, a7, a8, a9⟩ := X1.out.at_
  clear a3 a4 a6 a7 a8 a9
  rw [hkd] at a0
  have HKD := hide hkd
  have C := hide (rsaga_any (id := o.saga) h1 (by omega))
  obtain ⟨e1, e2, e3⟩ := atS_some hx
  rw [e1, e2, e3] at C
  clear e1 e2 e3
  have HM := hide (entAt_mem hx)
  have HOK := hide (h.ok)
  have HID : Hid (x.id = o.saga) := (entAt_mem hx).2
  have HXO : Hid (EntOk x ∧ x.id ≤ 4611686018427387904) := h.ok.2.1 x (entAt_mem hx).1
  have HE := hide he
  clear hx hkd he
  have ye := Y1.out
  rw [hW1, hd] at ye
  have YE := hide ye
  try rw [hW1, hd] at a0
  try rw [hW1, hd] at a3
  try rw [hW1, hd] at a4
  try rw [hW1, hd] at a5
  clear ye
  have HW1 := hide hW1.symm
  have HG := hide hd.symm
  clear h _hn hst hst1 _hw _hla hF hF1 hW1 hd h1 hlt
  go_enter Tryz.func12, Tryz.ntmps12
  go_wp2_with (fail)
  simp only [HW1.out, HG.out]
  refine C.out.mono ?_
  rintro e w2 ⟨p, m, c2, rfl, hs, hl2⟩
  obtain ⟨s2, hs2⟩ : ∃ s2, x.s.withV p m c2 = s2 := ⟨_, rfl⟩
  rw [hs2]
  have S2 := hide hs
  have HS2 := hide hs2
  have L2 : Hid (Later W1 w2) := hl2
  have T2 : Hid (SBox 39 w2.heap.size SagaD.zero (w2.alloc (.cells #[.string ⟨#[]⟩, .slice none 0 0, .int .i64 0, .int .i64 0, .int .i64 0, .bool false, .bool false, .bool false, .bool false, .bool false, .bool false, .bool false, .bool false] 39 (0, 0)))) := heap_alloc_new _ _
  have L2b : Hid (Later w2 (w2.alloc (.cells #[.string ⟨#[]⟩, .slice none 0 0, .int .i64 0, .int .i64 0, .int .i64 0, .bool false, .bool false, .bool false, .bool false, .bool false, .bool false, .bool false, .bool false] 39 (0, 0)))) := (Below.refl _ _).alloc (Nat.le_refl _) _
  have HYS : Hid (d + 1 < w2.heap.size) := lt_of_block (Y1.out.below L2.out)
  clear hs hl2 C hs2 a0 a5
  go_wp2_with (refine wpList_rstore_saga (s := s2) (by rfl) _ _ (by rfl) (by rfl) T2.out (by rfl) ?_)
  intro w3 X3 G3
  have L3 : Hid (Later w2 w3) := L2b.out.grown G3 (by simp) (fun k hk => by have := Option.some.inj hk; omega)
  obtain ⟨y, hy⟩ : ∃ y, w2.heap.size = y := ⟨_, rfl⟩
  rw [hy] at X3 HYS
  have HYE := hide hy
  have Z3 := hide X3
  have L3a : Later W1 w2 := L2.out
  have L13 : Hid (Later W1 w3) := Later.trans L3a L3.out
  have Y3 : Hid (RBox (d + 1) (errR 0) w3) := Y1.out.below L13.out
  have X3o : Hid (OBox d o (.slice A n c) w3) := X1.out.below L13.out
  have H3 : Hid (RBookAt (fun i => F i ∧ i ≠ d + 1) w3 g most t) := H1.out.later L13.out
  clear X3 G3 L3a hy
  try rw [HYE.out]
  obtain ⟨a0, _, _, a5, a6, a7, a8, a9⟩ := X3o.out.at_
  rw [HKD.out] at a0
  have HSI : Hid (I64 s2.step) := by rw [← HS2.out]; have := HXO.out.1.2.2.1; exact ⟨by show _ ≤ x.s.step; omega, by show x.s.step < _; omega⟩
  have HSV : Hid (StepsAt (fun i => F i ∧ i ≠ d + 1) w3 s2.v x.l) := by rw [← HS2.out]; exact StepsAt.kept S2.out (Kept.of_below L3.out _)
  have CE := hide (rreport_any (step := o.step) (tr := o.try_) (back := o.back) (good := o.good) HSV.out HXO.out.1.1 HSI.out)
  have HZ0 : Hid (isIt x.l s2 o.step o.try_ o.back = false) := by
    rw [← HS2.out]
    exact HE.out
  rw [HZ0.out] at CE
  generalize reportF x.l s2 o.step o.try_ o.back o.good = z at CE
  go_wp2_with (refine wpList_rload_saga (by rfl) _ (by rfl) (by rfl) Z3.out ?_)
  refine CE.out.mono ?_
  rintro e w4 ⟨rfl, hl4⟩
  have L4 : Hid (Later w3 w4) := hl4
  have T4 : Hid (SBox 39 w4.heap.size SagaD.zero (w4.alloc (.cells #[.string ⟨#[]⟩, .slice none 0 0, .int .i64 0, .int .i64 0, .int .i64 0, .bool false, .bool false, .bool false, .bool false, .bool false, .bool false, .bool false, .bool false] 39 (0, 0)))) := heap_alloc_new _ _
  have L4b : Hid (Later w4 (w4.alloc (.cells #[.string ⟨#[]⟩, .slice none 0 0, .int .i64 0, .int .i64 0, .int .i64 0, .bool false, .bool false, .bool false, .bool false, .bool false, .bool false, .bool false, .bool false] 39 (0, 0)))) := (Below.refl _ _).alloc (Nat.le_refl _) _
  clear hl4 CE a0 a5 a6 a7 a8 a9
  go_wp2_with (refine wpList_rstore_saga (s := z) (by rfl) _ _ (by rfl) (by rfl) T4.out (by rfl) ?_)
  intro w5 X5 G5
  have L5 : Hid (Later w4 w5) := L4b.out.grown G5 (by simp) (fun k hk => by have := Option.some.inj hk; omega)
  obtain ⟨y5, hy5⟩ : ∃ y5, w4.heap.size = y5 := ⟨_, rfl⟩
  rw [hy5] at X5
  have HYE5 := hide hy5
  have Z5 := hide X5
  have L5a : Later w3 w4 := L4.out
  have L35 : Hid (Later w3 w5) := Later.trans L5a L5.out
  have L5b : Later W1 w3 := L13.out
  have L15 : Hid (Later W1 w5) := Later.trans L5b L35.out
  have Y5 : Hid (RBox (d + 1) (errR 0) w5) := Y1.out.below L15.out
  have X5o : Hid (OBox d o (.slice A n c) w5) := X1.out.below L15.out
  have H5 : Hid (RBookAt (fun i => F i ∧ i ≠ d + 1) w5 g most t) := H1.out.later L15.out
  clear X5 G5 L5a L5b hy5
  try rw [HYE5.out]
  obtain ⟨_, _, _, a5, _⟩ := X5o.out.at_
  clear a5
  go_wp2_with (refine wpList_store_rep (r := errR 10) (by rfl) _ _ (by rfl) (by rfl) Y5.out (by rfl) ?_)
  intro w9 Z9 G9
  have HZ := hide Z9
  have T9 : Hid (Turned (fun i => i = d + 1) w5 w9) := Turned.of_grown G9 (fun g e => (Option.some.inj e).symm)
  clear Z9 G9
  go_wp2
  refine bodyPost_ret (results_cell_row Tryz.results12 _ _ (d + 1) 44 _ (0, 0) _ (by rfl) HZ.out Tryz.underlying44 (by rfl) (by kernel_rfl)) (by rfl) ?_
  have B9 := (H5.out).turned T9.out (by have := HYG.out; omega) (fun i hi => hi.2)
  have Lb : Later w W1 := L1.out
  have Lc : Later w w5 := Later.trans Lb L15.out
  have La : Turned (fun i => i = g) w w5 := Turned.of_below Lc _
  exact ⟨rfl, B9.mono (fun i _ hf => hf.1) HA.out, La.onto T9.out (fun i hi => .inr (by have := HY.out; omega))⟩
set_option maxHeartbeats 4000000 in
set_option maxRecDepth 100000 in
theorem rapply_lap_ok {F0 : Nat → Prop} {o : OpD} {A : Option Addr} {n c : Nat} (h : RBookAt F w g most t) (_hn : t.L.length ≤ 900) (hst : StepsAt F0 w (.slice A n c) o.steps) (_hw : o.wf) (_hla : t.last < 4611686018427387904) (hF : ∀ i, w.heap.size ≤ i → F i) (hkd : o.kind = 5) {x : Ent} (hx : entAt t.L o.saga = some x) (he : isIt x.l x.s o.step o.try_ o.back = true) :
    Calls Tryz.prog 12 #[.pointer (some ⟨g, 0, none⟩), .agg (o.cells (.slice A n c)).toArray] w (RDid F g most (⟨0, o.saga, (lapseE x.l x.s).st, (lapseE x.l x.s).step⟩) (⟨t.last, putE ⟨o.saga, lapseE x.l x.s, x.l⟩ t.L⟩) w) := by
  have hlt := h.lt
  obtain ⟨W1, hW1⟩ : ∃ W1, W1 = (w.alloc (.cells (o.cells (.slice A n c)).toArray 33 (0, 0))).alloc (.cells #[.int .i64 0, .int .i64 0, .int .i64 0, .int .i64 0] 44 (0, 0)) := ⟨_, rfl⟩
  obtain ⟨d, hd⟩ : ∃ d, d = w.heap.size := ⟨_, rfl⟩
  have X1 : Hid (OBox d o (.slice A n c) W1) := by rw [hW1, hd]; exact (heap_alloc_old _ _ (by simp)).trans (heap_alloc_new _ _)
  have Y1 : Hid (RBox (d + 1) (errR 0) W1) := by rw [hW1, hd]; exact heap_second _ _ _
  have L1 : Hid (Later w W1) := by rw [hW1]; exact ((Below.refl _ _).alloc (Nat.le_refl _) _).alloc (by simp) _
  have HYG : Hid (g < d + 1) := by rw [hd]; show g < _; omega
  have HDG : Hid (g < d) := by rw [hd]; exact hlt
  have HY : Hid (w.heap.size ≤ d + 1) := by rw [hd]; exact Nat.le_succ _
  have HYW : Hid (d + 1 < W1.heap.size) := lt_of_block Y1.out
  have h1 : RBookAt (fun i => F i ∧ i ≠ d + 1) W1 g most t := (h.mono (G := fun i => F i ∧ i ≠ d + 1) (fun i hi hf => ⟨hf, by omega⟩) (fun e => h.apart e.1)).later L1.out
  have hF1 : ∀ i, W1.heap.size ≤ i → F i ∧ i ≠ d + 1 := fun i hi => by
    have a1 := Below.size L1.out
    have a2 := HYW.out
    exact ⟨hF i (by omega), by omega⟩
  have HF1 := hide hF1
  have H1 := hide h1
  have HA := hide h.apart
  have HNN := hide _hn
  have hst1 := StepsAt.kept hst (Kept.of_below L1.out _)
  obtain ⟨a0, a3, a4, a5, a6, a7, a8, a9⟩ := X1.out.at_
  clear a3 a4 a6 a7 a8 a9
  rw [hkd] at a0
  have HKD := hide hkd
  have C := hide (rsaga_any (id := o.saga) h1 (by omega))
  obtain ⟨e1, e2, e3⟩ := atS_some hx
  rw [e1, e2, e3] at C
  clear e1 e2 e3
  have HM := hide (entAt_mem hx)
  have HOK := hide (h.ok)
  have HID : Hid (x.id = o.saga) := (entAt_mem hx).2
  have HXO : Hid (EntOk x ∧ x.id ≤ 4611686018427387904) := h.ok.2.1 x (entAt_mem hx).1
  have HST : Hid (0 ≤ (lapseE x.l x.s).step ∧ (lapseE x.l x.s).step ≤ 9) := lapseE_step (isIt_wants he)
  obtain ⟨zz, hzz⟩ : ∃ zz, lapseE x.l x.s = zz := ⟨_, rfl⟩
  have HZQ := hide hzz
  obtain ⟨rr, hrr⟩ : ∃ rr, (⟨0, o.saga, zz.st, zz.step⟩ : RepD) = rr := ⟨_, rfl⟩
  have HRR2 := hide hrr
  rw [hzz, hrr]
  rw [hzz] at HST
  clear hzz hrr
  have HE := hide he
  clear hx hkd he
  have ye := Y1.out
  rw [hW1, hd] at ye
  have YE := hide ye
  try rw [hW1, hd] at a0
  try rw [hW1, hd] at a3
  try rw [hW1, hd] at a4
  try rw [hW1, hd] at a5
  clear ye
  have HW1 := hide hW1.symm
  have HG := hide hd.symm
  clear h _hn hst hst1 _hw _hla hF hF1 hW1 hd h1 hlt
  go_enter Tryz.func12, Tryz.ntmps12
  go_wp2_with (fail)
  simp only [HW1.out, HG.out]
  refine C.out.mono ?_
  rintro e w2 ⟨p, m, c2, rfl, hs, hl2⟩
  obtain ⟨s2, hs2⟩ : ∃ s2, x.s.withV p m c2 = s2 := ⟨_, rfl⟩
  rw [hs2]
  have S2 := hide hs
  have HS2 := hide hs2
  have L2 : Hid (Later W1 w2) := hl2
  have T2 : Hid (SBox 39 w2.heap.size SagaD.zero (w2.alloc (.cells #[.string ⟨#[]⟩, .slice none 0 0, .int .i64 0, .int .i64 0, .int .i64 0, .bool false, .bool false, .bool false, .bool false, .bool false, .bool false, .bool false, .bool false] 39 (0, 0)))) := heap_alloc_new _ _
  have L2b : Hid (Later w2 (w2.alloc (.cells #[.string ⟨#[]⟩, .slice none 0 0, .int .i64 0, .int .i64 0, .int .i64 0, .bool false, .bool false, .bool false, .bool false, .bool false, .bool false, .bool false, .bool false] 39 (0, 0)))) := (Below.refl _ _).alloc (Nat.le_refl _) _
  have HYS : Hid (d + 1 < w2.heap.size) := lt_of_block (Y1.out.below L2.out)
  clear hs hl2 C hs2 a0 a5
  go_wp2_with (refine wpList_rstore_saga (s := s2) (by rfl) _ _ (by rfl) (by rfl) T2.out (by rfl) ?_)
  intro w3 X3 G3
  have L3 : Hid (Later w2 w3) := L2b.out.grown G3 (by simp) (fun k hk => by have := Option.some.inj hk; omega)
  obtain ⟨y, hy⟩ : ∃ y, w2.heap.size = y := ⟨_, rfl⟩
  rw [hy] at X3 HYS
  have HYE := hide hy
  have Z3 := hide X3
  have L3a : Later W1 w2 := L2.out
  have L13 : Hid (Later W1 w3) := Later.trans L3a L3.out
  have Y3 : Hid (RBox (d + 1) (errR 0) w3) := Y1.out.below L13.out
  have X3o : Hid (OBox d o (.slice A n c) w3) := X1.out.below L13.out
  have H3 : Hid (RBookAt (fun i => F i ∧ i ≠ d + 1) w3 g most t) := H1.out.later L13.out
  clear X3 G3 L3a hy
  try rw [HYE.out]
  obtain ⟨a0, _, _, a5, a6, a7, a8, a9⟩ := X3o.out.at_
  rw [HKD.out] at a0
  have HSI : Hid (I64 s2.step) := by rw [← HS2.out]; have := HXO.out.1.2.2.1; exact ⟨by show _ ≤ x.s.step; omega, by show x.s.step < _; omega⟩
  have HSV : Hid (StepsAt (fun i => F i ∧ i ≠ d + 1) w3 s2.v x.l) := by rw [← HS2.out]; exact StepsAt.kept S2.out (Kept.of_below L3.out _)
  have CE := hide (rlapse_any (step := o.step) (tr := o.try_) (back := o.back) HSV.out HXO.out.1.1 HSI.out)
  have HZ0 : Hid (isIt x.l s2 o.step o.try_ o.back = true ∧ lapseF x.l s2 o.step o.try_ o.back = (lapseE x.l x.s).withV p m c2) := by
    rw [← HS2.out]
    exact ⟨HE.out, lapseF_V p m c2 HE.out⟩
  rw [HZ0.out.1, HZ0.out.2] at CE
  rw [HZQ.out] at CE
  obtain ⟨z, hz⟩ : ∃ z, zz.withV p m c2 = z := ⟨_, rfl⟩
  rw [hz] at CE
  have HZZ := hide hz
  clear hz
  go_wp2_with (refine wpList_rload_saga (by rfl) _ (by rfl) (by rfl) Z3.out ?_)
  refine CE.out.mono ?_
  rintro e w4 ⟨rfl, hl4⟩
  have L4 : Hid (Later w3 w4) := hl4
  have T4 : Hid (SBox 39 w4.heap.size SagaD.zero (w4.alloc (.cells #[.string ⟨#[]⟩, .slice none 0 0, .int .i64 0, .int .i64 0, .int .i64 0, .bool false, .bool false, .bool false, .bool false, .bool false, .bool false, .bool false, .bool false] 39 (0, 0)))) := heap_alloc_new _ _
  have L4b : Hid (Later w4 (w4.alloc (.cells #[.string ⟨#[]⟩, .slice none 0 0, .int .i64 0, .int .i64 0, .int .i64 0, .bool false, .bool false, .bool false, .bool false, .bool false, .bool false, .bool false, .bool false] 39 (0, 0)))) := (Below.refl _ _).alloc (Nat.le_refl _) _
  clear hl4 CE a0 a5 a6 a7 a8 a9
  go_wp2_with (refine wpList_rstore_saga (s := z) (by rfl) _ _ (by rfl) (by rfl) T4.out (by rfl) ?_)
  intro w5 X5 G5
  have L5 : Hid (Later w4 w5) := L4b.out.grown G5 (by simp) (fun k hk => by have := Option.some.inj hk; omega)
  obtain ⟨y5, hy5⟩ : ∃ y5, w4.heap.size = y5 := ⟨_, rfl⟩
  rw [hy5] at X5
  have HYE5 := hide hy5
  have Z5 := hide X5
  have L5a : Later w3 w4 := L4.out
  have L35 : Hid (Later w3 w5) := Later.trans L5a L5.out
  have L5b : Later W1 w3 := L13.out
  have L15 : Hid (Later W1 w5) := Later.trans L5b L35.out
  have Y5 : Hid (RBox (d + 1) (errR 0) w5) := Y1.out.below L15.out
  have X5o : Hid (OBox d o (.slice A n c) w5) := X1.out.below L15.out
  have H5 : Hid (RBookAt (fun i => F i ∧ i ≠ d + 1) w5 g most t) := H1.out.later L15.out
  clear X5 G5 L5a L5b hy5
  try rw [HYE5.out]
  obtain ⟨_, _, _, a5, _⟩ := X5o.out.at_
  have HPS : Hid (StepsAt (fun i => F i ∧ i ≠ d + 1) w5 (.slice p m c2) x.l) := by
    have a1 := StepsAt.kept HSV.out (Kept.of_below L35.out _)
    rw [← HS2.out] at a1
    exact a1
  have CP := hide (rput_any (x := ⟨o.saga, zz, x.l⟩) (p := p) (n9 := m) (c9 := c2) H5.out HPS.out ⟨⟨HXO.out.1.1, HXO.out.1.2.1, HST.out, by show (1 : Int) ≤ o.saga; have := HXO.out.1.2.2.2; have := HID.out; omega⟩, by show o.saga ≤ _; have := HXO.out.2; have := HID.out; omega⟩ (fun i hi => HF1.out i (by have := Below.size L15.out; omega)) HNN.out)
  rw [show (⟨o.saga, zz, x.l⟩ : Ent).s.withV p m c2 = z from HZZ.out] at CP
  change Hid (Calls Tryz.prog 36 #[.pointer (some ⟨g, 0, none⟩), .int .i64 o.saga, z.val] w5 _) at CP
  go_wp2_with (refine wpList_rload_saga (by rfl) _ (by rfl) (by rfl) Z5.out ?_)
  refine CP.out.mono ?_
  rintro e w7 ⟨rfl, hb7, ht7⟩
  have H7 := hide hb7
  have T7 := hide ht7
  have Y7 : Hid (RBox (d + 1) (errR 0) w7) := Y5.out.turned T7.out (by have := HYG.out; omega)
  have X7o : Hid (OBox d o (.slice A n c) w7) := X5o.out.turned T7.out (by have := HDG.out; omega)
  clear hb7 ht7 CP a5
  obtain ⟨_, _, _, a5, _⟩ := X7o.out.at_
  have HRR : Hid (RiseE t.L) := HOK.out.1
  have HSF : Hid (statusF (putE ⟨o.saga, zz, x.l⟩ t.L) o.saga = ⟨0, o.saga, zz.st, zz.step⟩) := statusF_put ⟨o.saga, zz, x.l⟩ HRR.out
  have CS := hide (rstatus_any (id := o.saga) H7.out (by have a1 := putE_len_is (x := ⟨o.saga, zz, x.l⟩) HRR.out ⟨x, HM.out.1, HID.out⟩; have := HNN.out; show (putE ⟨o.saga, zz, x.l⟩ t.L).length ≤ 1000000; omega))
  change Hid (Calls _ _ _ _ (Gives (statusF (putE ⟨o.saga, zz, x.l⟩ t.L) o.saga).val w7)) at CS
  rw [HSF.out, HRR2.out] at CS
  go_wp2_with (fail)
  refine CS.out.mono ?_
  rintro e w8 ⟨rfl, hl8⟩
  have L8 := hide hl8
  have Y8 : Hid (RBox (d + 1) (errR 0) w8) := Y7.out.below L8.out
  clear hl8 CS
  go_wp2_with (refine wpList_store_rep (r := rr) (by rfl) _ _ (by rfl) (by rfl) Y8.out (by rfl) ?_)
  intro w9 Z9 G9
  have HZ := hide Z9
  have T9 : Hid (Turned (fun i => i = d + 1) w8 w9) := Turned.of_grown G9 (fun g e => (Option.some.inj e).symm)
  clear Z9 G9
  go_wp2
  refine bodyPost_ret (results_cell_row Tryz.results12 _ _ (d + 1) 44 _ (0, 0) _ (by rfl) HZ.out Tryz.underlying44 (by rfl) (by kernel_rfl)) (by rfl) ?_
  have B9 := (H7.out.later L8.out).turned T9.out (by have := HYG.out; omega) (fun i hi => hi.2)
  have Lb : Later w W1 := L1.out
  have Lc : Later w w5 := Later.trans Lb L15.out
  have La1 : Turned (fun i => i = g) w w5 := Turned.of_below Lc _
  have La2 : Turned (fun i => i = g) w w7 := La1.trans T7.out
  have La : Turned (fun i => i = g) w w8 := La2.trans (Turned.of_below L8.out _)
  exact ⟨rfl, B9.mono (fun i _ hf => hf.1) HA.out, La.onto T9.out (fun i hi => .inr (by have := HY.out; omega))⟩
set_option maxHeartbeats 4000000 in
set_option maxRecDepth 100000 in
theorem rapply_lap_no {F0 : Nat → Prop} {o : OpD} {A : Option Addr} {n c : Nat} (h : RBookAt F w g most t) (_hn : t.L.length ≤ 900) (hst : StepsAt F0 w (.slice A n c) o.steps) (_hw : o.wf) (_hla : t.last < 4611686018427387904) (hF : ∀ i, w.heap.size ≤ i → F i) (hkd : o.kind = 5) {x : Ent} (hx : entAt t.L o.saga = some x) (he : isIt x.l x.s o.step o.try_ o.back = false) :
    Calls Tryz.prog 12 #[.pointer (some ⟨g, 0, none⟩), .agg (o.cells (.slice A n c)).toArray] w (RDid F g most (errR 10) (t) w) := by
  have hlt := h.lt
  obtain ⟨W1, hW1⟩ : ∃ W1, W1 = (w.alloc (.cells (o.cells (.slice A n c)).toArray 33 (0, 0))).alloc (.cells #[.int .i64 0, .int .i64 0, .int .i64 0, .int .i64 0] 44 (0, 0)) := ⟨_, rfl⟩
  obtain ⟨d, hd⟩ : ∃ d, d = w.heap.size := ⟨_, rfl⟩
  have X1 : Hid (OBox d o (.slice A n c) W1) := by rw [hW1, hd]; exact (heap_alloc_old _ _ (by simp)).trans (heap_alloc_new _ _)
  have Y1 : Hid (RBox (d + 1) (errR 0) W1) := by rw [hW1, hd]; exact heap_second _ _ _
  have L1 : Hid (Later w W1) := by rw [hW1]; exact ((Below.refl _ _).alloc (Nat.le_refl _) _).alloc (by simp) _
  have HYG : Hid (g < d + 1) := by rw [hd]; show g < _; omega
  have HDG : Hid (g < d) := by rw [hd]; exact hlt
  have HY : Hid (w.heap.size ≤ d + 1) := by rw [hd]; exact Nat.le_succ _
  have HYW : Hid (d + 1 < W1.heap.size) := lt_of_block Y1.out
  have h1 : RBookAt (fun i => F i ∧ i ≠ d + 1) W1 g most t := (h.mono (G := fun i => F i ∧ i ≠ d + 1) (fun i hi hf => ⟨hf, by omega⟩) (fun e => h.apart e.1)).later L1.out
  have hF1 : ∀ i, W1.heap.size ≤ i → F i ∧ i ≠ d + 1 := fun i hi => by
    have a1 := Below.size L1.out
    have a2 := HYW.out
    exact ⟨hF i (by omega), by omega⟩
  have HF1 := hide hF1
  have H1 := hide h1
  have HA := hide h.apart
  have HNN := hide _hn
  have hst1 := StepsAt.kept hst (Kept.of_below L1.out _)
  obtain ⟨a0, a3, a4, a5, a6, a7, a8, a9⟩ := X1.out.at_
  clear a3 a4 a6 a7 a8 a9
  rw [hkd] at a0
  have HKD := hide hkd
  have C := hide (rsaga_any (id := o.saga) h1 (by omega))
  obtain ⟨e1, e2, e3⟩ := atS_some hx
  rw [e1, e2, e3] at C
  clear e1 e2 e3
  have HM := hide (entAt_mem hx)
  have HOK := hide (h.ok)
  have HID : Hid (x.id = o.saga) := (entAt_mem hx).2
  have HXO : Hid (EntOk x ∧ x.id ≤ 4611686018427387904) := h.ok.2.1 x (entAt_mem hx).1
  have HE := hide he
  clear hx hkd he
  have ye := Y1.out
  rw [hW1, hd] at ye
  have YE := hide ye
  try rw [hW1, hd] at a0
  try rw [hW1, hd] at a3
  try rw [hW1, hd] at a4
  try rw [hW1, hd] at a5
  clear ye
  have HW1 := hide hW1.symm
  have HG := hide hd.symm
  clear h _hn hst hst1 _hw _hla hF hF1 hW1 hd h1 hlt
  go_enter Tryz.func12, Tryz.ntmps12
  go_wp2_with (fail)
  simp only [HW1.out, HG.out]
  refine C.out.mono ?_
  rintro e w2 ⟨p, m, c2, rfl, hs, hl2⟩
  obtain ⟨s2, hs2⟩ : ∃ s2, x.s.withV p m c2 = s2 := ⟨_, rfl⟩
  rw [hs2]
  have S2 := hide hs
  have HS2 := hide hs2
  have L2 : Hid (Later W1 w2) := hl2
  have T2 : Hid (SBox 39 w2.heap.size SagaD.zero (w2.alloc (.cells #[.string ⟨#[]⟩, .slice none 0 0, .int .i64 0, .int .i64 0, .int .i64 0, .bool false, .bool false, .bool false, .bool false, .bool false, .bool false, .bool false, .bool false] 39 (0, 0)))) := heap_alloc_new _ _
  have L2b : Hid (Later w2 (w2.alloc (.cells #[.string ⟨#[]⟩, .slice none 0 0, .int .i64 0, .int .i64 0, .int .i64 0, .bool false, .bool false, .bool false, .bool false, .bool false, .bool false, .bool false, .bool false] 39 (0, 0)))) := (Below.refl _ _).alloc (Nat.le_refl _) _
  have HYS : Hid (d + 1 < w2.heap.size) := lt_of_block (Y1.out.below L2.out)
  clear hs hl2 C hs2 a0 a5
  go_wp2_with (refine wpList_rstore_saga (s := s2) (by rfl) _ _ (by rfl) (by rfl) T2.out (by rfl) ?_)
  intro w3 X3 G3
  have L3 : Hid (Later w2 w3) := L2b.out.grown G3 (by simp) (fun k hk => by have := Option.some.inj hk; omega)
  obtain ⟨y, hy⟩ : ∃ y, w2.heap.size = y := ⟨_, rfl⟩
  rw [hy] at X3 HYS
  have HYE := hide hy
  have Z3 := hide X3
  have L3a : Later W1 w2 := L2.out
  have L13 : Hid (Later W1 w3) := Later.trans L3a L3.out
  have Y3 : Hid (RBox (d + 1) (errR 0) w3) := Y1.out.below L13.out
  have X3o : Hid (OBox d o (.slice A n c) w3) := X1.out.below L13.out
  have H3 : Hid (RBookAt (fun i => F i ∧ i ≠ d + 1) w3 g most t) := H1.out.later L13.out
  clear X3 G3 L3a hy
  try rw [HYE.out]
  obtain ⟨a0, _, _, a5, a6, a7, a8, a9⟩ := X3o.out.at_
  rw [HKD.out] at a0
  have HSI : Hid (I64 s2.step) := by rw [← HS2.out]; have := HXO.out.1.2.2.1; exact ⟨by show _ ≤ x.s.step; omega, by show x.s.step < _; omega⟩
  have HSV : Hid (StepsAt (fun i => F i ∧ i ≠ d + 1) w3 s2.v x.l) := by rw [← HS2.out]; exact StepsAt.kept S2.out (Kept.of_below L3.out _)
  have CE := hide (rlapse_any (step := o.step) (tr := o.try_) (back := o.back) HSV.out HXO.out.1.1 HSI.out)
  have HZ0 : Hid (isIt x.l s2 o.step o.try_ o.back = false) := by
    rw [← HS2.out]
    exact HE.out
  rw [HZ0.out] at CE
  generalize lapseF x.l s2 o.step o.try_ o.back = z at CE
  go_wp2_with (refine wpList_rload_saga (by rfl) _ (by rfl) (by rfl) Z3.out ?_)
  refine CE.out.mono ?_
  rintro e w4 ⟨rfl, hl4⟩
  have L4 : Hid (Later w3 w4) := hl4
  have T4 : Hid (SBox 39 w4.heap.size SagaD.zero (w4.alloc (.cells #[.string ⟨#[]⟩, .slice none 0 0, .int .i64 0, .int .i64 0, .int .i64 0, .bool false, .bool false, .bool false, .bool false, .bool false, .bool false, .bool false, .bool false] 39 (0, 0)))) := heap_alloc_new _ _
  have L4b : Hid (Later w4 (w4.alloc (.cells #[.string ⟨#[]⟩, .slice none 0 0, .int .i64 0, .int .i64 0, .int .i64 0, .bool false, .bool false, .bool false, .bool false, .bool false, .bool false, .bool false, .bool false] 39 (0, 0)))) := (Below.refl _ _).alloc (Nat.le_refl _) _
  clear hl4 CE a0 a5 a6 a7 a8 a9
  go_wp2_with (refine wpList_rstore_saga (s := z) (by rfl) _ _ (by rfl) (by rfl) T4.out (by rfl) ?_)
  intro w5 X5 G5
  have L5 : Hid (Later w4 w5) := L4b.out.grown G5 (by simp) (fun k hk => by have := Option.some.inj hk; omega)
  obtain ⟨y5, hy5⟩ : ∃ y5, w4.heap.size = y5 := ⟨_, rfl⟩
  rw [hy5] at X5
  have HYE5 := hide hy5
  have Z5 := hide X5
  have L5a : Later w3 w4 := L4.out
  have L35 : Hid (Later w3 w5) := Later.trans L5a L5.out
  have L5b : Later W1 w3 := L13.out
  have L15 : Hid (Later W1 w5) := Later.trans L5b L35.out
  have Y5 : Hid (RBox (d + 1) (errR 0) w5) := Y1.out.below L15.out
  have X5o : Hid (OBox d o (.slice A n c) w5) := X1.out.below L15.out
  have H5 : Hid (RBookAt (fun i => F i ∧ i ≠ d + 1) w5 g most t) := H1.out.later L15.out
  clear X5 G5 L5a L5b hy5
  try rw [HYE5.out]
  obtain ⟨_, _, _, a5, _⟩ := X5o.out.at_
  clear a5
  go_wp2_with (refine wpList_store_rep (r := errR 10) (by rfl) _ _ (by rfl) (by rfl) Y5.out (by rfl) ?_)
  intro w9 Z9 G9
  have HZ := hide Z9
  have T9 : Hid (Turned (fun i => i = d + 1) w5 w9) := Turned.of_grown G9 (fun g e => (Option.some.inj e).symm)
  clear Z9 G9
  go_wp2
  refine bodyPost_ret (results_cell_row Tryz.results12 _ _ (d + 1) 44 _ (0, 0) _ (by rfl) HZ.out Tryz.underlying44 (by rfl) (by kernel_rfl)) (by rfl) ?_
  have B9 := (H5.out).turned T9.out (by have := HYG.out; omega) (fun i hi => hi.2)
  have Lb : Later w W1 := L1.out
  have Lc : Later w w5 := Later.trans Lb L15.out
  have La : Turned (fun i => i = g) w w5 := Turned.of_below Lc _
  exact ⟨rfl, B9.mono (fun i _ hf => hf.1) HA.out, La.onto T9.out (fun i hi => .inr (by have := HY.out; omega))⟩
theorem rapply_any {F0 : Nat → Prop} {o : OpD} {A : Option Addr} {n c : Nat} (h : RBookAt F w g most t) (hn : t.L.length ≤ 900) (hst : StepsAt F0 w (.slice A n c) o.steps) (hw : o.wf) (hla : t.last < 4611686018427387904) (hF : ∀ i, w.heap.size ≤ i → F i) :
    Calls Tryz.prog 12 #[.pointer (some ⟨g, 0, none⟩), .agg (o.cells (.slice A n c)).toArray] w (RDid F g most (applyR most t o) (applyS most t o) w) := by
  unfold applyR applyS
  by_cases k0 : o.kind = 0
  · rw [if_pos k0, if_neg (by omega), if_neg (by omega), if_neg (by omega), if_neg (by omega)]
    exact rapply_0 h hn hst hw hla hF k0
  rw [if_neg k0]
  by_cases k1 : o.kind = 1
  · rw [if_pos k1, if_pos k1]
    exact rapply_1 h hn hst hw hla hF k1
  rw [if_neg k1, if_neg k1]
  by_cases k2 : o.kind = 2
  · rw [if_pos k2, if_pos k2]
    unfold eventR eventS
    cases hx : entAt t.L o.saga with
    | none => exact rapply_none2 h hn hst hw hla hF k2 hx
    | some x =>
      by_cases he : (cancelF x.l x.s).2 = 0
      · simp only [he, ne_eq, not_true_eq_false, if_false]
        exact rapply_can_ok h hn hst hw hla hF k2 hx he
      · simp only [he, ne_eq, not_false_eq_true, if_true]
        exact rapply_can_no h hn hst hw hla hF k2 hx he
  rw [if_neg k2, if_neg k2]
  by_cases k3 : o.kind = 3
  · rw [if_pos k3, if_neg (by omega), if_neg (by omega)]
    unfold statusF
    cases hx : entAt t.L o.saga with
    | none => exact rapply_none3 h hn hst hw hla hF k3 hx
    | some x => exact rapply_st h hn hst hw hla hF k3 hx
  rw [if_neg k3]
  by_cases k4 : o.kind = 4
  · rw [if_pos k4, if_pos k4]
    unfold eventR eventS reportV
    cases hx : entAt t.L o.saga with
    | none => exact rapply_none4 h hn hst hw hla hF k4 hx
    | some x =>
      cases he : isIt x.l x.s o.step o.try_ o.back with
      | true =>
        simp only [he, if_true, ne_eq, not_true_eq_false, if_false]
        exact rapply_rep_ok h hn hst hw hla hF k4 hx he
      | false =>
        simp only [he, Bool.false_eq_true, if_false, ne_eq, show ¬ ((10 : Int) = 0) from by decide, not_false_eq_true, if_true]
        exact rapply_rep_no h hn hst hw hla hF k4 hx he
  rw [if_neg k4, if_neg k4]
  by_cases k5 : o.kind = 5
  · rw [if_pos k5, if_pos k5]
    unfold eventR eventS lapseV
    cases hx : entAt t.L o.saga with
    | none => exact rapply_none5 h hn hst hw hla hF k5 hx
    | some x =>
      cases he : isIt x.l x.s o.step o.try_ o.back with
      | true =>
        simp only [he, if_true, ne_eq, not_true_eq_false, if_false]
        exact rapply_lap_ok h hn hst hw hla hF k5 hx he
      | false =>
        simp only [he, Bool.false_eq_true, if_false, ne_eq, show ¬ ((10 : Int) = 0) from by decide, not_false_eq_true, if_true]
        exact rapply_lap_no h hn hst hw hla hF k5 hx he
  rw [if_neg k5, if_neg k5]
  exact rapply_x h hn hst hw hla hF k0 k1 k2 k3 k4 k5
end
end Go.Proofs.YtpckdhjnhnonhaaGreat
/- Two sagas that are alike, for the document. -/
namespace Go.Proofs.YtpckdhjnhnonhaaGreat
open Go.RowKit
section
variable {w : World}
set_option maxRecDepth 100000 in
set_option maxHeartbeats 8000000 in
theorem rsame_yes {F G : Nat → Prop} {s : SagaD} {l : List StepD} {p : Option Addr} {n c : Nat} (h : StepsAt F w s.v l) (h2 : StepsAt G w (.slice p n c) l) : Calls Tryz.prog 42 #[s.val, (s.withV p n c).val] w (Gives (.bool true) w) := by
  obtain ⟨W1, hW1⟩ : ∃ W1, W1 = (w.alloc (.cells s.cells.toArray 39 (0, 0))).alloc (.cells (s.withV p n c).cells.toArray 39 (0, 0)) := ⟨_, rfl⟩
  obtain ⟨g, hg⟩ : ∃ g, g = w.heap.size := ⟨_, rfl⟩
  have X1 : Hid (SBox 39 g s W1) := by rw [hW1, hg]; exact (heap_alloc_old _ _ (by simp)).trans (heap_alloc_new _ _)
  have Y1 : Hid (SBox 39 (g + 1) (s.withV p n c) W1) := by rw [hW1, hg]; exact heap_second _ _ _
  have L1 : Hid (Later w W1) := by rw [hW1]; exact ((Below.refl _ _).alloc (Nat.le_refl _) _).alloc (by simp) _
  have C : Hid (Calls Tryz.prog 74 #[.agg #[.string s.name, .slice s.p s.n s.c], .agg #[.string s.name, .slice p n c]] W1 fun e w' => e = .returned (.bool true) ∧ Later W1 w') := by
    have hh := rsame13_any (a1 := s.name) (a2 := s.name) (StepsAt.kept h (Kept.of_below L1.out _)) (StepsAt.kept h2 (Kept.of_below L1.out _))
    rwa [decide_eq_true ⟨rfl, rfl⟩] at hh
  have e0 := X1.out.c0
  have e1 := X1.out.c1
  have f0 : W1.cell? ⟨g + 1, 0, none⟩ = some (.string s.name) := Y1.out.c0
  have f1 : W1.cell? ⟨g + 1, 1, none⟩ = some (.slice p n c) := Y1.out.c1
  rw [hW1, hg] at e0 e1 f0 f1
  have HW1 := hide hW1.symm
  have HG := hide hg.symm
  clear hW1 hg h h2
  go_enter Tryz.func42, Tryz.ntmps42
  go_wp2_with (fail)
  simp only [HW1.out, HG.out]
  refine C.out.mono ?_
  rintro e w2 ⟨rfl, hl⟩
  have L2 := hide (L1.out.trans hl)
  have X2 := hide (X1.out.below hl)
  have Y2 := hide (Y1.out.below hl)
  have c2 := X2.out.c2
  have c3 := X2.out.c3
  have c4 := X2.out.c4
  have d2 : w2.cell? ⟨g + 1, 2, none⟩ = some (.int .i64 s.st) := Y2.out.c2
  have d3 : w2.cell? ⟨g + 1, 3, none⟩ = some (.int .i64 s.step) := Y2.out.c3
  have d4 : w2.cell? ⟨g + 1, 4, none⟩ = some (.int .i64 s.tr) := Y2.out.c4
  clear hl C e0 e1 f0 f1
  go_wp2_with (first | (refine wpList_val rfl (by rfl) (exec_load_hits _ (by rfl) (by rfl) X2.out) ?_) | (refine wpList_val rfl (by rfl) (exec_load_hits (s := s.withV p n c) _ (by rfl) (by rfl) Y2.out) ?_) | (refine wpList_val rfl (by rfl) ((exec_eql_hits s.hit s.hit _ _ _ (by rfl) (by rfl) (by rfl)).trans (by rw [decide_eq_true rfl])) ?_))
  go_ret
  exact ⟨rfl, L2.out⟩
end
end Go.Proofs.YtpckdhjnhnonhaaGreat
/- The law's comparison of both books. -/
namespace Go.Proofs.YtpckdhjnhnonhaaGreat
open Go.RowKit Go.Maps
section
variable {F G : Nat → Prop} {w : World} {g b k g2 : Nat} {most : Int} {t : BkS}
set_option maxHeartbeats 16000000 in
set_option maxRecDepth 100000 in
theorem lsame_any (h : BookAt F w g b k most t) (h2 : RBookAt G w g2 most t) (hn : t.L.length ≤ 900) : Calls Tryz.prog 13 #[.pointer (some ⟨g, 0, none⟩), .pointer (some ⟨g2, 0, none⟩)] w (Gives (.bool true) w) := by
  obtain ⟨A, c, f, hc, hf, hst⟩ := h2.body
  have hfit := h.ok.fit
  have CI := hide (ids_any h (by omega))
  have CR : Hid (∀ W, Later w W → Calls Tryz.prog 41 #[.pointer (some ⟨g2, 0, none⟩)] W (NewInts W (idsOf t.L))) := fun W hW => rids_any (h2.later hW) hn hfit
  have HC : Hid (∀ W, Later w W → W.cell? ⟨g2, 2, none⟩ = some (.slice A t.L.length c)) := fun W hW => by
    have a1 := (Below.block hW g2 (lt_of_block hc)).trans hc
    exact cell_of_row W g2 2 _ _ _ a1
  have HF := hide hf
  have HST := hide hst
  have HB := hide h
  have HR2 := hide h2
  have HIL : Hid ((idsOf t.L).length = t.L.length) := by show _ = _; simp [idsOf]
  obtain ⟨n, hn2⟩ : ∃ n, t.L.length = n := ⟨_, rfl⟩
  rw [hn2] at HC HF HIL hn
  have HN := hide hn2
  have HNN := hide hn
  clear h h2 hc hf hst hn2 hfit
  go_enter Tryz.func13, Tryz.ntmps13
  go_wp2_with (fail)
  refine CI.out.mono ?_
  rintro e w1 ⟨A1, n1, c1, rfl, ho1, hi1, hc1, hl1⟩
  have HI1 := hide hi1
  have L1 : Hid (Later w w1) := hl1
  clear ho1 hc1 hl1 CI
  go_wp2_with (fail)
  refine (CR.out _ L1.out).mono ?_
  rintro e w2 ⟨A2, n2, c2, rfl, ho2, hi2, hc2, hl2⟩
  have hi12 := HI1.out.below (show Below _ w1 w2 from hl2)
  have hlen1 := hi12.1
  have hlen2 := hi2.1
  rw [HIL.out] at hlen1 hlen2
  have C3 := hide (refints_any A1 A2 n1 c1 n2 c2 _ _ _ _ w2 hi12 hi2 (by have := HNN.out; omega) (by have := HNN.out; omega))
  rw [eqI_self] at C3
  have L2a : Later w w1 := L1.out
  have L2 : Hid (Later w w2) := Later.trans L2a hl2
  clear ho2 hi2 hc2 hl2 hi12 hlen1 hlen2 L2a
  go_wp2_with (fail)
  refine C3.out.mono ?_
  rintro e w3 ⟨rfl, hq3⟩
  have L23 : Later w2 w3 := by obtain ⟨q, rfl⟩ := hq3; exact below_drewN _ _ _
  have L3a : Later w w2 := L2.out
  have L3 : Hid (Later w w3) := Later.trans L3a L23
  have c3 := HC.out _ L3.out
  clear hq3 L23 L3a C3
  go_wp2
  go_loopw [20] (fun i wr => ∃ q : Nat, q ≤ n ∧ i = .int .i64 (q : Int) ∧ Hid (Later w wr)) (fun i _ => n - (Go.RowKit.intOf i).toNat)
  case atStart => exact ⟨0, by omega, rfl, L3⟩
  case round =>
    obtain ⟨q, hq, rfl, LR⟩ := hrel
    by_cases hqn : q < n
    · obtain ⟨bb, off, c', hv, _, _, hbb, hr⟩ := FlatAt.elem (HF.out.kept (Kept.of_below LR.out _)) hqn
      obtain ⟨rfl, rfl⟩ : A = some ⟨bb, off, none⟩ ∧ c = c' := by injection hv with e1 _ e3; exact ⟨e1, e3⟩
      obtain ⟨x, hx⟩ : ∃ x, t.L[q]? = some x := ⟨t.L[q]'(by rw [HN.out]; exact hqn), List.getElem?_eq_getElem _⟩
      rw [flat_get (itemC f) 14 t.L q x (fun z _ => itemC_len f z) hx] at hr
      have HR := hide hr
      have HXM : Hid (x ∈ t.L) := List.mem_of_getElem? hx
      have HXE : Hid (entAt t.L x.id = some x) := entAt_get HB.out.ok.1 hx
      have I5 : Hid (IBox wr.heap.size (.int .i64 0 :: SagaD.zero.cells) (wr.alloc (.cells #[.int .i64 0, .string ⟨#[]⟩, .slice none 0 0, .int .i64 0, .int .i64 0, .int .i64 0, .bool false, .bool false, .bool false, .bool false, .bool false, .bool false, .bool false, .bool false] 73 (0, 0)))) := heap_alloc_new _ _
      have L5a : Hid (Later wr (wr.alloc (.cells #[.int .i64 0, .string ⟨#[]⟩, .slice none 0 0, .int .i64 0, .int .i64 0, .int .i64 0, .bool false, .bool false, .bool false, .bool false, .bool false, .bool false, .bool false, .bool false] 73 (0, 0)))) := (Below.refl _ _).alloc (Nat.le_refl _) _
      clear hv hr hx
      go_wp2_with (first | (refine wpList_val rfl (by rfl) (exec_load_item _ (by rfl) (by rfl) HR.out) ?_) | (refine wpList_store_item (f := f) (y := x) (by rfl) _ _ (by rfl) (by rfl) I5.out (by rfl) ?_))
      intro w5 Z5 G5
      have L5 : Hid (Later wr w5) := L5a.out.grown G5 (by simp) (fun k hk => by have b1 := Option.some.inj hk; omega)
      have LW5 : Hid (Later w w5) := Later.trans (show Later w wr from LR.out) L5.out
      have Z5h := hide Z5
      have hid : I64 x.id := by have a1 := (HB.out.ok.2.1 x HXM.out); exact ⟨by have := a1.1.2.2.2; omega, by have := a1.2; omega⟩
      have CS := hide (saga_any (id := x.id) (HB.out.later LW5.out) hid)
      obtain ⟨e1, e2, e3⟩ := atS_some HXE.out
      rw [e1, e2, e3] at CS
      have HID := hide hid
      have ci : w5.cell? ⟨wr.heap.size, 0, none⟩ = some (.int .i64 x.id) := cell_of_row w5 _ 0 _ _ _ Z5
      clear Z5 G5 I5 L5a hid e1 e2 e3
      go_wp2_with (fail)
      refine CS.out.mono ?_
      rintro e w6 ⟨p, m, c6, rfl, hs6, hl6⟩
      obtain ⟨s2, hs2⟩ : ∃ s2, x.s.withV p m c6 = s2 := ⟨_, rfl⟩
      rw [hs2]
      have HS2 := hide hs2
      have S6 := hide hs6
      have L6 : Hid (Later w5 w6) := hl6
      have T6 : Hid (SBox 36 w6.heap.size SagaD.zero (w6.alloc (.cells #[.string ⟨#[]⟩, .slice none 0 0, .int .i64 0, .int .i64 0, .int .i64 0, .bool false, .bool false, .bool false, .bool false, .bool false, .bool false, .bool false, .bool false] 36 (0, 0)))) := heap_alloc_new _ _
      have L6b : Hid (Later w6 (w6.alloc (.cells #[.string ⟨#[]⟩, .slice none 0 0, .int .i64 0, .int .i64 0, .int .i64 0, .bool false, .bool false, .bool false, .bool false, .bool false, .bool false, .bool false, .bool false] 36 (0, 0)))) := (Below.refl _ _).alloc (Nat.le_refl _) _
      clear hs6 hl6 CS hs2 ci
      go_wp2_with (refine wpList_store_saga (s := s2) (by rfl) _ _ (by rfl) (by rfl) T6.out (by rfl) ?_)
      intro w7 X7a G7
      have X7 := hide X7a
      have L67 : Hid (Later w6 w7) := L6b.out.grown G7 (by simp) (fun k hk => by have := Option.some.inj hk; omega)
      have L56 : Later w5 w6 := L6.out
      have L57 : Hid (Later w5 w7) := Later.trans L56 L67.out
      have LW5b : Later w w5 := LW5.out
      have LW7 : Hid (Later w w7) := Later.trans LW5b L57.out
      have I7 : Hid (∀ W, Later w7 W → IBox wr.heap.size (itemC f x) W) := fun W hW => by
        have a1 : Later w5 W := Later.trans (show Later w5 w7 from L57.out) hW
        exact (Below.block a1 _ (lt_of_block Z5h.out)).trans Z5h.out
      have CI7 : Hid (∀ W, Later w7 W → W.cell? ⟨wr.heap.size, 0, none⟩ = some (.int .i64 x.id)) := fun W hW => cell_of_row W _ 0 _ _ _ (I7.out W hW)
      have RI7 : Hid (∀ W, Later w7 W → W.rangeAt wr.heap.size (0 + 1) (x.sd f).cells) := fun W hW => (range_item (range_box (I7.out W hW))).2
      have CSM : Hid (∀ W, Later w7 W → Calls Tryz.prog 42 #[s2.val, (x.sd f).val] W (Gives (.bool true) W)) := fun W hW => by
        have a1 : StepsAt (w5.heap.size ≤ ·) W (.slice p m c6) x.l := StepsAt.kept S6.out (Kept.of_below (Later.trans (show Later w6 w7 from L67.out) hW) _)
        have a2 : StepsAt G W (f x.id).v x.l := StepsAt.kept (HST.out x HXM.out) (Kept.of_below (Later.trans (show Later w w7 from LW7.out) hW) _)
        have a3 := rsame_yes (s := s2) (p := (f x.id).p) (n := (f x.id).n) (c := (f x.id).c) (l := x.l) (by rw [← HS2.out]; exact a1) a2
        rw [show s2.withV (f x.id).p (f x.id).n (f x.id).c = x.sd f from by rw [← HS2.out]; rfl] at a3
        exact a3
      obtain ⟨rr, hrr⟩ : ∃ rr, statusF t.L x.id = rr := ⟨_, rfl⟩
      have CST : Hid (∀ W, Later w7 W → Calls Tryz.prog 14 #[.pointer (some ⟨g, 0, none⟩), .int .i64 x.id] W (Gives rr.val W)) := fun W hW => by
        have a1 := status_any (HB.out.later (Later.trans (show Later w w7 from LW7.out) hW)) HID.out
        rw [hrr] at a1
        exact a1
      have CRT : Hid (∀ W, Later w7 W → Calls Tryz.prog 15 #[.pointer (some ⟨g2, 0, none⟩), .int .i64 x.id] W (Gives rr.val W)) := fun W hW => by
        have a1 := rstatus_any (id := x.id) (HR2.out.later (Later.trans (show Later w w7 from LW7.out) hW)) (by rw [HN.out]; have := HNN.out; omega)
        rw [hrr] at a1
        exact a1
      clear X7a G7 L56 LW5b hrr
      go_wp2_with (fail)
      refine wp_region_L (by kernel_rfl) ?_
      refine wpAnyL_take (i := 0) (d := some 31) (v := ?vaa0) rfl rfl (by kernel_rfl) (by kernel_rfl) (by kernel_rfl) (fun _ _ _ h => h) (by rfl) ?yaa0 ?_
      case yaa0 => (intro w' hw'; go_simp; try (with_reducible rfl))
      simp only [Act.put]; try simp only [sA_, sZ_, sS_]
      refine wpAnyL_take (i := 1) (d := some 32) (v := ?vaa1) rfl rfl (by kernel_rfl) (by kernel_rfl) (by kernel_rfl) (fun _ _ _ h => h) (by rfl) ?yaa1 ?_
      case yaa1 => (intro w' hw'; go_simp; try (with_reducible rfl))
      simp only [Act.put]; try simp only [sA_, sZ_, sS_]
      refine wpAnyL_take (i := 2) (d := some 33) (v := ?vaa2) rfl rfl (by kernel_rfl) (by kernel_rfl) (by kernel_rfl) (fun _ _ _ h => h) (by rfl) ?yaa2 ?_
      case yaa2 => (intro w' hw'; go_simp; try (with_reducible rfl))
      simp only [Act.put]; try simp only [sA_, sZ_, sS_]
      refine wpAnyL_take (i := 3) (d := some 34) (v := s2.val) rfl rfl (by kernel_rfl) (by kernel_rfl) (by kernel_rfl) (fun _ _ _ h => h) (by rfl) ?yaa3 ?_
      case yaa3 => (intro w' hw'; have hw1 : Later w7 w' := Later.trans (Later.drew _) hw'; exact exec_load_saga _ (by rfl) (by rfl) (X7.out.below hw1))
      simp only [Act.put]; try simp only [sA_, sZ_, sS_]
      refine wpAnyL_take (i := 4) (d := some 35) (v := ?vaa4) rfl rfl (by kernel_rfl) (by kernel_rfl) (by kernel_rfl) (fun _ _ _ h => h) (by rfl) ?yaa4 ?_
      case yaa4 => (intro w' hw'; go_simp; try (with_reducible rfl))
      simp only [Act.put]; try simp only [sA_, sZ_, sS_]
      refine wpAnyL_take (i := 5) (d := some 36) (v := (x.sd f).val) rfl rfl (by kernel_rfl) (by kernel_rfl) (by kernel_rfl) (fun _ _ _ h => h) (by rfl) ?yaa5 ?_
      case yaa5 => (intro w' hw'; have hw1 : Later w7 w' := Later.trans (Later.drew _) hw'; exact exec_load_ritem _ (by rfl) (by rfl) (RI7.out w' hw1))
      simp only [Act.put]; try simp only [sA_, sZ_, sS_]
      refine wpAnyL_only (i := 6) rfl (by kernel_rfl) (by rfl) fun K hK => ?_
      go_simp
      refine (CSM.out _ (Later.drew _)).mono ?_
      rintro e v1 ⟨rfl, hlv1⟩
      have V1L : Hid (Later w7 v1) := Later.trans (show Later w7 _ from (Later.drew _)) hlv1
      refine hK.out _ _ hlv1 ?_
      clear hlv1
      clear hK K
      try (simp only [Act.put]; try simp only [sA_, sZ_, sS_])
      refine wpAnyL_take (i := 7) (d := some 38) (v := ?vaa7) rfl rfl (by kernel_rfl) (by kernel_rfl) (by kernel_rfl) (fun _ _ _ h => h) (by rfl) ?yaa7 ?_
      case yaa7 => (intro w' hw'; go_simp; try (with_reducible rfl))
      simp only [Act.put]; try simp only [sA_, sZ_, sS_]
      refine wpAnyL_take (i := 8) (d := some 39) (v := ?vaa8) rfl rfl (by kernel_rfl) (by kernel_rfl) (by kernel_rfl) (fun _ _ _ h => h) (by rfl) ?yaa8 ?_
      case yaa8 => (intro w' hw'; go_simp; try (with_reducible rfl))
      simp only [Act.put]; try simp only [sA_, sZ_, sS_]
      refine wpAnyL_take (i := 9) (d := some 40) (v := ?vaa9) rfl rfl (by kernel_rfl) (by kernel_rfl) (by kernel_rfl) (fun _ _ _ h => h) (by rfl) ?yaa9 ?_
      case yaa9 => (intro w' hw'; go_simp; try (with_reducible rfl))
      simp only [Act.put]; try simp only [sA_, sZ_, sS_]
      refine wpAnyL_take (i := 10) (d := some 41) (v := ?vaa10) rfl rfl (by kernel_rfl) (by kernel_rfl) (by kernel_rfl) (fun _ _ _ h => h) (by rfl) ?yaa10 ?_
      case yaa10 => (intro w' hw'; go_simp; try (with_reducible rfl))
      simp only [Act.put]; try simp only [sA_, sZ_, sS_]
      refine wpAnyL_take (i := 11) (d := some 42) (v := ?vaa11) rfl rfl (by kernel_rfl) (by kernel_rfl) (by kernel_rfl) (fun _ _ _ h => h) (by rfl) ?yaa11 ?_
      case yaa11 => (intro w' hw'; go_simp; try (with_reducible rfl))
      simp only [Act.put]; try simp only [sA_, sZ_, sS_]
      refine wpAnyL_take (i := 12) (d := some 43) (v := ?vaa12) rfl rfl (by kernel_rfl) (by kernel_rfl) (by kernel_rfl) (fun _ _ _ h => h) (by rfl) ?yaa12 ?_
      case yaa12 => (intro w' hw'; have hw1 : Later w7 w' := Later.trans (show Later w7 v1 from V1L.out) hw'; have cc := CI7.out w' hw1; go_simp; try (with_reducible rfl))
      simp only [Act.put]; try simp only [sA_, sZ_, sS_]
      refine wpAnyL_take (i := 14) (d := some 45) (v := ?vaa14) rfl rfl (by kernel_rfl) (by kernel_rfl) (by kernel_rfl) (fun _ _ _ h => h) (by rfl) ?yaa14 ?_
      case yaa14 => (intro w' hw'; go_simp; try (with_reducible rfl))
      simp only [Act.put]; try simp only [sA_, sZ_, sS_]
      refine wpAnyL_take (i := 15) (d := some 46) (v := ?vaa15) rfl rfl (by kernel_rfl) (by kernel_rfl) (by kernel_rfl) (fun _ _ _ h => h) (by rfl) ?yaa15 ?_
      case yaa15 => (intro w' hw'; go_simp; try (with_reducible rfl))
      simp only [Act.put]; try simp only [sA_, sZ_, sS_]
      refine wpAnyL_take (i := 16) (d := some 47) (v := ?vaa16) rfl rfl (by kernel_rfl) (by kernel_rfl) (by kernel_rfl) (fun _ _ _ h => h) (by rfl) ?yaa16 ?_
      case yaa16 => (intro w' hw'; have hw1 : Later w7 w' := Later.trans (show Later w7 v1 from V1L.out) hw'; have cc := CI7.out w' hw1; go_simp; try (with_reducible rfl))
      simp only [Act.put]; try simp only [sA_, sZ_, sS_]
      refine wpAnyL_only (i := 13) rfl (by kernel_rfl) (by rfl) fun K hK => ?_
      go_simp
      refine (CST.out _ V1L.out).mono ?_
      rintro e v2 ⟨rfl, hlv2⟩
      have V2L : Hid (Later w7 v2) := Later.trans (show Later w7 _ from V1L.out) hlv2
      refine hK.out _ _ hlv2 ?_
      clear hlv2
      clear hK K
      try (simp only [Act.put]; try simp only [sA_, sZ_, sS_])
      refine wpAnyL_only (i := 17) rfl (by kernel_rfl) (by rfl) fun K hK => ?_
      go_simp
      refine (CRT.out _ V2L.out).mono ?_
      rintro e v3 ⟨rfl, hlv3⟩
      have V3L : Hid (Later w7 v3) := Later.trans (show Later w7 _ from V2L.out) hlv3
      refine hK.out _ _ hlv3 ?_
      clear hlv3
      clear hK K
      try (simp only [Act.put]; try simp only [sA_, sZ_, sS_])
      refine wpAnyL_take (i := 18) (d := some 49) (v := .bool false) rfl rfl (by kernel_rfl) (by kernel_rfl) (by kernel_rfl) (fun _ _ _ h => h) (by rfl) ?yaa18 ?_
      case yaa18 => (intro w' hw'; exact (exec_neq_rep rr rr _ _ _ (by rfl) (by rfl) (by rfl)).trans (by rw [show (!decide (rr = rr)) = false from by simp]))
      simp only [Act.put]; try simp only [sA_, sZ_, sS_]
      refine wpAnyL_take (i := 19) (d := some 50) (v := ?vaa19) rfl rfl (by kernel_rfl) (by kernel_rfl) (by kernel_rfl) (fun _ _ _ h => h) (by rfl) ?yaa19 ?_
      case yaa19 => (intro w' hw'; go_simp; try (with_reducible rfl))
      simp only [Act.put]; try simp only [sA_, sZ_, sS_]
      refine wpAnyL_done (by kernel_rfl) ?_ _
      have V3 : Hid (Later w v3) := Later.trans (show Later w w7 from LW7.out) V3L.out
      go_wp2
      go_roundw
      case rel => exact ⟨q + 1, by omega, by go_num, V3⟩
      case measure => simp [Go.RowKit.intOf]; omega
    · obtain rfl : q = n := by omega
      go_wp2
      go_ret
      exact ⟨rfl, LR.out⟩
end
end Go.Proofs.YtpckdhjnhnonhaaGreat
/- Set of package book. -/
namespace Go.Proofs.YtpckdhjnhnonhaaGreat
open Go.RowKit Go.Maps
def BSetV (F : Nat → Prop) (g b k : Nat) (most er : Int) (t : BkS) (w : World) (e : Ending) (w' : World) : Prop := e = .returned (.int .i64 er) ∧ BookAt F w' g b k most t ∧ Turned (fun i => i = g ∨ i = b) w w'
theorem good_step {l : List StepD} {s : SagaD} (h : goodF l s = true) : l.length ≤ 8 ∧ 0 ≤ s.step ∧ s.step ≤ 9 := by
  have hc := check_of_good h
  have h8 := (check_good hc).1
  refine ⟨h8, ?_⟩
  unfold goodF at h
  rw [if_neg (by rw [hc]; decide)] at h
  split at h
  · simp only [Bool.and_eq_true, decide_eq_true_eq] at h
    have := tries_pos (l := l) (k := s.step) (by omega)
    omega
  · split at h
    · simp only [Bool.and_eq_true, decide_eq_true_eq] at h
      have := tries_pos (l := l) (k := s.step) (by omega)
      omega
    · split at h
      · simp only [Bool.and_eq_true, decide_eq_true_eq] at h
        have := tries_pos (l := l) (k := s.step) (by omega)
        omega
      · split at h
        · simp only [Bool.and_eq_true, decide_eq_true_eq] at h
          omega
        · split at h
          · simp only [Bool.and_eq_true, decide_eq_true_eq] at h
            omega
          · cases h
theorem ownsMap_below {w w' : World} {b k : Nat} {D : DataW Value} (h : w.ownsMap Tryz.prog 3 heldR b k D) (hl : Later w w') (hb : b < w.heap.size) : w'.ownsMap Tryz.prog 3 heldR b k D := by
  obtain ⟨es, clock, hbk, rest⟩ := h
  exact ⟨es, clock, (Below.block hl b hb).trans hbk, rest⟩
theorem exec_len_bk {w : World} {a : Act} {op : Oper} {b k n : Nat} {D : DataW Value} (m : Operand) (ho : op.op = Op.call { callee := Callee.builtin Builtin.len, args := #[m], argTypes := #[68] }) (hm : a.eval m = .map (some b)) (hown : w.ownsMap Tryz.prog 3 heldR b k D) (hs : Maps.size D = n) :
    (execOp a.eval op).run Tryz.prog w = .ok (.value (.int .i64 (n : Int))) w := by
  rw [← hs]
  simp [execOp, ho, resolve, invoke, builtin, hm, hown.len Tryz.underlying68 op.type, Result.andThen]
section
variable {F : Nat → Prop} {w : World} {g b k : Nat} {most : Int} {t : BkS}
set_option maxHeartbeats 4000000 in
set_option maxRecDepth 100000 in
theorem set_lo {F0 : Nat → Prop} {id : Int} {s : SagaD} {l : List StepD} (h : BookAt F w g b k most t) (_hk : k ≤ 1000000) (_hn : t.L.length ≤ 1000000) (hs : StepsAt F0 w s.v l) (_hw : ∀ x ∈ l, x.wf) (_hid : I64 id) (_h1 : I64 s.step) (hF : ∀ i, w.heap.size ≤ i → F i) (hr : id < 1) :
    Calls Tryz.prog 19 #[.pointer (some ⟨g, 0, none⟩), .int .i64 id, s.val] w (BSetV F g b (k + 1) most (2) (t) w) := by
  have hlt := h.lt
  obtain ⟨W1, hW1⟩ : ∃ W1, W1 = w.alloc (.cells s.cells.toArray 36 (0, 0)) := ⟨_, rfl⟩
  obtain ⟨d, hd⟩ : ∃ d, d = w.heap.size := ⟨_, rfl⟩
  have X1 : Hid (SBox 36 d s W1) := by rw [hW1, hd]; exact heap_alloc_new _ _
  have L1 : Hid (Later w W1) := by rw [hW1]; exact (Below.refl _ _).alloc (Nat.le_refl _) _
  have HDG : Hid (g < d ∧ b < d) := by rw [hd]; exact hlt
  have HDW : Hid (w.heap.size = d) := hd.symm
  have h1 : BookAt F W1 g b k most t := h.later L1.out
  have H1 := hide h1
  have HA := hide h.apart
  have hs1 := StepsAt.kept hs (Kept.of_below L1.out _)
  have HS1 := hide hs1
  have C := hide (bat_any (id := id) h1 _hid)
  have CM : Hid (∀ W, Later W1 W → Calls Tryz.prog 25 #[.pointer (some ⟨g, 0, none⟩)] W fun e w' => e = .returned (.bool true) ∧ W = w') := fun W hW => made_yes (H1.out.later hW)
  have HW1 := hide hW1.symm
  have HG := hide hd.symm
  clear h _hk _hn hs hs1 _hw _hid _h1 hF hW1 hd h1 hlt
  go_enter Tryz.func19, Tryz.ntmps19
  go_wp2_with (fail)
  simp only [HW1.out, HG.out]
  refine C.out.mono ?_
  rintro e w2 ⟨p, m, c2, rfl, hs2, hl2⟩
  obtain ⟨s2, hs2e⟩ : ∃ s2, (atS t id).withV p m c2 = s2 := ⟨_, rfl⟩
  rw [hs2e]
  have L2 : Hid (Later W1 w2) := hl2
  have T2 : Hid (SBox 36 w2.heap.size SagaD.zero (w2.alloc (.cells #[.string ⟨#[]⟩, .slice none 0 0, .int .i64 0, .int .i64 0, .int .i64 0, .bool false, .bool false, .bool false, .bool false, .bool false, .bool false, .bool false, .bool false] 36 (0, 0)))) := heap_alloc_new _ _
  have L2b : Hid (Later w2 (w2.alloc (.cells #[.string ⟨#[]⟩, .slice none 0 0, .int .i64 0, .int .i64 0, .int .i64 0, .bool false, .bool false, .bool false, .bool false, .bool false, .bool false, .bool false, .bool false] 36 (0, 0)))) := (Below.refl _ _).alloc (Nat.le_refl _) _
  clear hs2 hl2 C hs2e
  go_wp2_with (refine wpList_store_saga (s := s2) (by rfl) _ _ (by rfl) (by rfl) T2.out (by rfl) ?_)
  intro w3 X3 G3
  have L3a : Later w2 w3 := L2b.out.grown G3 (by simp) (fun k hk => by have := Option.some.inj hk; omega)
  have L3b : Later W1 w2 := L2.out
  have L3 : Hid (Later W1 w3) := Later.trans L3b L3a
  have H3 := hide (H1.out.later L3.out)
  have X3d : Hid (SBox 36 d s w3) := X1.out.below L3.out
  clear X3 G3 L3a L3b
  go_wp2_with (fail)
  refine (CM.out _ L3.out).mono ?_
  rintro e w4 ⟨rfl, hq4⟩
  obtain rfl := hq4
  go_wp2_with (fail)
  go_ret
  have La0 : Later w W1 := L1.out
  have La : Later w w3 := Later.trans La0 L3.out
  exact ⟨rfl, (H3.out).more (by omega), Turned.of_below La _⟩
set_option maxHeartbeats 4000000 in
set_option maxRecDepth 100000 in
theorem set_hi {F0 : Nat → Prop} {id : Int} {s : SagaD} {l : List StepD} (h : BookAt F w g b k most t) (_hk : k ≤ 1000000) (_hn : t.L.length ≤ 1000000) (hs : StepsAt F0 w s.v l) (_hw : ∀ x ∈ l, x.wf) (_hid : I64 id) (_h1 : I64 s.step) (hF : ∀ i, w.heap.size ≤ i → F i) (hr0 : 1 ≤ id) (hr : 1099511627776 < id) :
    Calls Tryz.prog 19 #[.pointer (some ⟨g, 0, none⟩), .int .i64 id, s.val] w (BSetV F g b (k + 1) most (2) (t) w) := by
  have hlt := h.lt
  obtain ⟨W1, hW1⟩ : ∃ W1, W1 = w.alloc (.cells s.cells.toArray 36 (0, 0)) := ⟨_, rfl⟩
  obtain ⟨d, hd⟩ : ∃ d, d = w.heap.size := ⟨_, rfl⟩
  have X1 : Hid (SBox 36 d s W1) := by rw [hW1, hd]; exact heap_alloc_new _ _
  have L1 : Hid (Later w W1) := by rw [hW1]; exact (Below.refl _ _).alloc (Nat.le_refl _) _
  have HDG : Hid (g < d ∧ b < d) := by rw [hd]; exact hlt
  have HDW : Hid (w.heap.size = d) := hd.symm
  have h1 : BookAt F W1 g b k most t := h.later L1.out
  have H1 := hide h1
  have HA := hide h.apart
  have hs1 := StepsAt.kept hs (Kept.of_below L1.out _)
  have HS1 := hide hs1
  have C := hide (bat_any (id := id) h1 _hid)
  have CM : Hid (∀ W, Later W1 W → Calls Tryz.prog 25 #[.pointer (some ⟨g, 0, none⟩)] W fun e w' => e = .returned (.bool true) ∧ W = w') := fun W hW => made_yes (H1.out.later hW)
  have HW1 := hide hW1.symm
  have HG := hide hd.symm
  clear h _hk _hn hs hs1 _hw _hid _h1 hF hW1 hd h1 hlt
  go_enter Tryz.func19, Tryz.ntmps19
  go_wp2_with (fail)
  simp only [HW1.out, HG.out]
  refine C.out.mono ?_
  rintro e w2 ⟨p, m, c2, rfl, hs2, hl2⟩
  obtain ⟨s2, hs2e⟩ : ∃ s2, (atS t id).withV p m c2 = s2 := ⟨_, rfl⟩
  rw [hs2e]
  have L2 : Hid (Later W1 w2) := hl2
  have T2 : Hid (SBox 36 w2.heap.size SagaD.zero (w2.alloc (.cells #[.string ⟨#[]⟩, .slice none 0 0, .int .i64 0, .int .i64 0, .int .i64 0, .bool false, .bool false, .bool false, .bool false, .bool false, .bool false, .bool false, .bool false] 36 (0, 0)))) := heap_alloc_new _ _
  have L2b : Hid (Later w2 (w2.alloc (.cells #[.string ⟨#[]⟩, .slice none 0 0, .int .i64 0, .int .i64 0, .int .i64 0, .bool false, .bool false, .bool false, .bool false, .bool false, .bool false, .bool false, .bool false] 36 (0, 0)))) := (Below.refl _ _).alloc (Nat.le_refl _) _
  clear hs2 hl2 C hs2e
  go_wp2_with (refine wpList_store_saga (s := s2) (by rfl) _ _ (by rfl) (by rfl) T2.out (by rfl) ?_)
  intro w3 X3 G3
  have L3a : Later w2 w3 := L2b.out.grown G3 (by simp) (fun k hk => by have := Option.some.inj hk; omega)
  have L3b : Later W1 w2 := L2.out
  have L3 : Hid (Later W1 w3) := Later.trans L3b L3a
  have H3 := hide (H1.out.later L3.out)
  have X3d : Hid (SBox 36 d s w3) := X1.out.below L3.out
  clear X3 G3 L3a L3b
  go_wp2_with (fail)
  refine (CM.out _ L3.out).mono ?_
  rintro e w4 ⟨rfl, hq4⟩
  obtain rfl := hq4
  go_wp2_with (fail)
  go_ret
  have La0 : Later w W1 := L1.out
  have La : Later w w3 := Later.trans La0 L3.out
  exact ⟨rfl, (H3.out).more (by omega), Turned.of_below La _⟩
set_option maxHeartbeats 4000000 in
set_option maxRecDepth 100000 in
theorem set_bad {F0 : Nat → Prop} {id : Int} {s : SagaD} {l : List StepD} (h : BookAt F w g b k most t) (_hk : k ≤ 1000000) (_hn : t.L.length ≤ 1000000) (hs : StepsAt F0 w s.v l) (_hw : ∀ x ∈ l, x.wf) (_hid : I64 id) (_h1 : I64 s.step) (hF : ∀ i, w.heap.size ≤ i → F i) (hr0 : 1 ≤ id) (hr1 : id ≤ 1099511627776) (hgd : goodF l s = false) :
    Calls Tryz.prog 19 #[.pointer (some ⟨g, 0, none⟩), .int .i64 id, s.val] w (BSetV F g b (k + 1) most (2) (t) w) := by
  have hlt := h.lt
  obtain ⟨W1, hW1⟩ : ∃ W1, W1 = w.alloc (.cells s.cells.toArray 36 (0, 0)) := ⟨_, rfl⟩
  obtain ⟨d, hd⟩ : ∃ d, d = w.heap.size := ⟨_, rfl⟩
  have X1 : Hid (SBox 36 d s W1) := by rw [hW1, hd]; exact heap_alloc_new _ _
  have L1 : Hid (Later w W1) := by rw [hW1]; exact (Below.refl _ _).alloc (Nat.le_refl _) _
  have HDG : Hid (g < d ∧ b < d) := by rw [hd]; exact hlt
  have HDW : Hid (w.heap.size = d) := hd.symm
  have h1 : BookAt F W1 g b k most t := h.later L1.out
  have H1 := hide h1
  have HA := hide h.apart
  have hs1 := StepsAt.kept hs (Kept.of_below L1.out _)
  have HS1 := hide hs1
  have C := hide (bat_any (id := id) h1 _hid)
  have CM : Hid (∀ W, Later W1 W → Calls Tryz.prog 25 #[.pointer (some ⟨g, 0, none⟩)] W fun e w' => e = .returned (.bool true) ∧ W = w') := fun W hW => made_yes (H1.out.later hW)
  have k1 : decide (id < 1) = false := by simp; omega
  have k2 : decide (1099511627776 < id) = false := by simp; omega
  have HWF := hide _hw
  have HST := hide _h1
  have HGD := hide hgd
  clear hgd
  have HW1 := hide hW1.symm
  have HG := hide hd.symm
  clear h _hk _hn hs hs1 _hw _hid _h1 hF hW1 hd h1 hlt
  go_enter Tryz.func19, Tryz.ntmps19
  go_wp2_with (fail)
  simp only [HW1.out, HG.out]
  refine C.out.mono ?_
  rintro e w2 ⟨p, m, c2, rfl, hs2, hl2⟩
  obtain ⟨s2, hs2e⟩ : ∃ s2, (atS t id).withV p m c2 = s2 := ⟨_, rfl⟩
  rw [hs2e]
  have L2 : Hid (Later W1 w2) := hl2
  have T2 : Hid (SBox 36 w2.heap.size SagaD.zero (w2.alloc (.cells #[.string ⟨#[]⟩, .slice none 0 0, .int .i64 0, .int .i64 0, .int .i64 0, .bool false, .bool false, .bool false, .bool false, .bool false, .bool false, .bool false, .bool false] 36 (0, 0)))) := heap_alloc_new _ _
  have L2b : Hid (Later w2 (w2.alloc (.cells #[.string ⟨#[]⟩, .slice none 0 0, .int .i64 0, .int .i64 0, .int .i64 0, .bool false, .bool false, .bool false, .bool false, .bool false, .bool false, .bool false, .bool false] 36 (0, 0)))) := (Below.refl _ _).alloc (Nat.le_refl _) _
  clear hs2 hl2 C hs2e
  go_wp2_with (refine wpList_store_saga (s := s2) (by rfl) _ _ (by rfl) (by rfl) T2.out (by rfl) ?_)
  intro w3 X3 G3
  have L3a : Later w2 w3 := L2b.out.grown G3 (by simp) (fun k hk => by have := Option.some.inj hk; omega)
  have L3b : Later W1 w2 := L2.out
  have L3 : Hid (Later W1 w3) := Later.trans L3b L3a
  have H3 := hide (H1.out.later L3.out)
  have X3d : Hid (SBox 36 d s w3) := X1.out.below L3.out
  clear X3 G3 L3a L3b
  go_wp2_with (fail)
  refine (CM.out _ L3.out).mono ?_
  rintro e w4 ⟨rfl, hq4⟩
  obtain rfl := hq4
  have CG := hide (good_any (s := s) (l := l) (StepsAt.kept HS1.out (Kept.of_below L3.out _)) HWF.out HST.out)
  rw [HGD.out] at CG
  go_wp2_with (refine wpList_val rfl (by rfl) (exec_load_saga _ (by rfl) (by rfl) X3d.out) ?_)
  refine CG.out.mono ?_
  rintro e w5 ⟨rfl, hl5⟩
  have L35 : Hid (Later w3 w5) := hl5
  have L3c : Later W1 w3 := L3.out
  have L5 : Hid (Later W1 w5) := Later.trans L3c hl5
  have H5 := hide (H1.out.later L5.out)
  have X5d : Hid (SBox 36 d s w5) := X1.out.below L5.out
  clear hl5 CG L3c
  go_wp2_with (fail)
  go_ret
  have La0 : Later w W1 := L1.out
  have La : Later w w5 := Later.trans La0 L5.out
  exact ⟨rfl, (H5.out).more (by omega), Turned.of_below La _⟩
set_option maxHeartbeats 4000000 in
set_option maxRecDepth 100000 in
theorem set_many {F0 : Nat → Prop} {id : Int} {s : SagaD} {l : List StepD} (h : BookAt F w g b k most t) (_hk : k ≤ 1000000) (_hn : t.L.length ≤ 1000000) (hs : StepsAt F0 w s.v l) (_hw : ∀ x ∈ l, x.wf) (_hid : I64 id) (_h1 : I64 s.step) (hF : ∀ i, w.heap.size ≤ i → F i) (hr0 : 1 ≤ id) (hr1 : id ≤ 1099511627776) (hgd : goodF l s = true) (hno : atB t id = false) (h32 : 32 ≤ t.L.length) :
    Calls Tryz.prog 19 #[.pointer (some ⟨g, 0, none⟩), .int .i64 id, s.val] w (BSetV F g b (k + 1) most (7) (t) w) := by
  have hlt := h.lt
  obtain ⟨W1, hW1⟩ : ∃ W1, W1 = w.alloc (.cells s.cells.toArray 36 (0, 0)) := ⟨_, rfl⟩
  obtain ⟨d, hd⟩ : ∃ d, d = w.heap.size := ⟨_, rfl⟩
  have X1 : Hid (SBox 36 d s W1) := by rw [hW1, hd]; exact heap_alloc_new _ _
  have L1 : Hid (Later w W1) := by rw [hW1]; exact (Below.refl _ _).alloc (Nat.le_refl _) _
  have HDG : Hid (g < d ∧ b < d) := by rw [hd]; exact hlt
  have HDW : Hid (w.heap.size = d) := hd.symm
  have h1 : BookAt F W1 g b k most t := h.later L1.out
  have H1 := hide h1
  have HA := hide h.apart
  have hs1 := StepsAt.kept hs (Kept.of_below L1.out _)
  have HS1 := hide hs1
  have C := hide (bat_any (id := id) h1 _hid)
  have CM : Hid (∀ W, Later W1 W → Calls Tryz.prog 25 #[.pointer (some ⟨g, 0, none⟩)] W fun e w' => e = .returned (.bool true) ∧ W = w') := fun W hW => made_yes (H1.out.later hW)
  have k1 : decide (id < 1) = false := by simp; omega
  have k2 : decide (1099511627776 < id) = false := by simp; omega
  have HWF := hide _hw
  have HST := hide _h1
  have HGD := hide hgd
  clear hgd
  rw [hno] at C
  clear hno
  obtain ⟨n, hn⟩ : ∃ n, t.L.length = n := ⟨_, rfl⟩
  have HLN := hide hn
  rw [hn] at h32
  clear hn
  have HW1 := hide hW1.symm
  have HG := hide hd.symm
  clear h _hk _hn hs hs1 _hw _hid _h1 hF hW1 hd h1 hlt
  go_enter Tryz.func19, Tryz.ntmps19
  go_wp2_with (fail)
  simp only [HW1.out, HG.out]
  refine C.out.mono ?_
  rintro e w2 ⟨p, m, c2, rfl, hs2, hl2⟩
  obtain ⟨s2, hs2e⟩ : ∃ s2, (atS t id).withV p m c2 = s2 := ⟨_, rfl⟩
  rw [hs2e]
  have L2 : Hid (Later W1 w2) := hl2
  have T2 : Hid (SBox 36 w2.heap.size SagaD.zero (w2.alloc (.cells #[.string ⟨#[]⟩, .slice none 0 0, .int .i64 0, .int .i64 0, .int .i64 0, .bool false, .bool false, .bool false, .bool false, .bool false, .bool false, .bool false, .bool false] 36 (0, 0)))) := heap_alloc_new _ _
  have L2b : Hid (Later w2 (w2.alloc (.cells #[.string ⟨#[]⟩, .slice none 0 0, .int .i64 0, .int .i64 0, .int .i64 0, .bool false, .bool false, .bool false, .bool false, .bool false, .bool false, .bool false, .bool false] 36 (0, 0)))) := (Below.refl _ _).alloc (Nat.le_refl _) _
  clear hs2 hl2 C hs2e
  go_wp2_with (refine wpList_store_saga (s := s2) (by rfl) _ _ (by rfl) (by rfl) T2.out (by rfl) ?_)
  intro w3 X3 G3
  have L3a : Later w2 w3 := L2b.out.grown G3 (by simp) (fun k hk => by have := Option.some.inj hk; omega)
  have L3b : Later W1 w2 := L2.out
  have L3 : Hid (Later W1 w3) := Later.trans L3b L3a
  have H3 := hide (H1.out.later L3.out)
  have X3d : Hid (SBox 36 d s w3) := X1.out.below L3.out
  clear X3 G3 L3a L3b
  go_wp2_with (fail)
  refine (CM.out _ L3.out).mono ?_
  rintro e w4 ⟨rfl, hq4⟩
  obtain rfl := hq4
  have CG := hide (good_any (s := s) (l := l) (StepsAt.kept HS1.out (Kept.of_below L3.out _)) HWF.out HST.out)
  rw [HGD.out] at CG
  go_wp2_with (refine wpList_val rfl (by rfl) (exec_load_saga _ (by rfl) (by rfl) X3d.out) ?_)
  refine CG.out.mono ?_
  rintro e w5 ⟨rfl, hl5⟩
  have L35 : Hid (Later w3 w5) := hl5
  have L3c : Later W1 w3 := L3.out
  have L5 : Hid (Later W1 w5) := Later.trans L3c hl5
  have H5 := hide (H1.out.later L5.out)
  have X5d : Hid (SBox 36 d s w5) := X1.out.below L5.out
  clear hl5 CG L3c
  obtain ⟨f, hm5, _⟩ := H5.out.body
  have HM5 := hide hm5
  have c2g := H5.out.c2
  have hsz : Maps.size (mapD (t.L.map (pairE f))) = t.L.length := by rw [size_mapD, List.length_map]
  rw [HLN.out] at hsz
  have HSZ := hide hsz
  clear hm5 hsz
  go_wp2_with (refine wpList_val rfl (by rfl) (exec_len_bk _ (by rfl) (by rfl) HM5.out HSZ.out) ?_)
  go_ret
  have La0 : Later w W1 := L1.out
  have La : Later w w5 := Later.trans La0 L5.out
  exact ⟨rfl, (H5.out).more (by omega), Turned.of_below La _⟩
set_option maxHeartbeats 4000000 in
set_option maxRecDepth 100000 in
theorem set_full_a {F0 : Nat → Prop} {id : Int} {s : SagaD} {l : List StepD} (h : BookAt F w g b k most t) (_hk : k ≤ 1000000) (_hn : t.L.length ≤ 1000000) (hs : StepsAt F0 w s.v l) (_hw : ∀ x ∈ l, x.wf) (_hid : I64 id) (_h1 : I64 s.step) (hF : ∀ i, w.heap.size ≤ i → F i) (hr0 : 1 ≤ id) (hr1 : id ≤ 1099511627776) (hgd : goodF l s = true) (hno : atB t id = true) (hop : (decide (s.st = 1) || decide (s.st = 2)) = true) (hfu : fullB t.L most id = true) :
    Calls Tryz.prog 19 #[.pointer (some ⟨g, 0, none⟩), .int .i64 id, s.val] w (BSetV F g b (k + 1) most (7) (t) w) := by
  have hlt := h.lt
  obtain ⟨W1, hW1⟩ : ∃ W1, W1 = w.alloc (.cells s.cells.toArray 36 (0, 0)) := ⟨_, rfl⟩
  obtain ⟨d, hd⟩ : ∃ d, d = w.heap.size := ⟨_, rfl⟩
  have X1 : Hid (SBox 36 d s W1) := by rw [hW1, hd]; exact heap_alloc_new _ _
  have L1 : Hid (Later w W1) := by rw [hW1]; exact (Below.refl _ _).alloc (Nat.le_refl _) _
  have HDG : Hid (g < d ∧ b < d) := by rw [hd]; exact hlt
  have HDW : Hid (w.heap.size = d) := hd.symm
  have h1 : BookAt F W1 g b k most t := h.later L1.out
  have H1 := hide h1
  have HA := hide h.apart
  have hs1 := StepsAt.kept hs (Kept.of_below L1.out _)
  have HS1 := hide hs1
  have C := hide (bat_any (id := id) h1 _hid)
  have CM : Hid (∀ W, Later W1 W → Calls Tryz.prog 25 #[.pointer (some ⟨g, 0, none⟩)] W fun e w' => e = .returned (.bool true) ∧ W = w') := fun W hW => made_yes (H1.out.later hW)
  have k1 : decide (id < 1) = false := by simp; omega
  have k2 : decide (1099511627776 < id) = false := by simp; omega
  have HWF := hide _hw
  have HST := hide _h1
  have HGD := hide hgd
  clear hgd
  rw [hno] at C
  clear hno
  have HOP := hide hop
  have HFU := hide hfu
  have HNN := hide _hn
  clear hop hfu
  have HW1 := hide hW1.symm
  have HG := hide hd.symm
  clear h _hk _hn hs hs1 _hw _hid _h1 hF hW1 hd h1 hlt
  go_enter Tryz.func19, Tryz.ntmps19
  go_wp2_with (fail)
  simp only [HW1.out, HG.out]
  refine C.out.mono ?_
  rintro e w2 ⟨p, m, c2, rfl, hs2, hl2⟩
  obtain ⟨s2, hs2e⟩ : ∃ s2, (atS t id).withV p m c2 = s2 := ⟨_, rfl⟩
  rw [hs2e]
  have L2 : Hid (Later W1 w2) := hl2
  have T2 : Hid (SBox 36 w2.heap.size SagaD.zero (w2.alloc (.cells #[.string ⟨#[]⟩, .slice none 0 0, .int .i64 0, .int .i64 0, .int .i64 0, .bool false, .bool false, .bool false, .bool false, .bool false, .bool false, .bool false, .bool false] 36 (0, 0)))) := heap_alloc_new _ _
  have L2b : Hid (Later w2 (w2.alloc (.cells #[.string ⟨#[]⟩, .slice none 0 0, .int .i64 0, .int .i64 0, .int .i64 0, .bool false, .bool false, .bool false, .bool false, .bool false, .bool false, .bool false, .bool false] 36 (0, 0)))) := (Below.refl _ _).alloc (Nat.le_refl _) _
  clear hs2 hl2 C hs2e
  go_wp2_with (refine wpList_store_saga (s := s2) (by rfl) _ _ (by rfl) (by rfl) T2.out (by rfl) ?_)
  intro w3 X3 G3
  have L3a : Later w2 w3 := L2b.out.grown G3 (by simp) (fun k hk => by have := Option.some.inj hk; omega)
  have L3b : Later W1 w2 := L2.out
  have L3 : Hid (Later W1 w3) := Later.trans L3b L3a
  have H3 := hide (H1.out.later L3.out)
  have X3d : Hid (SBox 36 d s w3) := X1.out.below L3.out
  clear X3 G3 L3a L3b
  go_wp2_with (fail)
  refine (CM.out _ L3.out).mono ?_
  rintro e w4 ⟨rfl, hq4⟩
  obtain rfl := hq4
  have CG := hide (good_any (s := s) (l := l) (StepsAt.kept HS1.out (Kept.of_below L3.out _)) HWF.out HST.out)
  rw [HGD.out] at CG
  go_wp2_with (refine wpList_val rfl (by rfl) (exec_load_saga _ (by rfl) (by rfl) X3d.out) ?_)
  refine CG.out.mono ?_
  rintro e w5 ⟨rfl, hl5⟩
  have L35 : Hid (Later w3 w5) := hl5
  have L3c : Later W1 w3 := L3.out
  have L5 : Hid (Later W1 w5) := Later.trans L3c hl5
  have H5 := hide (H1.out.later L5.out)
  have X5d : Hid (SBox 36 d s w5) := X1.out.below L5.out
  clear hl5 CG L3c
  have CU := hide (under_any (w := w5) s)
  rw [HOP.out] at CU
  go_wp2_with (refine wpList_val rfl (by rfl) (exec_load_saga _ (by rfl) (by rfl) X5d.out) ?_)
  refine CU.out.mono ?_
  rintro e w6 ⟨rfl, hl6⟩
  have L56 : Hid (Later w5 w6) := hl6
  have L5c : Later W1 w5 := L5.out
  have L6 : Hid (Later W1 w6) := Later.trans L5c hl6
  have H6 := hide (H1.out.later L6.out)
  have X6d : Hid (SBox 36 d s w6) := X1.out.below L6.out
  clear hl6 CU L5c
  have CF := hide (full_any id H6.out HNN.out)
  rw [HFU.out] at CF
  go_wp2_with (fail)
  refine CF.out.mono ?_
  rintro e w7 ⟨rfl, hl7⟩
  have L6c : Later W1 w6 := L6.out
  have L7 : Hid (Later W1 w7) := Later.trans L6c hl7
  have H7 := hide (H1.out.later L7.out)
  have X7d : Hid (SBox 36 d s w7) := X1.out.below L7.out
  clear hl7 CF L6c
  go_wp2_with (fail)
  go_ret
  have La0 : Later w W1 := L1.out
  have La : Later w w7 := Later.trans La0 L7.out
  exact ⟨rfl, (H7.out).more (by omega), Turned.of_below La _⟩
set_option maxHeartbeats 4000000 in
set_option maxRecDepth 100000 in
theorem set_full_b {F0 : Nat → Prop} {id : Int} {s : SagaD} {l : List StepD} (h : BookAt F w g b k most t) (_hk : k ≤ 1000000) (_hn : t.L.length ≤ 1000000) (hs : StepsAt F0 w s.v l) (_hw : ∀ x ∈ l, x.wf) (_hid : I64 id) (_h1 : I64 s.step) (hF : ∀ i, w.heap.size ≤ i → F i) (hr0 : 1 ≤ id) (hr1 : id ≤ 1099511627776) (hgd : goodF l s = true) (hno : atB t id = false) (h32 : t.L.length < 32) (hop : (decide (s.st = 1) || decide (s.st = 2)) = true) (hfu : fullB t.L most id = true) :
    Calls Tryz.prog 19 #[.pointer (some ⟨g, 0, none⟩), .int .i64 id, s.val] w (BSetV F g b (k + 1) most (7) (t) w) := by
  have hlt := h.lt
  obtain ⟨W1, hW1⟩ : ∃ W1, W1 = w.alloc (.cells s.cells.toArray 36 (0, 0)) := ⟨_, rfl⟩
  obtain ⟨d, hd⟩ : ∃ d, d = w.heap.size := ⟨_, rfl⟩
  have X1 : Hid (SBox 36 d s W1) := by rw [hW1, hd]; exact heap_alloc_new _ _
  have L1 : Hid (Later w W1) := by rw [hW1]; exact (Below.refl _ _).alloc (Nat.le_refl _) _
  have HDG : Hid (g < d ∧ b < d) := by rw [hd]; exact hlt
  have HDW : Hid (w.heap.size = d) := hd.symm
  have h1 : BookAt F W1 g b k most t := h.later L1.out
  have H1 := hide h1
  have HA := hide h.apart
  have hs1 := StepsAt.kept hs (Kept.of_below L1.out _)
  have HS1 := hide hs1
  have C := hide (bat_any (id := id) h1 _hid)
  have CM : Hid (∀ W, Later W1 W → Calls Tryz.prog 25 #[.pointer (some ⟨g, 0, none⟩)] W fun e w' => e = .returned (.bool true) ∧ W = w') := fun W hW => made_yes (H1.out.later hW)
  have k1 : decide (id < 1) = false := by simp; omega
  have k2 : decide (1099511627776 < id) = false := by simp; omega
  have HWF := hide _hw
  have HST := hide _h1
  have HGD := hide hgd
  clear hgd
  rw [hno] at C
  clear hno
  obtain ⟨n, hn⟩ : ∃ n, t.L.length = n := ⟨_, rfl⟩
  have HLN := hide hn
  rw [hn] at h32
  clear hn
  have HOP := hide hop
  have HFU := hide hfu
  have HNN := hide _hn
  clear hop hfu
  have HW1 := hide hW1.symm
  have HG := hide hd.symm
  clear h _hk _hn hs hs1 _hw _hid _h1 hF hW1 hd h1 hlt
  go_enter Tryz.func19, Tryz.ntmps19
  go_wp2_with (fail)
  simp only [HW1.out, HG.out]
  refine C.out.mono ?_
  rintro e w2 ⟨p, m, c2, rfl, hs2, hl2⟩
  obtain ⟨s2, hs2e⟩ : ∃ s2, (atS t id).withV p m c2 = s2 := ⟨_, rfl⟩
  rw [hs2e]
  have L2 : Hid (Later W1 w2) := hl2
  have T2 : Hid (SBox 36 w2.heap.size SagaD.zero (w2.alloc (.cells #[.string ⟨#[]⟩, .slice none 0 0, .int .i64 0, .int .i64 0, .int .i64 0, .bool false, .bool false, .bool false, .bool false, .bool false, .bool false, .bool false, .bool false] 36 (0, 0)))) := heap_alloc_new _ _
  have L2b : Hid (Later w2 (w2.alloc (.cells #[.string ⟨#[]⟩, .slice none 0 0, .int .i64 0, .int .i64 0, .int .i64 0, .bool false, .bool false, .bool false, .bool false, .bool false, .bool false, .bool false, .bool false] 36 (0, 0)))) := (Below.refl _ _).alloc (Nat.le_refl _) _
  clear hs2 hl2 C hs2e
  go_wp2_with (refine wpList_store_saga (s := s2) (by rfl) _ _ (by rfl) (by rfl) T2.out (by rfl) ?_)
  intro w3 X3 G3
  have L3a : Later w2 w3 := L2b.out.grown G3 (by simp) (fun k hk => by have := Option.some.inj hk; omega)
  have L3b : Later W1 w2 := L2.out
  have L3 : Hid (Later W1 w3) := Later.trans L3b L3a
  have H3 := hide (H1.out.later L3.out)
  have X3d : Hid (SBox 36 d s w3) := X1.out.below L3.out
  clear X3 G3 L3a L3b
  go_wp2_with (fail)
  refine (CM.out _ L3.out).mono ?_
  rintro e w4 ⟨rfl, hq4⟩
  obtain rfl := hq4
  have CG := hide (good_any (s := s) (l := l) (StepsAt.kept HS1.out (Kept.of_below L3.out _)) HWF.out HST.out)
  rw [HGD.out] at CG
  go_wp2_with (refine wpList_val rfl (by rfl) (exec_load_saga _ (by rfl) (by rfl) X3d.out) ?_)
  refine CG.out.mono ?_
  rintro e w5 ⟨rfl, hl5⟩
  have L35 : Hid (Later w3 w5) := hl5
  have L3c : Later W1 w3 := L3.out
  have L5 : Hid (Later W1 w5) := Later.trans L3c hl5
  have H5 := hide (H1.out.later L5.out)
  have X5d : Hid (SBox 36 d s w5) := X1.out.below L5.out
  clear hl5 CG L3c
  obtain ⟨f, hm5, _⟩ := H5.out.body
  have HM5 := hide hm5
  have c2g := H5.out.c2
  have hsz : Maps.size (mapD (t.L.map (pairE f))) = t.L.length := by rw [size_mapD, List.length_map]
  rw [HLN.out] at hsz
  have HSZ := hide hsz
  clear hm5 hsz
  have CU := hide (under_any (w := w5) s)
  rw [HOP.out] at CU
  go_wp2_with (first | (refine wpList_val rfl (by rfl) (exec_len_bk _ (by rfl) (by rfl) HM5.out HSZ.out) ?_) | (refine wpList_val rfl (by rfl) (exec_load_saga _ (by rfl) (by rfl) X5d.out) ?_))
  refine CU.out.mono ?_
  rintro e w6 ⟨rfl, hl6⟩
  have L56 : Hid (Later w5 w6) := hl6
  have L5c : Later W1 w5 := L5.out
  have L6 : Hid (Later W1 w6) := Later.trans L5c hl6
  have H6 := hide (H1.out.later L6.out)
  have X6d : Hid (SBox 36 d s w6) := X1.out.below L6.out
  clear hl6 CU L5c
  have CF := hide (full_any id H6.out HNN.out)
  rw [HFU.out] at CF
  go_wp2_with (fail)
  refine CF.out.mono ?_
  rintro e w7 ⟨rfl, hl7⟩
  have L6c : Later W1 w6 := L6.out
  have L7 : Hid (Later W1 w7) := Later.trans L6c hl7
  have H7 := hide (H1.out.later L7.out)
  have X7d : Hid (SBox 36 d s w7) := X1.out.below L7.out
  clear hl7 CF L6c
  go_wp2_with (fail)
  go_ret
  have La0 : Later w W1 := L1.out
  have La : Later w w7 := Later.trans La0 L7.out
  exact ⟨rfl, (H7.out).more (by omega), Turned.of_below La _⟩
set_option maxHeartbeats 4000000 in
set_option maxRecDepth 100000 in
theorem set_off_a {F0 : Nat → Prop} {id : Int} {s : SagaD} {l : List StepD} (h : BookAt F w g b k most t) (_hk : k ≤ 1000000) (_hn : t.L.length ≤ 1000000) (hs : StepsAt F0 w s.v l) (_hw : ∀ x ∈ l, x.wf) (_hid : I64 id) (_h1 : I64 s.step) (hF : ∀ i, w.heap.size ≤ i → F i) (hr0 : 1 ≤ id) (hr1 : id ≤ 1099511627776) (hgd : goodF l s = true) (hno : atB t id = true) (hgd0 : goodF l s = true) (hop : (decide (s.st = 1) || decide (s.st = 2)) = false) :
    Calls Tryz.prog 19 #[.pointer (some ⟨g, 0, none⟩), .int .i64 id, s.val] w (BSetV F g b (k + 1) most (0) (⟨max t.last id, putE ⟨id, s, l⟩ t.L⟩) w) := by
  have hlt := h.lt
  obtain ⟨W1, hW1⟩ : ∃ W1, W1 = w.alloc (.cells s.cells.toArray 36 (0, 0)) := ⟨_, rfl⟩
  obtain ⟨d, hd⟩ : ∃ d, d = w.heap.size := ⟨_, rfl⟩
  have X1 : Hid (SBox 36 d s W1) := by rw [hW1, hd]; exact heap_alloc_new _ _
  have L1 : Hid (Later w W1) := by rw [hW1]; exact (Below.refl _ _).alloc (Nat.le_refl _) _
  have HDG : Hid (g < d ∧ b < d) := by rw [hd]; exact hlt
  have HDW : Hid (w.heap.size = d) := hd.symm
  have h1 : BookAt F W1 g b k most t := h.later L1.out
  have H1 := hide h1
  have HA := hide h.apart
  have hs1 := StepsAt.kept hs (Kept.of_below L1.out _)
  have HS1 := hide hs1
  have C := hide (bat_any (id := id) h1 _hid)
  have CM : Hid (∀ W, Later W1 W → Calls Tryz.prog 25 #[.pointer (some ⟨g, 0, none⟩)] W fun e w' => e = .returned (.bool true) ∧ W = w') := fun W hW => made_yes (H1.out.later hW)
  have k1 : decide (id < 1) = false := by simp; omega
  have k2 : decide (1099511627776 < id) = false := by simp; omega
  have HWF := hide _hw
  have HST := hide _h1
  have HGD := hide hgd
  clear hgd
  rw [hno] at C
  clear hno
  have HF := hide hF
  have HKK := hide _hk
  have HGS : Hid (l.length ≤ 8 ∧ 0 ≤ s.step ∧ s.step ≤ 9) := good_step hgd0
  have HLL : Hid (l.length ≤ 1000000) := by have := HGS.out.1; show _ ≤ _; omega
  have HRG : Hid (1 ≤ id ∧ id ≤ 1099511627776) := ⟨hr0, hr1⟩
  have HOP := hide hop
  have HNN := hide _hn
  clear hop hgd0
  have HW1 := hide hW1.symm
  have HG := hide hd.symm
  clear h _hk _hn hs hs1 _hw _hid _h1 hF hW1 hd h1 hlt
  go_enter Tryz.func19, Tryz.ntmps19
  go_wp2_with (fail)
  simp only [HW1.out, HG.out]
  refine C.out.mono ?_
  rintro e w2 ⟨p, m, c2, rfl, hs2, hl2⟩
  obtain ⟨s2, hs2e⟩ : ∃ s2, (atS t id).withV p m c2 = s2 := ⟨_, rfl⟩
  rw [hs2e]
  have L2 : Hid (Later W1 w2) := hl2
  have T2 : Hid (SBox 36 w2.heap.size SagaD.zero (w2.alloc (.cells #[.string ⟨#[]⟩, .slice none 0 0, .int .i64 0, .int .i64 0, .int .i64 0, .bool false, .bool false, .bool false, .bool false, .bool false, .bool false, .bool false, .bool false] 36 (0, 0)))) := heap_alloc_new _ _
  have L2b : Hid (Later w2 (w2.alloc (.cells #[.string ⟨#[]⟩, .slice none 0 0, .int .i64 0, .int .i64 0, .int .i64 0, .bool false, .bool false, .bool false, .bool false, .bool false, .bool false, .bool false, .bool false] 36 (0, 0)))) := (Below.refl _ _).alloc (Nat.le_refl _) _
  clear hs2 hl2 C hs2e
  go_wp2_with (refine wpList_store_saga (s := s2) (by rfl) _ _ (by rfl) (by rfl) T2.out (by rfl) ?_)
  intro w3 X3 G3
  have L3a : Later w2 w3 := L2b.out.grown G3 (by simp) (fun k hk => by have := Option.some.inj hk; omega)
  have L3b : Later W1 w2 := L2.out
  have L3 : Hid (Later W1 w3) := Later.trans L3b L3a
  have H3 := hide (H1.out.later L3.out)
  have X3d : Hid (SBox 36 d s w3) := X1.out.below L3.out
  clear X3 G3 L3a L3b
  go_wp2_with (fail)
  refine (CM.out _ L3.out).mono ?_
  rintro e w4 ⟨rfl, hq4⟩
  obtain rfl := hq4
  have CG := hide (good_any (s := s) (l := l) (StepsAt.kept HS1.out (Kept.of_below L3.out _)) HWF.out HST.out)
  rw [HGD.out] at CG
  go_wp2_with (refine wpList_val rfl (by rfl) (exec_load_saga _ (by rfl) (by rfl) X3d.out) ?_)
  refine CG.out.mono ?_
  rintro e w5 ⟨rfl, hl5⟩
  have L35 : Hid (Later w3 w5) := hl5
  have L3c : Later W1 w3 := L3.out
  have L5 : Hid (Later W1 w5) := Later.trans L3c hl5
  have H5 := hide (H1.out.later L5.out)
  have X5d : Hid (SBox 36 d s w5) := X1.out.below L5.out
  clear hl5 CG L3c
  have CU := hide (under_any (w := w5) s)
  rw [HOP.out] at CU
  go_wp2_with (refine wpList_val rfl (by rfl) (exec_load_saga _ (by rfl) (by rfl) X5d.out) ?_)
  refine CU.out.mono ?_
  rintro e w6 ⟨rfl, hl6⟩
  have L56 : Hid (Later w5 w6) := hl6
  have L5c : Later W1 w5 := L5.out
  have L6 : Hid (Later W1 w6) := Later.trans L5c hl6
  have H6 := hide (H1.out.later L6.out)
  have X6d : Hid (SBox 36 d s w6) := X1.out.below L6.out
  clear hl6 CU L5c
  have HW := H6
  have LX := L6
  have XWd := X6d
  obtain ⟨f9, hm9, hf9⟩ := HW.out.body
  have HM9 : Hid (∀ W, Later w6 W → W.ownsMap Tryz.prog 3 heldR b k (mapD (t.L.map (pairE f9)))) := fun W hW => ownsMap_below hm9 hW HW.out.lt.2
  have HF9 := hide hf9
  have HC9 : Hid (∀ W, Later w6 W → W.cell? ⟨g, 2, none⟩ = some (.map (some b))) := fun W hW => (HW.out.later hW).c2
  have CO : Hid (∀ W, Later w6 W → Calls Tryz.prog 23 #[s.val] W (Owns s l W)) := fun W hW => by
    have a1 : Later W1 W := Later.trans (show Later W1 w6 from LX.out) hW
    exact bown_any (StepsAt.kept HS1.out (Kept.of_below a1 _)) HLL.out
  have hw6 : Later w6 w6.drew := Later.drew _
  clear hm9 hf9
  go_wp2_with (fail)
  refine wp_region_V (Below w6.heap.size) (fun j => j == 7) (by kernel_rfl) ?_
  refine wpAnyV_take (pre_below w6.heap.size) (i := 0) (d := some 49) (v := ?vaa0) rfl rfl (by kernel_rfl) (by kernel_rfl) (by kernel_rfl) (by kernel_rfl) (by kernel_rfl) (fun _ _ _ h => h) (by rfl) ?yaa0 ?_
  case yaa0 => (intro w' hw'; go_simp; try (with_reducible rfl))
  simp only [Act.put]; try simp only [sA_, sZ_, sS_]
  refine wpAnyV_take (pre_below w6.heap.size) (i := 1) (d := some 50) (v := ?vaa1) rfl rfl (by kernel_rfl) (by kernel_rfl) (by kernel_rfl) (by kernel_rfl) (by kernel_rfl) (fun _ _ _ h => h) (by rfl) ?yaa1 ?_
  case yaa1 => (intro w' hw'; go_simp; try (with_reducible rfl))
  simp only [Act.put]; try simp only [sA_, sZ_, sS_]
  refine wpAnyV_take (pre_below w6.heap.size) (i := 2) (d := some 51) (v := ?vaa2) rfl rfl (by kernel_rfl) (by kernel_rfl) (by kernel_rfl) (by kernel_rfl) (by kernel_rfl) (fun _ _ _ h => h) (by rfl) ?yaa2 ?_
  case yaa2 => (intro w' hw'; go_simp; try (with_reducible rfl))
  simp only [Act.put]; try simp only [sA_, sZ_, sS_]
  refine wpAnyV_take (pre_below w6.heap.size) (i := 3) (d := some 52) (v := ?vaa3) rfl rfl (by kernel_rfl) (by kernel_rfl) (by kernel_rfl) (by kernel_rfl) (by kernel_rfl) (fun _ _ _ h => h) (by rfl) ?yaa3 ?_
  case yaa3 => (intro w' hw'; have hw1 : Later w6 w' := Below.trans hw6 hw'; have cc := HC9.out w' hw1; go_simp; try (with_reducible rfl))
  simp only [Act.put]; try simp only [sA_, sZ_, sS_]
  refine wpAnyV_take (pre_below w6.heap.size) (i := 4) (d := some 53) (v := ?vaa4) rfl rfl (by kernel_rfl) (by kernel_rfl) (by kernel_rfl) (by kernel_rfl) (by kernel_rfl) (fun _ _ _ h => h) (by rfl) ?yaa4 ?_
  case yaa4 => (intro w' hw'; go_simp; try (with_reducible rfl))
  simp only [Act.put]; try simp only [sA_, sZ_, sS_]
  refine wpAnyV_take (pre_below w6.heap.size) (i := 5) (d := some 54) (v := s.val) rfl rfl (by kernel_rfl) (by kernel_rfl) (by kernel_rfl) (by kernel_rfl) (by kernel_rfl) (fun _ _ _ h => h) (by rfl) ?yaa5 ?_
  case yaa5 => (intro w' hw'; have hw1 : Later w6 w' := Below.trans hw6 hw'; exact exec_load_saga _ (by rfl) (by rfl) (XWd.out.below hw1))
  simp only [Act.put]; try simp only [sA_, sZ_, sS_]
  refine wpAnyV_only (pre_below w6.heap.size) (i := 6) rfl (by kernel_rfl) (by rfl) fun K hK => ?_
  go_simp
  refine (CO.out _ hw6).mono ?_
  rintro e v1 ⟨p1, m1, c1, rfl, hs1, hl1⟩
  have V1R : Hid (Below w6.heap.size w6.drew v1) := hl1
  have V1L : Hid (Later w6 v1) := Below.trans hw6 V1R.out
  have VS1 := hide hs1
  refine hK.out _ _ V1R.out ?_
  clear hl1 hs1
  clear hK K
  try (simp only [Act.put]; try simp only [sA_, sZ_, sS_])
  refine wpAnyV_write (i := 7) rfl rfl (by kernel_rfl) (by rfl) fun K hK => ?_
  refine wp_mapUpdate_any _ _ _ 68 (by rfl) 3 36 Tryz.int_law Tryz.underlying68 b k (t.L.map (pairE f9)) (by rfl) (HM9.out _ V1L.out) (by unfold maxLen; have := HKK.out; omega) id (s.withV p1 m1 c1).val (by rfl) (by rfl) (int_key ⟨by omega, by omega⟩) ?_
  intro w10 ho10 ht10
  have HO10 := hide ho10
  have HT10 := hide ht10
  refine hK.out _ _ ?_
  clear ho10 ht10
  clear hK K
  try simp only [Act.put]
  refine wpAnyV_done (by kernel_rfl) ?_ _
  have L91 : Later w6 v1 := V1L.out
  have hm1 : ∀ y ∈ t.L, StepsAt F v1 (f9 y.id).v y.l := fun y hy => StepsAt.kept (HF9.out y hy) (Kept.of_below L91 _)
  have hs1 : StepsAt F v1 (.slice p1 m1 c1) l := StepsAt.mono VS1.out (fun i _ hi => by
    have a1 : w6.drew.heap.size ≤ i := hi
    have a2 := Below.size LX.out
    have a3 := Below.size L1.out
    have a4 : w6.heap.size ≤ i := a1
    exact HF.out i (by omega))
  have HP := hide ((HW.out.later L91).put (x := ⟨id, s, l⟩) (p := p1) (n := m1) (c := c1) hm1 HO10.out HT10.out hs1 ⟨HWF.out, HGS.out.1, HGS.out.2, HRG.out.1⟩ (by show id ≤ _; have := HRG.out.2; omega))
  have d1 := HP.out.c1
  have d2 := HP.out.thaw 1
  have T10 : Hid (Turned (fun i => i = b) v1 w10) := Turned.of_grown HT10.out.grown (fun g e => (Option.some.inj e).symm)
  simp only at d1
  clear hm1 hs1 L91 hw6
  go_wp2
  go_ret
  have La0 : Later w W1 := L1.out
  have La1 : Later w w6 := Later.trans La0 LX.out
  have La2 : Later w v1 := Later.trans La1 V1L.out
  have Ta : Turned (fun i => i = g ∨ i = b) w v1 := Turned.of_below La2 _
  have Tb : Turned (fun i => i = g ∨ i = b) w w10 := Ta.trans (T10.out.mono (fun i hi => .inr hi))
  have hla := HP.out.ok.2.2
  simp only at hla
  exact ⟨rfl, HP.out.setLast _ (by omega) (by have := HRG.out.2; omega), Tb.trans ((turned_setCell _ _ _ _).mono (fun i hi => .inl hi))⟩
set_option maxHeartbeats 4000000 in
set_option maxRecDepth 100000 in
theorem set_off_b {F0 : Nat → Prop} {id : Int} {s : SagaD} {l : List StepD} (h : BookAt F w g b k most t) (_hk : k ≤ 1000000) (_hn : t.L.length ≤ 1000000) (hs : StepsAt F0 w s.v l) (_hw : ∀ x ∈ l, x.wf) (_hid : I64 id) (_h1 : I64 s.step) (hF : ∀ i, w.heap.size ≤ i → F i) (hr0 : 1 ≤ id) (hr1 : id ≤ 1099511627776) (hgd : goodF l s = true) (hno : atB t id = false) (h32 : t.L.length < 32) (hgd0 : goodF l s = true) (hop : (decide (s.st = 1) || decide (s.st = 2)) = false) :
    Calls Tryz.prog 19 #[.pointer (some ⟨g, 0, none⟩), .int .i64 id, s.val] w (BSetV F g b (k + 1) most (0) (⟨max t.last id, putE ⟨id, s, l⟩ t.L⟩) w) := by
  have hlt := h.lt
  obtain ⟨W1, hW1⟩ : ∃ W1, W1 = w.alloc (.cells s.cells.toArray 36 (0, 0)) := ⟨_, rfl⟩
  obtain ⟨d, hd⟩ : ∃ d, d = w.heap.size := ⟨_, rfl⟩
  have X1 : Hid (SBox 36 d s W1) := by rw [hW1, hd]; exact heap_alloc_new _ _
  have L1 : Hid (Later w W1) := by rw [hW1]; exact (Below.refl _ _).alloc (Nat.le_refl _) _
  have HDG : Hid (g < d ∧ b < d) := by rw [hd]; exact hlt
  have HDW : Hid (w.heap.size = d) := hd.symm
  have h1 : BookAt F W1 g b k most t := h.later L1.out
  have H1 := hide h1
  have HA := hide h.apart
  have hs1 := StepsAt.kept hs (Kept.of_below L1.out _)
  have HS1 := hide hs1
  have C := hide (bat_any (id := id) h1 _hid)
  have CM : Hid (∀ W, Later W1 W → Calls Tryz.prog 25 #[.pointer (some ⟨g, 0, none⟩)] W fun e w' => e = .returned (.bool true) ∧ W = w') := fun W hW => made_yes (H1.out.later hW)
  have k1 : decide (id < 1) = false := by simp; omega
  have k2 : decide (1099511627776 < id) = false := by simp; omega
  have HWF := hide _hw
  have HST := hide _h1
  have HGD := hide hgd
  clear hgd
  rw [hno] at C
  clear hno
  obtain ⟨n, hn⟩ : ∃ n, t.L.length = n := ⟨_, rfl⟩
  have HLN := hide hn
  rw [hn] at h32
  clear hn
  have HF := hide hF
  have HKK := hide _hk
  have HGS : Hid (l.length ≤ 8 ∧ 0 ≤ s.step ∧ s.step ≤ 9) := good_step hgd0
  have HLL : Hid (l.length ≤ 1000000) := by have := HGS.out.1; show _ ≤ _; omega
  have HRG : Hid (1 ≤ id ∧ id ≤ 1099511627776) := ⟨hr0, hr1⟩
  have HOP := hide hop
  have HNN := hide _hn
  clear hop hgd0
  have HW1 := hide hW1.symm
  have HG := hide hd.symm
  clear h _hk _hn hs hs1 _hw _hid _h1 hF hW1 hd h1 hlt
  go_enter Tryz.func19, Tryz.ntmps19
  go_wp2_with (fail)
  simp only [HW1.out, HG.out]
  refine C.out.mono ?_
  rintro e w2 ⟨p, m, c2, rfl, hs2, hl2⟩
  obtain ⟨s2, hs2e⟩ : ∃ s2, (atS t id).withV p m c2 = s2 := ⟨_, rfl⟩
  rw [hs2e]
  have L2 : Hid (Later W1 w2) := hl2
  have T2 : Hid (SBox 36 w2.heap.size SagaD.zero (w2.alloc (.cells #[.string ⟨#[]⟩, .slice none 0 0, .int .i64 0, .int .i64 0, .int .i64 0, .bool false, .bool false, .bool false, .bool false, .bool false, .bool false, .bool false, .bool false] 36 (0, 0)))) := heap_alloc_new _ _
  have L2b : Hid (Later w2 (w2.alloc (.cells #[.string ⟨#[]⟩, .slice none 0 0, .int .i64 0, .int .i64 0, .int .i64 0, .bool false, .bool false, .bool false, .bool false, .bool false, .bool false, .bool false, .bool false] 36 (0, 0)))) := (Below.refl _ _).alloc (Nat.le_refl _) _
  clear hs2 hl2 C hs2e
  go_wp2_with (refine wpList_store_saga (s := s2) (by rfl) _ _ (by rfl) (by rfl) T2.out (by rfl) ?_)
  intro w3 X3 G3
  have L3a : Later w2 w3 := L2b.out.grown G3 (by simp) (fun k hk => by have := Option.some.inj hk; omega)
  have L3b : Later W1 w2 := L2.out
  have L3 : Hid (Later W1 w3) := Later.trans L3b L3a
  have H3 := hide (H1.out.later L3.out)
  have X3d : Hid (SBox 36 d s w3) := X1.out.below L3.out
  clear X3 G3 L3a L3b
  go_wp2_with (fail)
  refine (CM.out _ L3.out).mono ?_
  rintro e w4 ⟨rfl, hq4⟩
  obtain rfl := hq4
  have CG := hide (good_any (s := s) (l := l) (StepsAt.kept HS1.out (Kept.of_below L3.out _)) HWF.out HST.out)
  rw [HGD.out] at CG
  go_wp2_with (refine wpList_val rfl (by rfl) (exec_load_saga _ (by rfl) (by rfl) X3d.out) ?_)
  refine CG.out.mono ?_
  rintro e w5 ⟨rfl, hl5⟩
  have L35 : Hid (Later w3 w5) := hl5
  have L3c : Later W1 w3 := L3.out
  have L5 : Hid (Later W1 w5) := Later.trans L3c hl5
  have H5 := hide (H1.out.later L5.out)
  have X5d : Hid (SBox 36 d s w5) := X1.out.below L5.out
  clear hl5 CG L3c
  obtain ⟨f, hm5, _⟩ := H5.out.body
  have HM5 := hide hm5
  have c2g := H5.out.c2
  have hsz : Maps.size (mapD (t.L.map (pairE f))) = t.L.length := by rw [size_mapD, List.length_map]
  rw [HLN.out] at hsz
  have HSZ := hide hsz
  clear hm5 hsz
  have CU := hide (under_any (w := w5) s)
  rw [HOP.out] at CU
  go_wp2_with (first | (refine wpList_val rfl (by rfl) (exec_len_bk _ (by rfl) (by rfl) HM5.out HSZ.out) ?_) | (refine wpList_val rfl (by rfl) (exec_load_saga _ (by rfl) (by rfl) X5d.out) ?_))
  refine CU.out.mono ?_
  rintro e w6 ⟨rfl, hl6⟩
  have L56 : Hid (Later w5 w6) := hl6
  have L5c : Later W1 w5 := L5.out
  have L6 : Hid (Later W1 w6) := Later.trans L5c hl6
  have H6 := hide (H1.out.later L6.out)
  have X6d : Hid (SBox 36 d s w6) := X1.out.below L6.out
  clear hl6 CU L5c
  have HW := H6
  have LX := L6
  have XWd := X6d
  obtain ⟨f9, hm9, hf9⟩ := HW.out.body
  have HM9 : Hid (∀ W, Later w6 W → W.ownsMap Tryz.prog 3 heldR b k (mapD (t.L.map (pairE f9)))) := fun W hW => ownsMap_below hm9 hW HW.out.lt.2
  have HF9 := hide hf9
  have HC9 : Hid (∀ W, Later w6 W → W.cell? ⟨g, 2, none⟩ = some (.map (some b))) := fun W hW => (HW.out.later hW).c2
  have CO : Hid (∀ W, Later w6 W → Calls Tryz.prog 23 #[s.val] W (Owns s l W)) := fun W hW => by
    have a1 : Later W1 W := Later.trans (show Later W1 w6 from LX.out) hW
    exact bown_any (StepsAt.kept HS1.out (Kept.of_below a1 _)) HLL.out
  have hw6 : Later w6 w6.drew := Later.drew _
  clear hm9 hf9
  go_wp2_with (fail)
  refine wp_region_V (Below w6.heap.size) (fun j => j == 7) (by kernel_rfl) ?_
  refine wpAnyV_take (pre_below w6.heap.size) (i := 0) (d := some 49) (v := ?vaa0) rfl rfl (by kernel_rfl) (by kernel_rfl) (by kernel_rfl) (by kernel_rfl) (by kernel_rfl) (fun _ _ _ h => h) (by rfl) ?yaa0 ?_
  case yaa0 => (intro w' hw'; go_simp; try (with_reducible rfl))
  simp only [Act.put]; try simp only [sA_, sZ_, sS_]
  refine wpAnyV_take (pre_below w6.heap.size) (i := 1) (d := some 50) (v := ?vaa1) rfl rfl (by kernel_rfl) (by kernel_rfl) (by kernel_rfl) (by kernel_rfl) (by kernel_rfl) (fun _ _ _ h => h) (by rfl) ?yaa1 ?_
  case yaa1 => (intro w' hw'; go_simp; try (with_reducible rfl))
  simp only [Act.put]; try simp only [sA_, sZ_, sS_]
  refine wpAnyV_take (pre_below w6.heap.size) (i := 2) (d := some 51) (v := ?vaa2) rfl rfl (by kernel_rfl) (by kernel_rfl) (by kernel_rfl) (by kernel_rfl) (by kernel_rfl) (fun _ _ _ h => h) (by rfl) ?yaa2 ?_
  case yaa2 => (intro w' hw'; go_simp; try (with_reducible rfl))
  simp only [Act.put]; try simp only [sA_, sZ_, sS_]
  refine wpAnyV_take (pre_below w6.heap.size) (i := 3) (d := some 52) (v := ?vaa3) rfl rfl (by kernel_rfl) (by kernel_rfl) (by kernel_rfl) (by kernel_rfl) (by kernel_rfl) (fun _ _ _ h => h) (by rfl) ?yaa3 ?_
  case yaa3 => (intro w' hw'; have hw1 : Later w6 w' := Below.trans hw6 hw'; have cc := HC9.out w' hw1; go_simp; try (with_reducible rfl))
  simp only [Act.put]; try simp only [sA_, sZ_, sS_]
  refine wpAnyV_take (pre_below w6.heap.size) (i := 4) (d := some 53) (v := ?vaa4) rfl rfl (by kernel_rfl) (by kernel_rfl) (by kernel_rfl) (by kernel_rfl) (by kernel_rfl) (fun _ _ _ h => h) (by rfl) ?yaa4 ?_
  case yaa4 => (intro w' hw'; go_simp; try (with_reducible rfl))
  simp only [Act.put]; try simp only [sA_, sZ_, sS_]
  refine wpAnyV_take (pre_below w6.heap.size) (i := 5) (d := some 54) (v := s.val) rfl rfl (by kernel_rfl) (by kernel_rfl) (by kernel_rfl) (by kernel_rfl) (by kernel_rfl) (fun _ _ _ h => h) (by rfl) ?yaa5 ?_
  case yaa5 => (intro w' hw'; have hw1 : Later w6 w' := Below.trans hw6 hw'; exact exec_load_saga _ (by rfl) (by rfl) (XWd.out.below hw1))
  simp only [Act.put]; try simp only [sA_, sZ_, sS_]
  refine wpAnyV_only (pre_below w6.heap.size) (i := 6) rfl (by kernel_rfl) (by rfl) fun K hK => ?_
  go_simp
  refine (CO.out _ hw6).mono ?_
  rintro e v1 ⟨p1, m1, c1, rfl, hs1, hl1⟩
  have V1R : Hid (Below w6.heap.size w6.drew v1) := hl1
  have V1L : Hid (Later w6 v1) := Below.trans hw6 V1R.out
  have VS1 := hide hs1
  refine hK.out _ _ V1R.out ?_
  clear hl1 hs1
  clear hK K
  try (simp only [Act.put]; try simp only [sA_, sZ_, sS_])
  refine wpAnyV_write (i := 7) rfl rfl (by kernel_rfl) (by rfl) fun K hK => ?_
  refine wp_mapUpdate_any _ _ _ 68 (by rfl) 3 36 Tryz.int_law Tryz.underlying68 b k (t.L.map (pairE f9)) (by rfl) (HM9.out _ V1L.out) (by unfold maxLen; have := HKK.out; omega) id (s.withV p1 m1 c1).val (by rfl) (by rfl) (int_key ⟨by omega, by omega⟩) ?_
  intro w10 ho10 ht10
  have HO10 := hide ho10
  have HT10 := hide ht10
  refine hK.out _ _ ?_
  clear ho10 ht10
  clear hK K
  try simp only [Act.put]
  refine wpAnyV_done (by kernel_rfl) ?_ _
  have L91 : Later w6 v1 := V1L.out
  have hm1 : ∀ y ∈ t.L, StepsAt F v1 (f9 y.id).v y.l := fun y hy => StepsAt.kept (HF9.out y hy) (Kept.of_below L91 _)
  have hs1 : StepsAt F v1 (.slice p1 m1 c1) l := StepsAt.mono VS1.out (fun i _ hi => by
    have a1 : w6.drew.heap.size ≤ i := hi
    have a2 := Below.size LX.out
    have a3 := Below.size L1.out
    have a4 : w6.heap.size ≤ i := a1
    exact HF.out i (by omega))
  have HP := hide ((HW.out.later L91).put (x := ⟨id, s, l⟩) (p := p1) (n := m1) (c := c1) hm1 HO10.out HT10.out hs1 ⟨HWF.out, HGS.out.1, HGS.out.2, HRG.out.1⟩ (by show id ≤ _; have := HRG.out.2; omega))
  have d1 := HP.out.c1
  have d2 := HP.out.thaw 1
  have T10 : Hid (Turned (fun i => i = b) v1 w10) := Turned.of_grown HT10.out.grown (fun g e => (Option.some.inj e).symm)
  simp only at d1
  clear hm1 hs1 L91 hw6
  go_wp2
  go_ret
  have La0 : Later w W1 := L1.out
  have La1 : Later w w6 := Later.trans La0 LX.out
  have La2 : Later w v1 := Later.trans La1 V1L.out
  have Ta : Turned (fun i => i = g ∨ i = b) w v1 := Turned.of_below La2 _
  have Tb : Turned (fun i => i = g ∨ i = b) w w10 := Ta.trans (T10.out.mono (fun i hi => .inr hi))
  have hla := HP.out.ok.2.2
  simp only at hla
  exact ⟨rfl, HP.out.setLast _ (by omega) (by have := HRG.out.2; omega), Tb.trans ((turned_setCell _ _ _ _).mono (fun i hi => .inl hi))⟩
set_option maxHeartbeats 4000000 in
set_option maxRecDepth 100000 in
theorem set_on_a {F0 : Nat → Prop} {id : Int} {s : SagaD} {l : List StepD} (h : BookAt F w g b k most t) (_hk : k ≤ 1000000) (_hn : t.L.length ≤ 1000000) (hs : StepsAt F0 w s.v l) (_hw : ∀ x ∈ l, x.wf) (_hid : I64 id) (_h1 : I64 s.step) (hF : ∀ i, w.heap.size ≤ i → F i) (hr0 : 1 ≤ id) (hr1 : id ≤ 1099511627776) (hgd : goodF l s = true) (hno : atB t id = true) (hgd0 : goodF l s = true) (hop : (decide (s.st = 1) || decide (s.st = 2)) = true) (hfu : fullB t.L most id = false) :
    Calls Tryz.prog 19 #[.pointer (some ⟨g, 0, none⟩), .int .i64 id, s.val] w (BSetV F g b (k + 1) most (0) (⟨max t.last id, putE ⟨id, s, l⟩ t.L⟩) w) := by
  have hlt := h.lt
  obtain ⟨W1, hW1⟩ : ∃ W1, W1 = w.alloc (.cells s.cells.toArray 36 (0, 0)) := ⟨_, rfl⟩
  obtain ⟨d, hd⟩ : ∃ d, d = w.heap.size := ⟨_, rfl⟩
  have X1 : Hid (SBox 36 d s W1) := by rw [hW1, hd]; exact heap_alloc_new _ _
  have L1 : Hid (Later w W1) := by rw [hW1]; exact (Below.refl _ _).alloc (Nat.le_refl _) _
  have HDG : Hid (g < d ∧ b < d) := by rw [hd]; exact hlt
  have HDW : Hid (w.heap.size = d) := hd.symm
  have h1 : BookAt F W1 g b k most t := h.later L1.out
  have H1 := hide h1
  have HA := hide h.apart
  have hs1 := StepsAt.kept hs (Kept.of_below L1.out _)
  have HS1 := hide hs1
  have C := hide (bat_any (id := id) h1 _hid)
  have CM : Hid (∀ W, Later W1 W → Calls Tryz.prog 25 #[.pointer (some ⟨g, 0, none⟩)] W fun e w' => e = .returned (.bool true) ∧ W = w') := fun W hW => made_yes (H1.out.later hW)
  have k1 : decide (id < 1) = false := by simp; omega
  have k2 : decide (1099511627776 < id) = false := by simp; omega
  have HWF := hide _hw
  have HST := hide _h1
  have HGD := hide hgd
  clear hgd
  rw [hno] at C
  clear hno
  have HF := hide hF
  have HKK := hide _hk
  have HGS : Hid (l.length ≤ 8 ∧ 0 ≤ s.step ∧ s.step ≤ 9) := good_step hgd0
  have HLL : Hid (l.length ≤ 1000000) := by have := HGS.out.1; show _ ≤ _; omega
  have HRG : Hid (1 ≤ id ∧ id ≤ 1099511627776) := ⟨hr0, hr1⟩
  have HOP := hide hop
  have HNN := hide _hn
  clear hop hgd0
  have HFU := hide hfu
  clear hfu
  have HW1 := hide hW1.symm
  have HG := hide hd.symm
  clear h _hk _hn hs hs1 _hw _hid _h1 hF hW1 hd h1 hlt
  go_enter Tryz.func19, Tryz.ntmps19
  go_wp2_with (fail)
  simp only [HW1.out, HG.out]
  refine C.out.mono ?_
  rintro e w2 ⟨p, m, c2, rfl, hs2, hl2⟩
  obtain ⟨s2, hs2e⟩ : ∃ s2, (atS t id).withV p m c2 = s2 := ⟨_, rfl⟩
  rw [hs2e]
  have L2 : Hid (Later W1 w2) := hl2
  have T2 : Hid (SBox 36 w2.heap.size SagaD.zero (w2.alloc (.cells #[.string ⟨#[]⟩, .slice none 0 0, .int .i64 0, .int .i64 0, .int .i64 0, .bool false, .bool false, .bool false, .bool false, .bool false, .bool false, .bool false, .bool false] 36 (0, 0)))) := heap_alloc_new _ _
  have L2b : Hid (Later w2 (w2.alloc (.cells #[.string ⟨#[]⟩, .slice none 0 0, .int .i64 0, .int .i64 0, .int .i64 0, .bool false, .bool false, .bool false, .bool false, .bool false, .bool false, .bool false, .bool false] 36 (0, 0)))) := (Below.refl _ _).alloc (Nat.le_refl _) _
  clear hs2 hl2 C hs2e
  go_wp2_with (refine wpList_store_saga (s := s2) (by rfl) _ _ (by rfl) (by rfl) T2.out (by rfl) ?_)
  intro w3 X3 G3
  have L3a : Later w2 w3 := L2b.out.grown G3 (by simp) (fun k hk => by have := Option.some.inj hk; omega)
  have L3b : Later W1 w2 := L2.out
  have L3 : Hid (Later W1 w3) := Later.trans L3b L3a
  have H3 := hide (H1.out.later L3.out)
  have X3d : Hid (SBox 36 d s w3) := X1.out.below L3.out
  clear X3 G3 L3a L3b
  go_wp2_with (fail)
  refine (CM.out _ L3.out).mono ?_
  rintro e w4 ⟨rfl, hq4⟩
  obtain rfl := hq4
  have CG := hide (good_any (s := s) (l := l) (StepsAt.kept HS1.out (Kept.of_below L3.out _)) HWF.out HST.out)
  rw [HGD.out] at CG
  go_wp2_with (refine wpList_val rfl (by rfl) (exec_load_saga _ (by rfl) (by rfl) X3d.out) ?_)
  refine CG.out.mono ?_
  rintro e w5 ⟨rfl, hl5⟩
  have L35 : Hid (Later w3 w5) := hl5
  have L3c : Later W1 w3 := L3.out
  have L5 : Hid (Later W1 w5) := Later.trans L3c hl5
  have H5 := hide (H1.out.later L5.out)
  have X5d : Hid (SBox 36 d s w5) := X1.out.below L5.out
  clear hl5 CG L3c
  have CU := hide (under_any (w := w5) s)
  rw [HOP.out] at CU
  go_wp2_with (refine wpList_val rfl (by rfl) (exec_load_saga _ (by rfl) (by rfl) X5d.out) ?_)
  refine CU.out.mono ?_
  rintro e w6 ⟨rfl, hl6⟩
  have L56 : Hid (Later w5 w6) := hl6
  have L5c : Later W1 w5 := L5.out
  have L6 : Hid (Later W1 w6) := Later.trans L5c hl6
  have H6 := hide (H1.out.later L6.out)
  have X6d : Hid (SBox 36 d s w6) := X1.out.below L6.out
  clear hl6 CU L5c
  have CF := hide (full_any id H6.out HNN.out)
  rw [HFU.out] at CF
  go_wp2_with (fail)
  refine CF.out.mono ?_
  rintro e w7 ⟨rfl, hl7⟩
  have L6c : Later W1 w6 := L6.out
  have L7 : Hid (Later W1 w7) := Later.trans L6c hl7
  have H7 := hide (H1.out.later L7.out)
  have X7d : Hid (SBox 36 d s w7) := X1.out.below L7.out
  clear hl7 CF L6c
  have HW := H7
  have LX := L7
  have XWd := X7d
  obtain ⟨f9, hm9, hf9⟩ := HW.out.body
  have HM9 : Hid (∀ W, Later w7 W → W.ownsMap Tryz.prog 3 heldR b k (mapD (t.L.map (pairE f9)))) := fun W hW => ownsMap_below hm9 hW HW.out.lt.2
  have HF9 := hide hf9
  have HC9 : Hid (∀ W, Later w7 W → W.cell? ⟨g, 2, none⟩ = some (.map (some b))) := fun W hW => (HW.out.later hW).c2
  have CO : Hid (∀ W, Later w7 W → Calls Tryz.prog 23 #[s.val] W (Owns s l W)) := fun W hW => by
    have a1 : Later W1 W := Later.trans (show Later W1 w7 from LX.out) hW
    exact bown_any (StepsAt.kept HS1.out (Kept.of_below a1 _)) HLL.out
  have hw6 : Later w7 w7.drew := Later.drew _
  clear hm9 hf9
  go_wp2_with (fail)
  refine wp_region_V (Below w7.heap.size) (fun j => j == 7) (by kernel_rfl) ?_
  refine wpAnyV_take (pre_below w7.heap.size) (i := 0) (d := some 49) (v := ?vaa0) rfl rfl (by kernel_rfl) (by kernel_rfl) (by kernel_rfl) (by kernel_rfl) (by kernel_rfl) (fun _ _ _ h => h) (by rfl) ?yaa0 ?_
  case yaa0 => (intro w' hw'; go_simp; try (with_reducible rfl))
  simp only [Act.put]; try simp only [sA_, sZ_, sS_]
  refine wpAnyV_take (pre_below w7.heap.size) (i := 1) (d := some 50) (v := ?vaa1) rfl rfl (by kernel_rfl) (by kernel_rfl) (by kernel_rfl) (by kernel_rfl) (by kernel_rfl) (fun _ _ _ h => h) (by rfl) ?yaa1 ?_
  case yaa1 => (intro w' hw'; go_simp; try (with_reducible rfl))
  simp only [Act.put]; try simp only [sA_, sZ_, sS_]
  refine wpAnyV_take (pre_below w7.heap.size) (i := 2) (d := some 51) (v := ?vaa2) rfl rfl (by kernel_rfl) (by kernel_rfl) (by kernel_rfl) (by kernel_rfl) (by kernel_rfl) (fun _ _ _ h => h) (by rfl) ?yaa2 ?_
  case yaa2 => (intro w' hw'; go_simp; try (with_reducible rfl))
  simp only [Act.put]; try simp only [sA_, sZ_, sS_]
  refine wpAnyV_take (pre_below w7.heap.size) (i := 3) (d := some 52) (v := ?vaa3) rfl rfl (by kernel_rfl) (by kernel_rfl) (by kernel_rfl) (by kernel_rfl) (by kernel_rfl) (fun _ _ _ h => h) (by rfl) ?yaa3 ?_
  case yaa3 => (intro w' hw'; have hw1 : Later w7 w' := Below.trans hw6 hw'; have cc := HC9.out w' hw1; go_simp; try (with_reducible rfl))
  simp only [Act.put]; try simp only [sA_, sZ_, sS_]
  refine wpAnyV_take (pre_below w7.heap.size) (i := 4) (d := some 53) (v := ?vaa4) rfl rfl (by kernel_rfl) (by kernel_rfl) (by kernel_rfl) (by kernel_rfl) (by kernel_rfl) (fun _ _ _ h => h) (by rfl) ?yaa4 ?_
  case yaa4 => (intro w' hw'; go_simp; try (with_reducible rfl))
  simp only [Act.put]; try simp only [sA_, sZ_, sS_]
  refine wpAnyV_take (pre_below w7.heap.size) (i := 5) (d := some 54) (v := s.val) rfl rfl (by kernel_rfl) (by kernel_rfl) (by kernel_rfl) (by kernel_rfl) (by kernel_rfl) (fun _ _ _ h => h) (by rfl) ?yaa5 ?_
  case yaa5 => (intro w' hw'; have hw1 : Later w7 w' := Below.trans hw6 hw'; exact exec_load_saga _ (by rfl) (by rfl) (XWd.out.below hw1))
  simp only [Act.put]; try simp only [sA_, sZ_, sS_]
  refine wpAnyV_only (pre_below w7.heap.size) (i := 6) rfl (by kernel_rfl) (by rfl) fun K hK => ?_
  go_simp
  refine (CO.out _ hw6).mono ?_
  rintro e v1 ⟨p1, m1, c1, rfl, hs1, hl1⟩
  have V1R : Hid (Below w7.heap.size w7.drew v1) := hl1
  have V1L : Hid (Later w7 v1) := Below.trans hw6 V1R.out
  have VS1 := hide hs1
  refine hK.out _ _ V1R.out ?_
  clear hl1 hs1
  clear hK K
  try (simp only [Act.put]; try simp only [sA_, sZ_, sS_])
  refine wpAnyV_write (i := 7) rfl rfl (by kernel_rfl) (by rfl) fun K hK => ?_
  refine wp_mapUpdate_any _ _ _ 68 (by rfl) 3 36 Tryz.int_law Tryz.underlying68 b k (t.L.map (pairE f9)) (by rfl) (HM9.out _ V1L.out) (by unfold maxLen; have := HKK.out; omega) id (s.withV p1 m1 c1).val (by rfl) (by rfl) (int_key ⟨by omega, by omega⟩) ?_
  intro w10 ho10 ht10
  have HO10 := hide ho10
  have HT10 := hide ht10
  refine hK.out _ _ ?_
  clear ho10 ht10
  clear hK K
  try simp only [Act.put]
  refine wpAnyV_done (by kernel_rfl) ?_ _
  have L91 : Later w7 v1 := V1L.out
  have hm1 : ∀ y ∈ t.L, StepsAt F v1 (f9 y.id).v y.l := fun y hy => StepsAt.kept (HF9.out y hy) (Kept.of_below L91 _)
  have hs1 : StepsAt F v1 (.slice p1 m1 c1) l := StepsAt.mono VS1.out (fun i _ hi => by
    have a1 : w7.drew.heap.size ≤ i := hi
    have a2 := Below.size LX.out
    have a3 := Below.size L1.out
    have a4 : w7.heap.size ≤ i := a1
    exact HF.out i (by omega))
  have HP := hide ((HW.out.later L91).put (x := ⟨id, s, l⟩) (p := p1) (n := m1) (c := c1) hm1 HO10.out HT10.out hs1 ⟨HWF.out, HGS.out.1, HGS.out.2, HRG.out.1⟩ (by show id ≤ _; have := HRG.out.2; omega))
  have d1 := HP.out.c1
  have d2 := HP.out.thaw 1
  have T10 : Hid (Turned (fun i => i = b) v1 w10) := Turned.of_grown HT10.out.grown (fun g e => (Option.some.inj e).symm)
  simp only at d1
  clear hm1 hs1 L91 hw6
  go_wp2
  go_ret
  have La0 : Later w W1 := L1.out
  have La1 : Later w w7 := Later.trans La0 LX.out
  have La2 : Later w v1 := Later.trans La1 V1L.out
  have Ta : Turned (fun i => i = g ∨ i = b) w v1 := Turned.of_below La2 _
  have Tb : Turned (fun i => i = g ∨ i = b) w w10 := Ta.trans (T10.out.mono (fun i hi => .inr hi))
  have hla := HP.out.ok.2.2
  simp only at hla
  exact ⟨rfl, HP.out.setLast _ (by omega) (by have := HRG.out.2; omega), Tb.trans ((turned_setCell _ _ _ _).mono (fun i hi => .inl hi))⟩
set_option maxHeartbeats 4000000 in
set_option maxRecDepth 100000 in
theorem set_on_b {F0 : Nat → Prop} {id : Int} {s : SagaD} {l : List StepD} (h : BookAt F w g b k most t) (_hk : k ≤ 1000000) (_hn : t.L.length ≤ 1000000) (hs : StepsAt F0 w s.v l) (_hw : ∀ x ∈ l, x.wf) (_hid : I64 id) (_h1 : I64 s.step) (hF : ∀ i, w.heap.size ≤ i → F i) (hr0 : 1 ≤ id) (hr1 : id ≤ 1099511627776) (hgd : goodF l s = true) (hno : atB t id = false) (h32 : t.L.length < 32) (hgd0 : goodF l s = true) (hop : (decide (s.st = 1) || decide (s.st = 2)) = true) (hfu : fullB t.L most id = false) :
    Calls Tryz.prog 19 #[.pointer (some ⟨g, 0, none⟩), .int .i64 id, s.val] w (BSetV F g b (k + 1) most (0) (⟨max t.last id, putE ⟨id, s, l⟩ t.L⟩) w) := by
  have hlt := h.lt
  obtain ⟨W1, hW1⟩ : ∃ W1, W1 = w.alloc (.cells s.cells.toArray 36 (0, 0)) := ⟨_, rfl⟩
  obtain ⟨d, hd⟩ : ∃ d, d = w.heap.size := ⟨_, rfl⟩
  have X1 : Hid (SBox 36 d s W1) := by rw [hW1, hd]; exact heap_alloc_new _ _
  have L1 : Hid (Later w W1) := by rw [hW1]; exact (Below.refl _ _).alloc (Nat.le_refl _) _
  have HDG : Hid (g < d ∧ b < d) := by rw [hd]; exact hlt
  have HDW : Hid (w.heap.size = d) := hd.symm
  have h1 : BookAt F W1 g b k most t := h.later L1.out
  have H1 := hide h1
  have HA := hide h.apart
  have hs1 := StepsAt.kept hs (Kept.of_below L1.out _)
  have HS1 := hide hs1
  have C := hide (bat_any (id := id) h1 _hid)
  have CM : Hid (∀ W, Later W1 W → Calls Tryz.prog 25 #[.pointer (some ⟨g, 0, none⟩)] W fun e w' => e = .returned (.bool true) ∧ W = w') := fun W hW => made_yes (H1.out.later hW)
  have k1 : decide (id < 1) = false := by simp; omega
  have k2 : decide (1099511627776 < id) = false := by simp; omega
  have HWF := hide _hw
  have HST := hide _h1
  have HGD := hide hgd
  clear hgd
  rw [hno] at C
  clear hno
  obtain ⟨n, hn⟩ : ∃ n, t.L.length = n := ⟨_, rfl⟩
  have HLN := hide hn
  rw [hn] at h32
  clear hn
  have HF := hide hF
  have HKK := hide _hk
  have HGS : Hid (l.length ≤ 8 ∧ 0 ≤ s.step ∧ s.step ≤ 9) := good_step hgd0
  have HLL : Hid (l.length ≤ 1000000) := by have := HGS.out.1; show _ ≤ _; omega
  have HRG : Hid (1 ≤ id ∧ id ≤ 1099511627776) := ⟨hr0, hr1⟩
  have HOP := hide hop
  have HNN := hide _hn
  clear hop hgd0
  have HFU := hide hfu
  clear hfu
  have HW1 := hide hW1.symm
  have HG := hide hd.symm
  clear h _hk _hn hs hs1 _hw _hid _h1 hF hW1 hd h1 hlt
  go_enter Tryz.func19, Tryz.ntmps19
  go_wp2_with (fail)
  simp only [HW1.out, HG.out]
  refine C.out.mono ?_
  rintro e w2 ⟨p, m, c2, rfl, hs2, hl2⟩
  obtain ⟨s2, hs2e⟩ : ∃ s2, (atS t id).withV p m c2 = s2 := ⟨_, rfl⟩
  rw [hs2e]
  have L2 : Hid (Later W1 w2) := hl2
  have T2 : Hid (SBox 36 w2.heap.size SagaD.zero (w2.alloc (.cells #[.string ⟨#[]⟩, .slice none 0 0, .int .i64 0, .int .i64 0, .int .i64 0, .bool false, .bool false, .bool false, .bool false, .bool false, .bool false, .bool false, .bool false] 36 (0, 0)))) := heap_alloc_new _ _
  have L2b : Hid (Later w2 (w2.alloc (.cells #[.string ⟨#[]⟩, .slice none 0 0, .int .i64 0, .int .i64 0, .int .i64 0, .bool false, .bool false, .bool false, .bool false, .bool false, .bool false, .bool false, .bool false] 36 (0, 0)))) := (Below.refl _ _).alloc (Nat.le_refl _) _
  clear hs2 hl2 C hs2e
  go_wp2_with (refine wpList_store_saga (s := s2) (by rfl) _ _ (by rfl) (by rfl) T2.out (by rfl) ?_)
  intro w3 X3 G3
  have L3a : Later w2 w3 := L2b.out.grown G3 (by simp) (fun k hk => by have := Option.some.inj hk; omega)
  have L3b : Later W1 w2 := L2.out
  have L3 : Hid (Later W1 w3) := Later.trans L3b L3a
  have H3 := hide (H1.out.later L3.out)
  have X3d : Hid (SBox 36 d s w3) := X1.out.below L3.out
  clear X3 G3 L3a L3b
  go_wp2_with (fail)
  refine (CM.out _ L3.out).mono ?_
  rintro e w4 ⟨rfl, hq4⟩
  obtain rfl := hq4
  have CG := hide (good_any (s := s) (l := l) (StepsAt.kept HS1.out (Kept.of_below L3.out _)) HWF.out HST.out)
  rw [HGD.out] at CG
  go_wp2_with (refine wpList_val rfl (by rfl) (exec_load_saga _ (by rfl) (by rfl) X3d.out) ?_)
  refine CG.out.mono ?_
  rintro e w5 ⟨rfl, hl5⟩
  have L35 : Hid (Later w3 w5) := hl5
  have L3c : Later W1 w3 := L3.out
  have L5 : Hid (Later W1 w5) := Later.trans L3c hl5
  have H5 := hide (H1.out.later L5.out)
  have X5d : Hid (SBox 36 d s w5) := X1.out.below L5.out
  clear hl5 CG L3c
  obtain ⟨f, hm5, _⟩ := H5.out.body
  have HM5 := hide hm5
  have c2g := H5.out.c2
  have hsz : Maps.size (mapD (t.L.map (pairE f))) = t.L.length := by rw [size_mapD, List.length_map]
  rw [HLN.out] at hsz
  have HSZ := hide hsz
  clear hm5 hsz
  have CU := hide (under_any (w := w5) s)
  rw [HOP.out] at CU
  go_wp2_with (first | (refine wpList_val rfl (by rfl) (exec_len_bk _ (by rfl) (by rfl) HM5.out HSZ.out) ?_) | (refine wpList_val rfl (by rfl) (exec_load_saga _ (by rfl) (by rfl) X5d.out) ?_))
  refine CU.out.mono ?_
  rintro e w6 ⟨rfl, hl6⟩
  have L56 : Hid (Later w5 w6) := hl6
  have L5c : Later W1 w5 := L5.out
  have L6 : Hid (Later W1 w6) := Later.trans L5c hl6
  have H6 := hide (H1.out.later L6.out)
  have X6d : Hid (SBox 36 d s w6) := X1.out.below L6.out
  clear hl6 CU L5c
  have CF := hide (full_any id H6.out HNN.out)
  rw [HFU.out] at CF
  go_wp2_with (fail)
  refine CF.out.mono ?_
  rintro e w7 ⟨rfl, hl7⟩
  have L6c : Later W1 w6 := L6.out
  have L7 : Hid (Later W1 w7) := Later.trans L6c hl7
  have H7 := hide (H1.out.later L7.out)
  have X7d : Hid (SBox 36 d s w7) := X1.out.below L7.out
  clear hl7 CF L6c
  have HW := H7
  have LX := L7
  have XWd := X7d
  obtain ⟨f9, hm9, hf9⟩ := HW.out.body
  have HM9 : Hid (∀ W, Later w7 W → W.ownsMap Tryz.prog 3 heldR b k (mapD (t.L.map (pairE f9)))) := fun W hW => ownsMap_below hm9 hW HW.out.lt.2
  have HF9 := hide hf9
  have HC9 : Hid (∀ W, Later w7 W → W.cell? ⟨g, 2, none⟩ = some (.map (some b))) := fun W hW => (HW.out.later hW).c2
  have CO : Hid (∀ W, Later w7 W → Calls Tryz.prog 23 #[s.val] W (Owns s l W)) := fun W hW => by
    have a1 : Later W1 W := Later.trans (show Later W1 w7 from LX.out) hW
    exact bown_any (StepsAt.kept HS1.out (Kept.of_below a1 _)) HLL.out
  have hw6 : Later w7 w7.drew := Later.drew _
  clear hm9 hf9
  go_wp2_with (fail)
  refine wp_region_V (Below w7.heap.size) (fun j => j == 7) (by kernel_rfl) ?_
  refine wpAnyV_take (pre_below w7.heap.size) (i := 0) (d := some 49) (v := ?vaa0) rfl rfl (by kernel_rfl) (by kernel_rfl) (by kernel_rfl) (by kernel_rfl) (by kernel_rfl) (fun _ _ _ h => h) (by rfl) ?yaa0 ?_
  case yaa0 => (intro w' hw'; go_simp; try (with_reducible rfl))
  simp only [Act.put]; try simp only [sA_, sZ_, sS_]
  refine wpAnyV_take (pre_below w7.heap.size) (i := 1) (d := some 50) (v := ?vaa1) rfl rfl (by kernel_rfl) (by kernel_rfl) (by kernel_rfl) (by kernel_rfl) (by kernel_rfl) (fun _ _ _ h => h) (by rfl) ?yaa1 ?_
  case yaa1 => (intro w' hw'; go_simp; try (with_reducible rfl))
  simp only [Act.put]; try simp only [sA_, sZ_, sS_]
  refine wpAnyV_take (pre_below w7.heap.size) (i := 2) (d := some 51) (v := ?vaa2) rfl rfl (by kernel_rfl) (by kernel_rfl) (by kernel_rfl) (by kernel_rfl) (by kernel_rfl) (fun _ _ _ h => h) (by rfl) ?yaa2 ?_
  case yaa2 => (intro w' hw'; go_simp; try (with_reducible rfl))
  simp only [Act.put]; try simp only [sA_, sZ_, sS_]
  refine wpAnyV_take (pre_below w7.heap.size) (i := 3) (d := some 52) (v := ?vaa3) rfl rfl (by kernel_rfl) (by kernel_rfl) (by kernel_rfl) (by kernel_rfl) (by kernel_rfl) (fun _ _ _ h => h) (by rfl) ?yaa3 ?_
  case yaa3 => (intro w' hw'; have hw1 : Later w7 w' := Below.trans hw6 hw'; have cc := HC9.out w' hw1; go_simp; try (with_reducible rfl))
  simp only [Act.put]; try simp only [sA_, sZ_, sS_]
  refine wpAnyV_take (pre_below w7.heap.size) (i := 4) (d := some 53) (v := ?vaa4) rfl rfl (by kernel_rfl) (by kernel_rfl) (by kernel_rfl) (by kernel_rfl) (by kernel_rfl) (fun _ _ _ h => h) (by rfl) ?yaa4 ?_
  case yaa4 => (intro w' hw'; go_simp; try (with_reducible rfl))
  simp only [Act.put]; try simp only [sA_, sZ_, sS_]
  refine wpAnyV_take (pre_below w7.heap.size) (i := 5) (d := some 54) (v := s.val) rfl rfl (by kernel_rfl) (by kernel_rfl) (by kernel_rfl) (by kernel_rfl) (by kernel_rfl) (fun _ _ _ h => h) (by rfl) ?yaa5 ?_
  case yaa5 => (intro w' hw'; have hw1 : Later w7 w' := Below.trans hw6 hw'; exact exec_load_saga _ (by rfl) (by rfl) (XWd.out.below hw1))
  simp only [Act.put]; try simp only [sA_, sZ_, sS_]
  refine wpAnyV_only (pre_below w7.heap.size) (i := 6) rfl (by kernel_rfl) (by rfl) fun K hK => ?_
  go_simp
  refine (CO.out _ hw6).mono ?_
  rintro e v1 ⟨p1, m1, c1, rfl, hs1, hl1⟩
  have V1R : Hid (Below w7.heap.size w7.drew v1) := hl1
  have V1L : Hid (Later w7 v1) := Below.trans hw6 V1R.out
  have VS1 := hide hs1
  refine hK.out _ _ V1R.out ?_
  clear hl1 hs1
  clear hK K
  try (simp only [Act.put]; try simp only [sA_, sZ_, sS_])
  refine wpAnyV_write (i := 7) rfl rfl (by kernel_rfl) (by rfl) fun K hK => ?_
  refine wp_mapUpdate_any _ _ _ 68 (by rfl) 3 36 Tryz.int_law Tryz.underlying68 b k (t.L.map (pairE f9)) (by rfl) (HM9.out _ V1L.out) (by unfold maxLen; have := HKK.out; omega) id (s.withV p1 m1 c1).val (by rfl) (by rfl) (int_key ⟨by omega, by omega⟩) ?_
  intro w10 ho10 ht10
  have HO10 := hide ho10
  have HT10 := hide ht10
  refine hK.out _ _ ?_
  clear ho10 ht10
  clear hK K
  try simp only [Act.put]
  refine wpAnyV_done (by kernel_rfl) ?_ _
  have L91 : Later w7 v1 := V1L.out
  have hm1 : ∀ y ∈ t.L, StepsAt F v1 (f9 y.id).v y.l := fun y hy => StepsAt.kept (HF9.out y hy) (Kept.of_below L91 _)
  have hs1 : StepsAt F v1 (.slice p1 m1 c1) l := StepsAt.mono VS1.out (fun i _ hi => by
    have a1 : w7.drew.heap.size ≤ i := hi
    have a2 := Below.size LX.out
    have a3 := Below.size L1.out
    have a4 : w7.heap.size ≤ i := a1
    exact HF.out i (by omega))
  have HP := hide ((HW.out.later L91).put (x := ⟨id, s, l⟩) (p := p1) (n := m1) (c := c1) hm1 HO10.out HT10.out hs1 ⟨HWF.out, HGS.out.1, HGS.out.2, HRG.out.1⟩ (by show id ≤ _; have := HRG.out.2; omega))
  have d1 := HP.out.c1
  have d2 := HP.out.thaw 1
  have T10 : Hid (Turned (fun i => i = b) v1 w10) := Turned.of_grown HT10.out.grown (fun g e => (Option.some.inj e).symm)
  simp only at d1
  clear hm1 hs1 L91 hw6
  go_wp2
  go_ret
  have La0 : Later w W1 := L1.out
  have La1 : Later w w7 := Later.trans La0 LX.out
  have La2 : Later w v1 := Later.trans La1 V1L.out
  have Ta : Turned (fun i => i = g ∨ i = b) w v1 := Turned.of_below La2 _
  have Tb : Turned (fun i => i = g ∨ i = b) w w10 := Ta.trans (T10.out.mono (fun i hi => .inr hi))
  have hla := HP.out.ok.2.2
  simp only at hla
  exact ⟨rfl, HP.out.setLast _ (by omega) (by have := HRG.out.2; omega), Tb.trans ((turned_setCell _ _ _ _).mono (fun i hi => .inl hi))⟩
theorem countP_others (L : List Ent) (id : Int) : L.countP (another id) = othersN L id := by
  unfold othersN
  congr 1
  funext x
  unfold another
  by_cases h : x.id = id <;> simp [h]
theorem set_any {F0 : Nat → Prop} {id : Int} {s : SagaD} {l : List StepD} (h : BookAt F w g b k most t) (hk : k ≤ 1000000) (hn : t.L.length ≤ 1000000) (hs : StepsAt F0 w s.v l) (hw : ∀ x ∈ l, x.wf) (hid : I64 id) (h1 : I64 s.step) (hF : ∀ i, w.heap.size ≤ i → F i) :
    Calls Tryz.prog 19 #[.pointer (some ⟨g, 0, none⟩), .int .i64 id, s.val] w (BSetV F g b (k + 1) most (setE most t ⟨id, s, l⟩) (setS most t ⟨id, s, l⟩) w) := by
  unfold setS
  unfold setE
  by_cases hlo : id < 1
  · rw [if_pos (show (⟨id, s, l⟩ : Ent).id < 1 ∨ _ from .inl hlo), if_neg (by decide)]
    exact set_lo h hk hn hs hw hid h1 hF hlo
  by_cases hhi : 1099511627776 < id
  · rw [if_pos (show (⟨id, s, l⟩ : Ent).id < 1 ∨ 1099511627776 < (⟨id, s, l⟩ : Ent).id ∨ _ from .inr (.inl hhi)), if_neg (by decide)]
    exact set_hi h hk hn hs hw hid h1 hF (by omega) hhi
  cases hg : goodF l s with
  | false =>
    rw [if_pos (show (⟨id, s, l⟩ : Ent).id < 1 ∨ 1099511627776 < (⟨id, s, l⟩ : Ent).id ∨ false = false from .inr (.inr rfl)), if_neg (by decide)]
    exact set_bad h hk hn hs hw hid h1 hF (by omega) (by omega) hg
  | true =>
    rw [if_neg (show ¬ ((⟨id, s, l⟩ : Ent).id < 1 ∨ 1099511627776 < (⟨id, s, l⟩ : Ent).id ∨ true = false) from fun e => by rcases e with e | e | e; exact hlo e; exact hhi e; cases e)]
    have hfb : fullB t.L most id = decide (most ≤ (othersN t.L id : Int)) := by unfold fullB; rw [countP_others]
    cases ha : atB t id with
    | false =>
      have he : (entAt t.L id).isNone = true := by unfold atB at ha; cases hq : entAt t.L id with | none => rfl | some x => rw [hq] at ha; cases ha
      by_cases h32 : 32 ≤ t.L.length
      · rw [if_pos (.inl ⟨he, h32⟩), if_neg (by decide)]
        exact set_many h hk hn hs hw hid h1 hF (by omega) (by omega) hg ha h32
      · cases ho : (decide (s.st = 1) || decide (s.st = 2)) with
        | false =>
          rw [if_neg (show ¬ (_ ∨ ((⟨id, s, l⟩ : Ent).isOpen = true ∧ _)) from fun e => e.elim (fun e => h32 e.2) (fun e => by have e1 : (decide (s.st = 1) || decide (s.st = 2)) = true := e.1; rw [ho] at e1; cases e1)), if_pos rfl]
          exact set_off_b h hk hn hs hw hid h1 hF (by omega) (by omega) hg ha (by omega) hg ho
        | true =>
          by_cases hm : most ≤ (othersN t.L id : Int)
          · rw [if_pos (.inr ⟨ho, hm⟩), if_neg (by decide)]
            exact set_full_b h hk hn hs hw hid h1 hF (by omega) (by omega) hg ha (by omega) ho (by rw [hfb, decide_eq_true hm])
          · rw [if_neg (fun e => e.elim (fun e => h32 e.2) (fun e => hm e.2)), if_pos rfl]
            exact set_on_b h hk hn hs hw hid h1 hF (by omega) (by omega) hg ha (by omega) hg ho (by rw [hfb, decide_eq_false hm])
    | true =>
      have he : ¬ (entAt t.L id).isNone = true := by unfold atB at ha; cases hq : entAt t.L id with | none => rw [hq] at ha; cases ha | some x => simp
      cases ho : (decide (s.st = 1) || decide (s.st = 2)) with
      | false =>
        rw [if_neg (show ¬ (_ ∨ ((⟨id, s, l⟩ : Ent).isOpen = true ∧ _)) from fun e => e.elim (fun e => he e.1) (fun e => by have e1 : (decide (s.st = 1) || decide (s.st = 2)) = true := e.1; rw [ho] at e1; cases e1)), if_pos rfl]
        exact set_off_a h hk hn hs hw hid h1 hF (by omega) (by omega) hg ha hg ho
      | true =>
        by_cases hm : most ≤ (othersN t.L id : Int)
        · rw [if_pos (.inr ⟨ho, hm⟩), if_neg (by decide)]
          exact set_full_a h hk hn hs hw hid h1 hF (by omega) (by omega) hg ha ho (by rw [hfb, decide_eq_true hm])
        · rw [if_neg (fun e => e.elim (fun e => he e.1) (fun e => hm e.2)), if_pos rfl]
          exact set_on_a h hk hn hs hw hid h1 hF (by omega) (by omega) hg ha hg ho (by rw [hfb, decide_eq_false hm])
end
end Go.Proofs.YtpckdhjnhnonhaaGreat
