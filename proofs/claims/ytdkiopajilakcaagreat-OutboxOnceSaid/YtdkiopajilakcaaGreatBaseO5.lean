/- Texts merged: BkG, BkH, BkI, OuC, OuD, OuE, OuF, OrderS, OrderV. -/
import Derived.Test.YtdkiopajilakcaaGreatBaseO1
import Derived.Test.YtdkiopajilakcaaGreatBaseO2
import Derived.Test.YtdkiopajilakcaaGreatBaseO3
import Derived.Test.YtdkiopajilakcaaGreatBaseO4
/- A saga behind an event: behind of package book. -/
namespace Go.Proofs.YtdkiopajilakcaaGreat
open Go.RowKit Go.Maps
/-- 'm[k] = v', at an operation of a region that draws its order. -/
theorem wp_mapUpdate_any {P : Program} {w : World} {o : Oper} {a : Act} {Q : Exit → Act → World → Prop} {K : Act → World → Prop} (m x v : Operand) (t : TypeId) (hop : o.op = Op.mapUpdate t m x v) (k e : TypeId) (Kd : Maps.Keyed P k) (ht : P.underlying t = some (.map k e)) (b n : Nat) (L : List (Int × Value))
    (hm : a.eval m = .map (some b)) (hown : w.ownsMap P k heldR b n (mapD L)) (hn : n < maxLen) (key : Int) (val : Value) (hx : a.eval x = .int .i64 key) (hv : a.eval v = val) (hkey : keyOf P k (Value.int .i64 key) = some (Lit.int .i64 key))
    (hK : ∀ w', w'.ownsMap P k heldR b (n + 1) ((mapD L).put (.int .i64 key) (.held val)) → w.mapTurned w' b → K (a.put o.dst undef) w') : Oper.wp P o a w K Q := by
  obtain ⟨w', hrun, r1, r2⟩ := hown.store Kd ht hn hkey (val := val) (d := .held val) (ps := []) rfl
  unfold Oper.wp
  simp [execOp, hop, hm, hx, hv, hrun, Result.andThen]
  exact hK w' r1 r2
theorem statusF_put {L : List Ent} (x : Ent) (hr : RiseE L) : statusF (putE x L) x.id = ⟨0, x.id, x.s.st, x.s.step⟩ := by
  unfold statusF
  rw [entAt_putE x hr]
theorem BookAt.more {F : Nat → Prop} {w : World} {g b k m : Nat} {most : Int} {t : BkS} (h : BookAt F w g b k most t) (hk : k ≤ m) : BookAt F w g b m most t := by
  obtain ⟨f, hm, hs⟩ := h.body
  exact ⟨h.cell, ⟨f, hm.mono hk, hs⟩, h.ok, h.apart⟩
/-- What a call on a book says and leaves. -/
def Did (F : Nat → Prop) (g b k : Nat) (most : Int) (r : RepD) (t : BkS) (w : World) (e : Ending) (w' : World) : Prop :=
  e = .returned r.val ∧ BookAt F w' g b k most t ∧ Turned (fun i => i = g ∨ i = b) w w'
/-- What an event says of a saga: another one, its steps in new memory, and an error's number. -/
def EvT (r : SagaD × Int) (l : List StepD) (w : World) (e : Ending) (w' : World) : Prop :=
  ∃ p n c, e = .returned (.tuple #[(r.1.withV p n c).val, .int .i64 r.2]) ∧ (r.2 = 0 → StepsAt (w.heap.size ≤ ·) w' (.slice p n c) l) ∧ Later w w'
section
variable {F : Nat → Prop} {w : World} {g b k : Nat} {most : Int} {t : BkS}
set_option maxHeartbeats 4000000 in
set_option maxRecDepth 100000 in
theorem behind_none (h : BookAt F w g b k most t) {id : Int} (hid : I64 id) (hx : entAt t.L id = none) (gf : Nat) (cb : Array Value) :
    Calls Tryz.prog 35 #[.pointer (some ⟨g, 0, none⟩), .int .i64 id, .func (.func gf) #[] cb] w (Did F g b (k + 1) most (errR 8) t w) := by
  have hlt := h.lt
  obtain ⟨W1, hW1⟩ : ∃ W1, W1 = w.alloc (.cells #[.int .i64 0, .int .i64 0, .int .i64 0, .int .i64 0] 40 (0, 0)) := ⟨_, rfl⟩
  obtain ⟨y, hy⟩ : ∃ y, y = w.heap.size := ⟨_, rfl⟩
  have Y1 : Hid (RBox y (errR 0) W1) := by rw [hW1, hy]; exact heap_alloc_new _ _
  have L1 : Hid (Later w W1) := by rw [hW1]; exact (Below.refl _ _).alloc (Nat.le_refl _) _
  have HYG : Hid (g < y ∧ b < y) := by rw [hy]; exact hlt
  have HY : Hid (w.heap.size ≤ y) := Nat.le_of_eq hy.symm
  have HYW : Hid (y < W1.heap.size) := lt_of_block Y1.out
  have h1 : BookAt (fun i => F i ∧ i ≠ y) W1 g b k most t := (h.mono (G := fun i => F i ∧ i ≠ y) (fun i hi hf => ⟨hf, by omega⟩) (fun e => h.apart.2.1 e.1) (fun e => h.apart.2.2 e.1)).later L1.out
  have C := hide (at_none h1 hid hx)
  have H1 := hide h1
  have HA := hide h.apart
  have HW1 := hide hW1.symm
  have HG := hide hy.symm
  clear h hid hx hW1 hy h1 hlt
  go_enter Tryz.func35, Tryz.ntmps35
  go_wp2_with (fail)
  simp only [HW1.out, HG.out]
  refine C.out.mono ?_
  rintro e w2 ⟨rfl, hl2⟩
  have T2 : Hid (SBox 72 w2.heap.size SagaD.zero (w2.alloc (.cells #[.string ⟨#[]⟩, .slice none 0 0, .int .i64 0, .int .i64 0, .int .i64 0, .bool false, .bool false, .bool false, .bool false, .bool false, .bool false, .bool false, .bool false] 72 (0, 0)))) := heap_alloc_new _ _
  have L2b : Hid (Later w2 (w2.alloc (.cells #[.string ⟨#[]⟩, .slice none 0 0, .int .i64 0, .int .i64 0, .int .i64 0, .bool false, .bool false, .bool false, .bool false, .bool false, .bool false, .bool false, .bool false] 72 (0, 0)))) := (Below.refl _ _).alloc (Nat.le_refl _) _
  have L2 : Hid (Later W1 w2) := hl2
  clear hl2 C
  go_wp2_with (refine wpList_store_saga (s := SagaD.zero) (by rfl) _ _ (by rfl) (by rfl) T2.out (by rfl) ?_)
  intro w3 X3 G3
  have L3a : Later w2 w3 := L2b.out.grown G3 (by simp) (fun k hk => by have := Option.some.inj hk; omega)
  have L3b : Later W1 w2 := L2.out
  have L3 : Hid (Later W1 w3) := Later.trans L3b L3a
  have Y3 : Hid (RBox y (errR 0) w3) := Y1.out.below L3.out
  clear X3 G3 L3a L3b
  go_wp2_with (refine wpList_store_rep (r := errR 8) (by rfl) _ _ (by rfl) (by rfl) Y3.out (by rfl) ?_)
  intro w4 Z4 G4
  have HZ := hide Z4
  have T4 : Hid (Turned (fun i => i = y) w3 w4) := Turned.of_grown G4 (fun g e => (Option.some.inj e).symm)
  clear Z4 G4
  go_wp2
  refine bodyPost_ret (results_cell_row Tryz.results35 _ _ y 40 _ (0, 0) _ (by rfl) HZ.out Tryz.underlying40 (by rfl) (by kernel_rfl)) (by rfl) ?_
  have B4 := (H1.out.later L3.out).turned T4.out (by have := HYG.out; omega) (by have := HYG.out; omega) (fun i hi => hi.2)
  have La : Later w W1 := L1.out
  have Lb : Later w w3 := Later.trans La L3.out
  exact ⟨rfl, (B4.mono (fun i _ hf => hf.1) HA.out.2.1 HA.out.2.2).more (by omega), (Turned.of_below Lb _).onto T4.out (fun i hi => .inr (by have := HY.out; omega))⟩
set_option maxHeartbeats 4000000 in
set_option maxRecDepth 100000 in
theorem behind_bad (h : BookAt F w g b k most t) {id : Int} (hid : I64 id) {x : Ent} (hx : entAt t.L id = some x) (gf : Nat) (cb : Array Value) (ev : List StepD → SagaD → SagaD × Int)
    (eg : ∀ args w, (callFunc gf args).run Tryz.prog w = .ok (.enter gf args) w)
    (hc : ∀ W, Later w W → ∀ (q : Option Addr) (n c : Nat), StepsAt F W (.slice q n c) x.l → Calls Tryz.prog gf (#[(x.s.withV q n c).val] ++ cb) W (EvT (ev x.l x.s) x.l W)) (he : (ev x.l x.s).2 ≠ 0) :
    Calls Tryz.prog 35 #[.pointer (some ⟨g, 0, none⟩), .int .i64 id, .func (.func gf) #[] cb] w (Did F g b (k + 1) most (errR (ev x.l x.s).2) t w) := by
  have hlt := h.lt
  obtain ⟨W1, hW1⟩ : ∃ W1, W1 = w.alloc (.cells #[.int .i64 0, .int .i64 0, .int .i64 0, .int .i64 0] 40 (0, 0)) := ⟨_, rfl⟩
  obtain ⟨y, hy⟩ : ∃ y, y = w.heap.size := ⟨_, rfl⟩
  have Y1 : Hid (RBox y (errR 0) W1) := by rw [hW1, hy]; exact heap_alloc_new _ _
  have L1 : Hid (Later w W1) := by rw [hW1]; exact (Below.refl _ _).alloc (Nat.le_refl _) _
  have HYG : Hid (g < y ∧ b < y) := by rw [hy]; exact hlt
  have HY : Hid (w.heap.size ≤ y) := Nat.le_of_eq hy.symm
  have HYW : Hid (y < W1.heap.size) := lt_of_block Y1.out
  have h1 : BookAt (fun i => F i ∧ i ≠ y) W1 g b k most t := (h.mono (G := fun i => F i ∧ i ≠ y) (fun i hi hf => ⟨hf, by omega⟩) (fun e => h.apart.2.1 e.1) (fun e => h.apart.2.2 e.1)).later L1.out
  have C := hide (at_some h1 hid hx)
  have H1 := hide h1
  have HA := hide h.apart
  have HC : Hid (∀ W, Later W1 W → ∀ (q : Option Addr) (n c : Nat), StepsAt F W (.slice q n c) x.l → Calls Tryz.prog gf (#[(x.s.withV q n c).val] ++ cb) W (EvT (ev x.l x.s) x.l W)) := fun W hW q n c hq => by
    have La : Later w W1 := L1.out
    exact hc W (Later.trans La hW) q n c hq
  have HX := hide hx
  have HI := hide hid
  obtain ⟨xi, xs, xl⟩ := x
  obtain rfl : xi = id := (entAt_mem hx).2
  simp only at HC
  obtain ⟨s9, hs9⟩ : ∃ s9, (ev xl xs).1 = s9 := ⟨_, rfl⟩
  obtain ⟨e9, he9⟩ : ∃ e9, (ev xl xs).2 = e9 := ⟨_, rfl⟩
  have HEV : Hid (ev xl xs = (s9, e9)) := by show _ = _; rw [← hs9, ← he9]
  rw [HEV.out] at HC
  simp only at he
  rw [he9] at he ⊢
  have ne9 : (e9 != 0) = true := by simpa using he
  clear he
  have HW1 := hide hW1.symm
  have HG := hide hy.symm
  clear h hid hx hW1 hy h1 hlt hc hs9 he9
  go_enter Tryz.func35, Tryz.ntmps35
  go_wp2_with (fail)
  simp only [HW1.out, HG.out]
  refine C.out.mono ?_
  rintro e w2 ⟨p, n, c, rfl, hs, hl2⟩
  obtain ⟨s2, hs2⟩ : ∃ s2, xs.withV p n c = s2 := ⟨_, rfl⟩
  rw [hs2]
  have HS2 := hide hs2
  have HS := hide hs
  have T2 : Hid (SBox 72 w2.heap.size SagaD.zero (w2.alloc (.cells #[.string ⟨#[]⟩, .slice none 0 0, .int .i64 0, .int .i64 0, .int .i64 0, .bool false, .bool false, .bool false, .bool false, .bool false, .bool false, .bool false, .bool false] 72 (0, 0)))) := heap_alloc_new _ _
  have L2b : Hid (Later w2 (w2.alloc (.cells #[.string ⟨#[]⟩, .slice none 0 0, .int .i64 0, .int .i64 0, .int .i64 0, .bool false, .bool false, .bool false, .bool false, .bool false, .bool false, .bool false, .bool false] 72 (0, 0)))) := (Below.refl _ _).alloc (Nat.le_refl _) _
  have L2 : Hid (Later W1 w2) := hl2
  clear hl2 C hs hs2
  go_wp2_with (refine wpList_store_saga (s := s2) (by rfl) _ _ (by rfl) (by rfl) T2.out (by rfl) ?_)
  intro w3 X3 G3
  have HX3 := hide X3
  have L3a : Later w2 w3 := L2b.out.grown G3 (by simp) (fun k hk => by have := Option.some.inj hk; omega)
  have L3b : Later W1 w2 := L2.out
  have L3 : Hid (Later W1 w3) := Later.trans L3b L3a
  have HCALL := HC.out w3 L3.out p n c (StepsAt.mono (StepsAt.kept HS.out (Kept.of_below L3a _)) (fun i _ hf => hf.1))
  rw [HS2.out] at HCALL
  clear X3 G3 L3a L3b
  go_wp2_with (refine wpList_load_saga (by rfl) _ (by rfl) (by rfl) HX3.out ?_)
  go_at_fn gf
  refine HCALL.mono ?_
  rintro e w4 ⟨p4, n4, c4, rfl, hs4, hl4⟩
  have HS4 := hide hs4
  have L4a : Later W1 w3 := L3.out
  have L4 : Hid (Later W1 w4) := Later.trans L4a hl4
  have HL34 : Hid (Later w3 w4) := hl4
  have T4 : Hid (SBox 72 w4.heap.size SagaD.zero (w4.alloc (.cells #[.string ⟨#[]⟩, .slice none 0 0, .int .i64 0, .int .i64 0, .int .i64 0, .bool false, .bool false, .bool false, .bool false, .bool false, .bool false, .bool false, .bool false] 72 (0, 0)))) := heap_alloc_new _ _
  have L4b : Hid (Later w4 (w4.alloc (.cells #[.string ⟨#[]⟩, .slice none 0 0, .int .i64 0, .int .i64 0, .int .i64 0, .bool false, .bool false, .bool false, .bool false, .bool false, .bool false, .bool false, .bool false] 72 (0, 0)))) := (Below.refl _ _).alloc (Nat.le_refl _) _
  clear hs4 hl4 L4a HCALL
  go_wp2_with (refine wpList_store_saga (s := s9.withV p4 n4 c4) (by rfl) _ _ (by rfl) (by rfl) T4.out (by rfl) ?_)
  intro w5 X5 G5
  have HX5 := hide X5
  have L5a : Later w4 w5 := L4b.out.grown G5 (by simp) (fun k hk => by have := Option.some.inj hk; omega)
  have L5b : Later W1 w4 := L4.out
  have L5 : Hid (Later W1 w5) := Later.trans L5b L5a
  have HL45 : Hid (Later w4 w5) := L5a
  have Y5 : Hid (RBox y (errR 0) w5) := Y1.out.below L5.out
  clear X5 G5 L5a L5b
  go_wp2_with (refine wpList_store_rep (r := errR e9) (by rfl) _ _ (by rfl) (by rfl) Y5.out (by rfl) ?_)
  intro w6 Z6 G6
  have HZ := hide Z6
  have T6 : Hid (Turned (fun i => i = y) w5 w6) := Turned.of_grown G6 (fun g e => (Option.some.inj e).symm)
  clear Z6 G6
  go_wp2
  refine bodyPost_ret (results_cell_row Tryz.results35 _ _ y 40 _ (0, 0) _ (by rfl) HZ.out Tryz.underlying40 (by rfl) (by kernel_rfl)) (by rfl) ?_
  have B6 := (H1.out.later L5.out).turned T6.out (by have := HYG.out; omega) (by have := HYG.out; omega) (fun i hi => hi.2)
  have La : Later w W1 := L1.out
  have Lb : Later w w5 := Later.trans La L5.out
  exact ⟨rfl, (B6.mono (fun i _ hf => hf.1) HA.out.2.1 HA.out.2.2).more (by omega), (Turned.of_below Lb _).onto T6.out (fun i hi => .inr (by have := HY.out; omega))⟩
set_option maxHeartbeats 4000000 in
set_option maxRecDepth 100000 in
theorem behind_ok (h : BookAt F w g b k most t) {id : Int} (hid : I64 id) {x : Ent} (hx : entAt t.L id = some x) (gf : Nat) (cb : Array Value) (ev : List StepD → SagaD → SagaD × Int)
    (eg : ∀ args w, (callFunc gf args).run Tryz.prog w = .ok (.enter gf args) w)
    (hc : ∀ W, Later w W → ∀ (q : Option Addr) (n c : Nat), StepsAt F W (.slice q n c) x.l → Calls Tryz.prog gf (#[(x.s.withV q n c).val] ++ cb) W (EvT (ev x.l x.s) x.l W)) (hk : k ≤ 1000000) (he : (ev x.l x.s).2 = 0) (hst : 0 ≤ (ev x.l x.s).1.step ∧ (ev x.l x.s).1.step ≤ 9) (hF : ∀ i, w.heap.size ≤ i → F i) :
    Calls Tryz.prog 35 #[.pointer (some ⟨g, 0, none⟩), .int .i64 id, .func (.func gf) #[] cb] w (Did F g b (k + 1) most ⟨0, id, (ev x.l x.s).1.st, (ev x.l x.s).1.step⟩ ⟨t.last, putE ⟨id, (ev x.l x.s).1, x.l⟩ t.L⟩ w) := by
  have hlt := h.lt
  obtain ⟨W1, hW1⟩ : ∃ W1, W1 = w.alloc (.cells #[.int .i64 0, .int .i64 0, .int .i64 0, .int .i64 0] 40 (0, 0)) := ⟨_, rfl⟩
  obtain ⟨y, hy⟩ : ∃ y, y = w.heap.size := ⟨_, rfl⟩
  have Y1 : Hid (RBox y (errR 0) W1) := by rw [hW1, hy]; exact heap_alloc_new _ _
  have L1 : Hid (Later w W1) := by rw [hW1]; exact (Below.refl _ _).alloc (Nat.le_refl _) _
  have HYG : Hid (g < y ∧ b < y) := by rw [hy]; exact hlt
  have HY : Hid (w.heap.size ≤ y) := Nat.le_of_eq hy.symm
  have HYW : Hid (y < W1.heap.size) := lt_of_block Y1.out
  have h1 : BookAt (fun i => F i ∧ i ≠ y) W1 g b k most t := (h.mono (G := fun i => F i ∧ i ≠ y) (fun i hi hf => ⟨hf, by omega⟩) (fun e => h.apart.2.1 e.1) (fun e => h.apart.2.2 e.1)).later L1.out
  have C := hide (at_some h1 hid hx)
  have H1 := hide h1
  have HA := hide h.apart
  have HC : Hid (∀ W, Later W1 W → ∀ (q : Option Addr) (n c : Nat), StepsAt F W (.slice q n c) x.l → Calls Tryz.prog gf (#[(x.s.withV q n c).val] ++ cb) W (EvT (ev x.l x.s) x.l W)) := fun W hW q n c hq => by
    have La : Later w W1 := L1.out
    exact hc W (Later.trans La hW) q n c hq
  have HX := hide hx
  have HI := hide hid
  obtain ⟨xi, xs, xl⟩ := x
  obtain rfl : xi = id := (entAt_mem hx).2
  simp only at HC
  obtain ⟨s9, hs9⟩ : ∃ s9, (ev xl xs).1 = s9 := ⟨_, rfl⟩
  obtain ⟨e9, he9⟩ : ∃ e9, (ev xl xs).2 = e9 := ⟨_, rfl⟩
  have HEV : Hid (ev xl xs = (s9, e9)) := by show _ = _; rw [← hs9, ← he9]
  rw [HEV.out] at HC
  simp only at he hst
  rw [he9] at he
  rw [hs9] at hst ⊢
  subst he
  have HST := hide hst
  have HF := hide hF
  clear hst hF
  have HW1 := hide hW1.symm
  have HG := hide hy.symm
  clear h hid hx hW1 hy h1 hlt hc hs9 he9
  go_enter Tryz.func35, Tryz.ntmps35
  go_wp2_with (fail)
  simp only [HW1.out, HG.out]
  refine C.out.mono ?_
  rintro e w2 ⟨p, n, c, rfl, hs, hl2⟩
  obtain ⟨s2, hs2⟩ : ∃ s2, xs.withV p n c = s2 := ⟨_, rfl⟩
  rw [hs2]
  have HS2 := hide hs2
  have HS := hide hs
  have T2 : Hid (SBox 72 w2.heap.size SagaD.zero (w2.alloc (.cells #[.string ⟨#[]⟩, .slice none 0 0, .int .i64 0, .int .i64 0, .int .i64 0, .bool false, .bool false, .bool false, .bool false, .bool false, .bool false, .bool false, .bool false] 72 (0, 0)))) := heap_alloc_new _ _
  have L2b : Hid (Later w2 (w2.alloc (.cells #[.string ⟨#[]⟩, .slice none 0 0, .int .i64 0, .int .i64 0, .int .i64 0, .bool false, .bool false, .bool false, .bool false, .bool false, .bool false, .bool false, .bool false] 72 (0, 0)))) := (Below.refl _ _).alloc (Nat.le_refl _) _
  have L2 : Hid (Later W1 w2) := hl2
  clear hl2 C hs hs2
  go_wp2_with (refine wpList_store_saga (s := s2) (by rfl) _ _ (by rfl) (by rfl) T2.out (by rfl) ?_)
  intro w3 X3 G3
  have HX3 := hide X3
  have L3a : Later w2 w3 := L2b.out.grown G3 (by simp) (fun k hk => by have := Option.some.inj hk; omega)
  have L3b : Later W1 w2 := L2.out
  have L3 : Hid (Later W1 w3) := Later.trans L3b L3a
  have HCALL := HC.out w3 L3.out p n c (StepsAt.mono (StepsAt.kept HS.out (Kept.of_below L3a _)) (fun i _ hf => hf.1))
  rw [HS2.out] at HCALL
  clear X3 G3 L3a L3b
  go_wp2_with (refine wpList_load_saga (by rfl) _ (by rfl) (by rfl) HX3.out ?_)
  go_at_fn gf
  refine HCALL.mono ?_
  rintro e w4 ⟨p4, n4, c4, rfl, hs4, hl4⟩
  have HS4 := hide hs4
  have L4a : Later W1 w3 := L3.out
  have L4 : Hid (Later W1 w4) := Later.trans L4a hl4
  have HL34 : Hid (Later w3 w4) := hl4
  have T4 : Hid (SBox 72 w4.heap.size SagaD.zero (w4.alloc (.cells #[.string ⟨#[]⟩, .slice none 0 0, .int .i64 0, .int .i64 0, .int .i64 0, .bool false, .bool false, .bool false, .bool false, .bool false, .bool false, .bool false, .bool false] 72 (0, 0)))) := heap_alloc_new _ _
  have L4b : Hid (Later w4 (w4.alloc (.cells #[.string ⟨#[]⟩, .slice none 0 0, .int .i64 0, .int .i64 0, .int .i64 0, .bool false, .bool false, .bool false, .bool false, .bool false, .bool false, .bool false, .bool false] 72 (0, 0)))) := (Below.refl _ _).alloc (Nat.le_refl _) _
  clear hs4 hl4 L4a HCALL
  go_wp2_with (refine wpList_store_saga (s := s9.withV p4 n4 c4) (by rfl) _ _ (by rfl) (by rfl) T4.out (by rfl) ?_)
  intro w5 X5 G5
  have HX5 := hide X5
  have L5a : Later w4 w5 := L4b.out.grown G5 (by simp) (fun k hk => by have := Option.some.inj hk; omega)
  have L5b : Later W1 w4 := L4.out
  have L5 : Hid (Later W1 w5) := Later.trans L5b L5a
  have HL45 : Hid (Later w4 w5) := L5a
  have Y5 : Hid (RBox y (errR 0) w5) := Y1.out.below L5.out
  clear X5 G5 L5a L5b
  have H5 := hide (H1.out.later L5.out)
  obtain ⟨f, hm5, hf5⟩ := H5.out.body
  have HM5 : Hid (w5.drew.ownsMap Tryz.prog 3 heldR b k (mapD (t.L.map (pairE f)))) := hm5.drew
  have HF5 : Hid (∀ y ∈ t.L, StepsAt _ w5.drew (f y.id).v y.l) := fun y hy => StepsAt.kept (hf5 y hy) (Kept.drew _ _)
  have HS5 : Hid (StepsAt (fun i => F i ∧ i ≠ y) w5.drew (.slice p4 n4 c4) xl) := by
    have h9 := StepsAt.kept (StepsAt.kept (HS4.out (by trivial)) (Kept.of_below HL45.out _)) (Kept.drew _ _)
    refine StepsAt.mono h9 fun i _ hi => ?_
    have a1 : w3.heap.size ≤ i := hi
    have a2 := Below.size L3.out
    have a3 := HYW.out
    have a4 := Below.size L1.out
    exact ⟨HF.out i (by omega), by omega⟩
  have hxe := H5.out.ok.2.1 _ (entAt_mem HX.out).1
  have HOK : Hid (EntOk ⟨xi, s9, xl⟩) := ⟨hxe.1.1, hxe.1.2.1, HST.out, hxe.1.2.2.2⟩
  have HIX : Hid (xi ≤ 4611686018427387904) := hxe.2
  have C2 : Hid (w5.cell? ⟨g, 2, none⟩ = some (.map (some b))) := H5.out.c2
  have HGB : Hid (g < w5.heap.size ∧ b < w5.heap.size) := H5.out.lt
  have HB4 : Hid (b ≠ w4.heap.size) := by
    have a1 := (H1.out.later L4.out).lt.2
    exact Nat.ne_of_lt a1
  clear hm5 hf5 hxe
  go_wp2_with (fail)
  refine wp_region_R (R := fun a c => a.grownBy c (some b)) (by kernel_rfl) ?_
  refine wpAnyR_take (pre_grown (some b)) (i := 0) (d := some 30) (v := ?vaa0) rfl rfl (by kernel_rfl) (by kernel_rfl) (by kernel_rfl) (fun _ _ _ h => h) (by rfl) ?yaa0 ?_
  case yaa0 => (intro w' hw'; go_simp; try (with_reducible rfl))
  simp only [Act.put]; try simp only [List.setIfInBounds_toArray]; try simp only [List.set_cons_zero, List.set_cons_succ]
  refine wpAnyR_take (pre_grown (some b)) (i := 1) (d := some 31) (v := ?vaa1) rfl rfl (by kernel_rfl) (by kernel_rfl) (by kernel_rfl) (fun _ _ _ h => h) (by rfl) ?yaa1 ?_
  case yaa1 => (intro w' hw'; go_simp; try (with_reducible rfl))
  simp only [Act.put]; try simp only [List.setIfInBounds_toArray]; try simp only [List.set_cons_zero, List.set_cons_succ]
  refine wpAnyR_take (pre_grown (some b)) (i := 2) (d := some 32) (v := ?vaa2) rfl rfl (by kernel_rfl) (by kernel_rfl) (by kernel_rfl) (fun _ _ _ h => h) (by rfl) ?yaa2 ?_
  case yaa2 => (intro w' hw'; go_simp; try (with_reducible rfl))
  simp only [Act.put]; try simp only [List.setIfInBounds_toArray]; try simp only [List.set_cons_zero, List.set_cons_succ]
  refine wpAnyR_take (pre_grown (some b)) (i := 3) (d := some 33) (v := ?vaa3) rfl rfl (by kernel_rfl) (by kernel_rfl) (by kernel_rfl) (fun _ _ _ h => h) (by rfl) ?yaa3 ?_
  case yaa3 => (intro w' hw'; have hgc : w5.drew.grownBy w' (some b) := hw'; have hc2 : w'.cell? ⟨g, 2, none⟩ = some (.map (some b)) := (World.cell?_of_block (hgc.block g HGB.out.1 (fun e => HA.out.1 (Option.some.inj e)))).trans C2.out; go_simp; try (with_reducible rfl))
  simp only [Act.put]; try simp only [List.setIfInBounds_toArray]; try simp only [List.set_cons_zero, List.set_cons_succ]
  refine wpAnyR_take (pre_grown (some b)) (i := 4) (d := some 34) (v := ?vaa4) rfl rfl (by kernel_rfl) (by kernel_rfl) (by kernel_rfl) (fun _ _ _ h => h) (by rfl) ?yaa4 ?_
  case yaa4 => (intro w' hw'; go_simp; try (with_reducible rfl))
  simp only [Act.put]; try simp only [List.setIfInBounds_toArray]; try simp only [List.set_cons_zero, List.set_cons_succ]
  refine wpAnyR_take (pre_grown (some b)) (i := 5) (d := some 35) (v := (s9.withV p4 n4 c4).val) rfl rfl (by kernel_rfl) (by kernel_rfl) (by kernel_rfl) (fun _ _ _ h => h) (by rfl) ?yaa5 ?_
  case yaa5 => (intro w' hw'; have hgc : w5.drew.grownBy w' (some b) := hw'; exact exec_load_saga _ (by rfl) (by rfl) (show SBox 72 w4.heap.size (s9.withV p4 n4 c4) w' from (hgc.block w4.heap.size (SBox.lt HX5.out) (fun e => HB4.out (Option.some.inj e).symm)).trans HX5.out))
  simp only [Act.put]; try simp only [List.setIfInBounds_toArray]; try simp only [List.set_cons_zero, List.set_cons_succ]
  refine wpAnyR_only (i := 6) rfl (by kernel_rfl) (by rfl) fun K hK => ?_
  refine wp_mapUpdate_any _ _ _ 88 (by rfl) 3 72 Tryz.int_law Tryz.underlying88 b k (t.L.map (pairE f)) (by rfl) HM5.out (by unfold maxLen; omega) xi (s9.withV p4 n4 c4).val (by rfl) (by rfl) (int_key HI.out) ?_
  intro w6 ho6 ht6
  have hp6 := (H5.out.later (Later.drew w5)).put (x := ⟨xi, s9, xl⟩) HF5.out ho6 ht6 HS5.out HOK.out HIX.out
  have HP6 := hide hp6
  have T6 : Hid (Turned (fun i => i = b) w5 w6) := Turned.of_drew (Turned.of_grown ht6.grown (fun g e => (Option.some.inj e).symm))
  refine hK.out _ _ ht6.grown ?_
  clear hp6 ho6 ht6
  clear hK K
  try simp only [Act.put]
  refine wpAnyR_done (by kernel_rfl) ?_ _
  have Y6 : Hid (RBox y (errR 0) w6) := Y5.out.turned T6.out (by have := HYG.out; omega)
  have CS := hide (status_any HP6.out HI.out)
  rw [statusF_put ⟨xi, s9, xl⟩ H5.out.ok.1] at CS
  simp only at CS
  go_wp2_with (fail)
  refine CS.out.mono ?_
  rintro e w7 ⟨rfl, hl7⟩
  have HP7 := hide (HP6.out.later hl7)
  have Y7 : Hid (RBox y (errR 0) w7) := Y6.out.below hl7
  have T7 : Hid (Turned (fun i => i = b) w5 w7) := T6.out.trans (Turned.of_below hl7 _)
  clear hl7 CS
  go_wp2_with (refine wpList_store_rep (r := ⟨0, xi, s9.st, s9.step⟩) (by rfl) _ _ (by rfl) (by rfl) Y7.out (by rfl) ?_)
  intro w8 Z8 G8
  have HZ := hide Z8
  have T8 : Hid (Turned (fun i => i = y) w7 w8) := Turned.of_grown G8 (fun g e => (Option.some.inj e).symm)
  clear Z8 G8
  go_wp2
  refine bodyPost_ret (results_cell_row Tryz.results35 _ _ y 40 _ (0, 0) _ (by rfl) HZ.out Tryz.underlying40 (by rfl) (by kernel_rfl)) (by rfl) ?_
  have B8 := HP7.out.turned T8.out (by have := HYG.out; omega) (by have := HYG.out; omega) (fun i hi => hi.2)
  have La : Later w W1 := L1.out
  have Lb : Later w w5 := Later.trans La L5.out
  have Ta : Turned (fun i => i = g ∨ i = b) w w5 := Turned.of_below Lb _
  exact ⟨rfl, B8.mono (fun i _ hf => hf.1) HA.out.2.1 HA.out.2.2, (Ta.trans (T7.out.mono (fun i hi => .inr hi))).onto T8.out (fun i hi => .inr (by have := HY.out; omega))⟩
end
end Go.Proofs.YtdkiopajilakcaaGreat
/- A saga more: start of package book. -/
namespace Go.Proofs.YtdkiopajilakcaaGreat
open Go.RowKit Go.Maps
section
variable {F : Nat → Prop} {w : World} {g b k : Nat} {most : Int} {t : BkS}
theorem BookAt.setLast (h : BookAt F w g b k most t) (v : Int) (h0 : 0 ≤ v) (h1 : v ≤ 4611686018427387904) : BookAt F (w.setCell ⟨g, 1, none⟩ (.int .i64 v)) g b k most ⟨v, t.L⟩ := by
  have hk : Kept F w (w.setCell ⟨g, 1, none⟩ (.int .i64 v)) := ⟨by simp, fun i _ hf => heap_setCell_other _ _ _ _ (fun e => h.apart.2.1 ((show i = g from e) ▸ hf))⟩
  obtain ⟨f, hm, hs⟩ := h.body
  exact ⟨heap_setCell_same w g 1 _ _ _ h.cell, ⟨f, hm.setCell (a := ⟨g, 1, none⟩) h.apart.1.symm _, fun x hx => (hs x hx).kept hk⟩, ⟨h.ok.1, h.ok.2.1, h0, h1⟩, h.apart⟩
theorem turned_setCell (w : World) (g i : Nat) (v : Value) : Turned (fun j => j = g) w (w.setCell ⟨g, i, none⟩ v) :=
  ⟨rfl, rfl, rfl, by simp, fun j _ hj => heap_setCell_other _ _ _ _ (fun e => hj (show j = g from e))⟩
theorem another_zero {L : List Ent} (h : ∀ x ∈ L, 1 ≤ x.id) : L.countP (another 0) = openN L := by
  unfold openN
  refine List.countP_congr fun x hx => ?_
  have := h x hx
  have e : (x.id != 0) = true := by simp; omega
  unfold another
  rw [e, Bool.true_and]
theorem newE_ok {id : Int} {name : ByteArray} {l : List StepD} (hc : (checkF name l).2 = 0) (hw : ∀ a ∈ l, a.wf) (hi : 1 ≤ id) : EntOk (newE id name l) := ⟨hw, (check_good hc).1, ⟨by show (0 : Int) ≤ 1; decide, by show (1 : Int) ≤ 9; decide⟩, hi⟩
theorem roomF_rise {L : List Ent} (h : RiseE L) : RiseE (roomF L) := by
  unfold roomF
  split
  · exact h
  · split
    · exact h
    · exact dropE_rise _ h
set_option maxHeartbeats 4000000 in
set_option maxRecDepth 100000 in
theorem start_err {F0 : Nat → Prop} {name : ByteArray} {A : Option Addr} {n c : Nat} {l : List StepD} (h : BookAt F w g b k most t) (hst : StepsAt F0 w (.slice A n c) l) (he : (checkF name l).2 ≠ 0) :
    Calls Tryz.prog 34 #[.pointer (some ⟨g, 0, none⟩), .agg #[.string name, .slice A n c]] w (Did F g b (k + 1) most (errR ((checkF name l).2 : Nat)) t w) := by
  have hlt := h.lt
  obtain ⟨W1, hW1⟩ : ∃ W1, W1 = (w.alloc (.cells #[.string name, .slice A n c] 35 (0, 0))).alloc (.cells #[.int .i64 0, .int .i64 0, .int .i64 0, .int .i64 0] 40 (0, 0)) := ⟨_, rfl⟩
  obtain ⟨d, hd⟩ : ∃ d, d = w.heap.size := ⟨_, rfl⟩
  have X1 : Hid (DefBox d name (.slice A n c) W1) := by rw [hW1, hd]; exact (heap_alloc_old _ _ (by simp)).trans (heap_alloc_new _ _)
  have Y1 : Hid (RBox (d + 1) (errR 0) W1) := by rw [hW1, hd]; exact heap_second _ _ _
  have L1 : Hid (Later w W1) := by rw [hW1]; exact ((Below.refl _ _).alloc (Nat.le_refl _) _).alloc (by simp) _
  have HYG : Hid (g < d + 1 ∧ b < d + 1) := by rw [hd]; exact ⟨by omega, by omega⟩
  have HY : Hid (w.heap.size ≤ d + 1) := by rw [hd]; exact Nat.le_succ _
  have HYW : Hid (d + 1 < W1.heap.size) := lt_of_block Y1.out
  have h1 : BookAt (fun i => F i ∧ i ≠ d + 1) W1 g b k most t := (h.mono (G := fun i => F i ∧ i ≠ d + 1) (fun i hi hf => ⟨hf, by omega⟩) (fun e => h.apart.2.1 e.1) (fun e => h.apart.2.2 e.1)).later L1.out
  have H1 := hide h1
  have HA := hide h.apart
  have hst1 := StepsAt.kept hst (Kept.of_below L1.out _)
  have c0 : W1.cell? ⟨d, 0, none⟩ = some (.string name) := X1.out.name_
  have c1 : W1.cell? ⟨d, 1, none⟩ = some (.slice A n c) := X1.out.steps
  rw [hW1, hd] at c0 c1
  have C := hide (begin_err hst1 he)
  obtain ⟨e9, he9⟩ : ∃ e9 : Int, (((checkF name l).2 : Nat) : Int) = e9 := ⟨_, rfl⟩
  have ne9 : (e9 != 0) = true := by simp; omega
  rw [he9] at C ⊢
  clear he he9
  have HW1 := hide hW1.symm
  have HG := hide hd.symm
  clear h hst hst1 hW1 hd h1 hlt
  go_enter Tryz.func34, Tryz.ntmps34
  go_wp2_with (fail)
  simp only [HW1.out, HG.out]
  refine C.out.mono ?_
  rintro e w2 ⟨rfl, hl2⟩
  have T2 : Hid (SBox 72 w2.heap.size SagaD.zero (w2.alloc (.cells #[.string ⟨#[]⟩, .slice none 0 0, .int .i64 0, .int .i64 0, .int .i64 0, .bool false, .bool false, .bool false, .bool false, .bool false, .bool false, .bool false, .bool false] 72 (0, 0)))) := heap_alloc_new _ _
  have L2b : Hid (Later w2 (w2.alloc (.cells #[.string ⟨#[]⟩, .slice none 0 0, .int .i64 0, .int .i64 0, .int .i64 0, .bool false, .bool false, .bool false, .bool false, .bool false, .bool false, .bool false, .bool false] 72 (0, 0)))) := (Below.refl _ _).alloc (Nat.le_refl _) _
  have L2 : Hid (Later W1 w2) := hl2
  clear hl2 C
  go_wp2_with (refine wpList_store_saga (s := SagaD.zero) (by rfl) _ _ (by rfl) (by rfl) T2.out (by rfl) ?_)
  intro w3 X3 G3
  have L3a : Later w2 w3 := L2b.out.grown G3 (by simp) (fun k hk => by have := Option.some.inj hk; omega)
  have L3b : Later W1 w2 := L2.out
  have L3 : Hid (Later W1 w3) := Later.trans L3b L3a
  have Y3 : Hid (RBox (d + 1) (errR 0) w3) := Y1.out.below L3.out
  clear X3 G3 L3a L3b
  go_wp2_with (refine wpList_store_rep (r := errR e9) (by rfl) _ _ (by rfl) (by rfl) Y3.out (by rfl) ?_)
  intro w9 Z9 G9
  have HZ := hide Z9
  have T9 : Hid (Turned (fun i => i = d + 1) w3 w9) := Turned.of_grown G9 (fun g e => (Option.some.inj e).symm)
  clear Z9 G9
  go_wp2
  refine bodyPost_ret (results_cell_row Tryz.results34 _ _ (d + 1) 40 _ (0, 0) _ (by rfl) HZ.out Tryz.underlying40 (by rfl) (by kernel_rfl)) (by rfl) ?_
  have B9 := (H1.out.later L3.out).turned T9.out (by have := HYG.out; omega) (by have := HYG.out; omega) (fun i hi => hi.2)
  have La : Later w W1 := L1.out
  have Lb : Later w w3 := Later.trans La L3.out
  exact ⟨rfl, (B9.mono (fun i _ hf => hf.1) HA.out.2.1 HA.out.2.2).more (by omega), (Turned.of_below Lb _).onto T9.out (fun i hi => .inr (by have := HY.out; omega))⟩
set_option maxHeartbeats 4000000 in
set_option maxRecDepth 100000 in
theorem start_full {F0 : Nat → Prop} {name : ByteArray} {A : Option Addr} {n c : Nat} {l : List StepD} (h : BookAt F w g b k most t) (hn : t.L.length ≤ 1000000) (hst : StepsAt F0 w (.slice A n c) l) (he : (checkF name l).2 = 0) (hfu : fullB t.L most 0 = true) :
    Calls Tryz.prog 34 #[.pointer (some ⟨g, 0, none⟩), .agg #[.string name, .slice A n c]] w (Did F g b (k + 1) most (errR 7) t w) := by
  have hlt := h.lt
  obtain ⟨W1, hW1⟩ : ∃ W1, W1 = (w.alloc (.cells #[.string name, .slice A n c] 35 (0, 0))).alloc (.cells #[.int .i64 0, .int .i64 0, .int .i64 0, .int .i64 0] 40 (0, 0)) := ⟨_, rfl⟩
  obtain ⟨d, hd⟩ : ∃ d, d = w.heap.size := ⟨_, rfl⟩
  have X1 : Hid (DefBox d name (.slice A n c) W1) := by rw [hW1, hd]; exact (heap_alloc_old _ _ (by simp)).trans (heap_alloc_new _ _)
  have Y1 : Hid (RBox (d + 1) (errR 0) W1) := by rw [hW1, hd]; exact heap_second _ _ _
  have L1 : Hid (Later w W1) := by rw [hW1]; exact ((Below.refl _ _).alloc (Nat.le_refl _) _).alloc (by simp) _
  have HYG : Hid (g < d + 1 ∧ b < d + 1) := by rw [hd]; exact ⟨by omega, by omega⟩
  have HY : Hid (w.heap.size ≤ d + 1) := by rw [hd]; exact Nat.le_succ _
  have HYW : Hid (d + 1 < W1.heap.size) := lt_of_block Y1.out
  have h1 : BookAt (fun i => F i ∧ i ≠ d + 1) W1 g b k most t := (h.mono (G := fun i => F i ∧ i ≠ d + 1) (fun i hi hf => ⟨hf, by omega⟩) (fun e => h.apart.2.1 e.1) (fun e => h.apart.2.2 e.1)).later L1.out
  have H1 := hide h1
  have HA := hide h.apart
  have hst1 := StepsAt.kept hst (Kept.of_below L1.out _)
  have c0 : W1.cell? ⟨d, 0, none⟩ = some (.string name) := X1.out.name_
  have c1 : W1.cell? ⟨d, 1, none⟩ = some (.slice A n c) := X1.out.steps
  rw [hW1, hd] at c0 c1
  have C := hide (begin_ok hst1 he)
  have HE := hide he
  clear he
  have HW1 := hide hW1.symm
  have HG := hide hd.symm
  clear h hst hst1 hW1 hd h1 hlt
  go_enter Tryz.func34, Tryz.ntmps34
  go_wp2_with (fail)
  simp only [HW1.out, HG.out]
  refine C.out.mono ?_
  rintro e w2 ⟨p, m, q, rfl, hs, hl2⟩
  obtain ⟨s2, hs2⟩ : ∃ s2, SagaD.mk name p m q 1 1 1 (upH 0) = s2 := ⟨_, rfl⟩
  rw [hs2]
  have HS2 := hide hs2
  have HS := hide hs
  have T2 : Hid (SBox 72 w2.heap.size SagaD.zero (w2.alloc (.cells #[.string ⟨#[]⟩, .slice none 0 0, .int .i64 0, .int .i64 0, .int .i64 0, .bool false, .bool false, .bool false, .bool false, .bool false, .bool false, .bool false, .bool false] 72 (0, 0)))) := heap_alloc_new _ _
  have L2b : Hid (Later w2 (w2.alloc (.cells #[.string ⟨#[]⟩, .slice none 0 0, .int .i64 0, .int .i64 0, .int .i64 0, .bool false, .bool false, .bool false, .bool false, .bool false, .bool false, .bool false, .bool false] 72 (0, 0)))) := (Below.refl _ _).alloc (Nat.le_refl _) _
  have L2 : Hid (Later W1 w2) := hl2
  clear hl2 C hs hs2
  go_wp2_with (refine wpList_store_saga (s := s2) (by rfl) _ _ (by rfl) (by rfl) T2.out (by rfl) ?_)
  intro w3 X3 G3
  have HX3 := hide X3
  have L3a : Later w2 w3 := L2b.out.grown G3 (by simp) (fun k hk => by have := Option.some.inj hk; omega)
  have L3b : Later W1 w2 := L2.out
  have L3 : Hid (Later W1 w3) := Later.trans L3b L3a
  have L23 : Hid (Later w2 w3) := L3a
  have Y3 : Hid (RBox (d + 1) (errR 0) w3) := Y1.out.below L3.out
  have H3 := hide (H1.out.later L3.out)
  have CF := hide (full_any 0 H3.out hn)
  obtain ⟨fb, hfb⟩ : ∃ fb, fullB t.L most 0 = fb := ⟨_, rfl⟩
  rw [hfb] at CF
  clear X3 G3 L3a L3b
  rw [hfu] at hfb
  subst hfb
  clear hfu HE
  go_wp2_with (fail)
  refine CF.out.mono ?_
  rintro e w4 ⟨rfl, hl4⟩
  have L4a : Later W1 w3 := L3.out
  have L4 : Hid (Later W1 w4) := Later.trans L4a hl4
  have Y4 : Hid (RBox (d + 1) (errR 0) w4) := Y1.out.below L4.out
  clear hl4 L4a CF
  go_wp2_with (refine wpList_store_rep (r := errR 7) (by rfl) _ _ (by rfl) (by rfl) Y4.out (by rfl) ?_)
  intro w9 Z9 G9
  have HZ := hide Z9
  have T9 : Hid (Turned (fun i => i = d + 1) w4 w9) := Turned.of_grown G9 (fun g e => (Option.some.inj e).symm)
  clear Z9 G9
  go_wp2
  refine bodyPost_ret (results_cell_row Tryz.results34 _ _ (d + 1) 40 _ (0, 0) _ (by rfl) HZ.out Tryz.underlying40 (by rfl) (by kernel_rfl)) (by rfl) ?_
  have B9 := (H1.out.later L4.out).turned T9.out (by have := HYG.out; omega) (by have := HYG.out; omega) (fun i hi => hi.2)
  have La : Later w W1 := L1.out
  have Lb : Later w w4 := Later.trans La L4.out
  exact ⟨rfl, (B9.mono (fun i _ hf => hf.1) HA.out.2.1 HA.out.2.2).more (by omega), (Turned.of_below Lb _).onto T9.out (fun i hi => .inr (by have := HY.out; omega))⟩
set_option maxHeartbeats 4000000 in
set_option maxRecDepth 100000 in
theorem start_ok {F0 : Nat → Prop} {name : ByteArray} {A : Option Addr} {n c : Nat} {l : List StepD} (h : BookAt F w g b k most t) (hk : k ≤ 1000000) (hn : t.L.length ≤ 1000000) (hst : StepsAt F0 w (.slice A n c) l) (hw : ∀ a ∈ l, a.wf) (he : (checkF name l).2 = 0) (hfu : fullB t.L most 0 = false)
    (hla : t.last < 4611686018427387904) (hF : ∀ i, w.heap.size ≤ i → F i) :
    Calls Tryz.prog 34 #[.pointer (some ⟨g, 0, none⟩), .agg #[.string name, .slice A n c]] w (Did F g b (k + 1) most ⟨0, t.last + 1, 1, 1⟩ ⟨t.last + 1, putE (newE (t.last + 1) name l) (roomF t.L)⟩ w) := by
  have HOK := hide (newE_ok (id := t.last + 1) he hw (by have := h.ok.2.2.1; omega))
  have HIX : Hid ((newE (t.last + 1) name l).id ≤ 4611686018427387904) := by show t.last + 1 ≤ _; omega
  have hl0 := h.ok.2.2.1
  have HF := hide hF
  have HRISE := hide (roomF_rise h.ok.1)
  clear hF hw
  obtain ⟨la, hlast⟩ : ∃ la, t.last = la := ⟨_, rfl⟩
  rw [hlast] at HOK HIX hla hl0 ⊢
  have HLA := hide hlast
  clear hlast
  have hlt := h.lt
  obtain ⟨W1, hW1⟩ : ∃ W1, W1 = (w.alloc (.cells #[.string name, .slice A n c] 35 (0, 0))).alloc (.cells #[.int .i64 0, .int .i64 0, .int .i64 0, .int .i64 0] 40 (0, 0)) := ⟨_, rfl⟩
  obtain ⟨d, hd⟩ : ∃ d, d = w.heap.size := ⟨_, rfl⟩
  have X1 : Hid (DefBox d name (.slice A n c) W1) := by rw [hW1, hd]; exact (heap_alloc_old _ _ (by simp)).trans (heap_alloc_new _ _)
  have Y1 : Hid (RBox (d + 1) (errR 0) W1) := by rw [hW1, hd]; exact heap_second _ _ _
  have L1 : Hid (Later w W1) := by rw [hW1]; exact ((Below.refl _ _).alloc (Nat.le_refl _) _).alloc (by simp) _
  have HYG : Hid (g < d + 1 ∧ b < d + 1) := by rw [hd]; exact ⟨by omega, by omega⟩
  have HY : Hid (w.heap.size ≤ d + 1) := by rw [hd]; exact Nat.le_succ _
  have HYW : Hid (d + 1 < W1.heap.size) := lt_of_block Y1.out
  have h1 : BookAt (fun i => F i ∧ i ≠ d + 1) W1 g b k most t := (h.mono (G := fun i => F i ∧ i ≠ d + 1) (fun i hi hf => ⟨hf, by omega⟩) (fun e => h.apart.2.1 e.1) (fun e => h.apart.2.2 e.1)).later L1.out
  have H1 := hide h1
  have HA := hide h.apart
  have hst1 := StepsAt.kept hst (Kept.of_below L1.out _)
  have c0 : W1.cell? ⟨d, 0, none⟩ = some (.string name) := X1.out.name_
  have c1 : W1.cell? ⟨d, 1, none⟩ = some (.slice A n c) := X1.out.steps
  rw [hW1, hd] at c0 c1
  have C := hide (begin_ok hst1 he)
  have HE := hide he
  clear he
  have HW1 := hide hW1.symm
  have HG := hide hd.symm
  clear h hst hst1 hW1 hd h1 hlt
  go_enter Tryz.func34, Tryz.ntmps34
  go_wp2_with (fail)
  simp only [HW1.out, HG.out]
  refine C.out.mono ?_
  rintro e w2 ⟨p, m, q, rfl, hs, hl2⟩
  obtain ⟨s2, hs2⟩ : ∃ s2, SagaD.mk name p m q 1 1 1 (upH 0) = s2 := ⟨_, rfl⟩
  rw [hs2]
  have HS2 := hide hs2
  have HS := hide hs
  have T2 : Hid (SBox 72 w2.heap.size SagaD.zero (w2.alloc (.cells #[.string ⟨#[]⟩, .slice none 0 0, .int .i64 0, .int .i64 0, .int .i64 0, .bool false, .bool false, .bool false, .bool false, .bool false, .bool false, .bool false, .bool false] 72 (0, 0)))) := heap_alloc_new _ _
  have L2b : Hid (Later w2 (w2.alloc (.cells #[.string ⟨#[]⟩, .slice none 0 0, .int .i64 0, .int .i64 0, .int .i64 0, .bool false, .bool false, .bool false, .bool false, .bool false, .bool false, .bool false, .bool false] 72 (0, 0)))) := (Below.refl _ _).alloc (Nat.le_refl _) _
  have L2 : Hid (Later W1 w2) := hl2
  clear hl2 C hs hs2
  go_wp2_with (refine wpList_store_saga (s := s2) (by rfl) _ _ (by rfl) (by rfl) T2.out (by rfl) ?_)
  intro w3 X3 G3
  have HX3 := hide X3
  have L3a : Later w2 w3 := L2b.out.grown G3 (by simp) (fun k hk => by have := Option.some.inj hk; omega)
  have L3b : Later W1 w2 := L2.out
  have L3 : Hid (Later W1 w3) := Later.trans L3b L3a
  have L23 : Hid (Later w2 w3) := L3a
  have Y3 : Hid (RBox (d + 1) (errR 0) w3) := Y1.out.below L3.out
  have H3 := hide (H1.out.later L3.out)
  have CF := hide (full_any 0 H3.out hn)
  obtain ⟨fb, hfb⟩ : ∃ fb, fullB t.L most 0 = fb := ⟨_, rfl⟩
  rw [hfb] at CF
  clear X3 G3 L3a L3b
  rw [hfu] at hfb
  subst hfb
  clear hfu HE
  go_wp2_with (fail)
  refine CF.out.mono ?_
  rintro e w4 ⟨rfl, hl4⟩
  have L4a : Later W1 w3 := L3.out
  have L4 : Hid (Later W1 w4) := Later.trans L4a hl4
  have L34 : Hid (Later w3 w4) := hl4
  have CR := hide (room_any (H3.out.later hl4) hn)
  clear hl4 L4a CF
  go_wp2_with (fail)
  refine CR.out.mono ?_
  rintro e w5 ⟨rfl, hb5, ht5⟩
  have H5 := hide hb5
  have T5 := hide ht5
  have hc1 := hb5.c1
  have hf1 := hb5.thaw 1
  rw [show (BkS.mk t.last (roomF t.L)).last = la from HLA.out] at hc1
  obtain ⟨W6, hW6⟩ : ∃ W6, W6 = w5.setCell ⟨g, 1, none⟩ (.int .i64 (la + 1)) := ⟨_, rfl⟩
  have H6 : Hid (BookAt (fun i => F i ∧ i ≠ d + 1) W6 g b k most ⟨la + 1, roomF t.L⟩) := by rw [hW6]; exact hb5.setLast (la + 1) (by omega) (by omega)
  have T6 : Hid (Turned (fun i => i = g) w5 W6) := by rw [hW6]; exact turned_setCell _ _ _ _
  have HB2 : Hid (b ≠ w2.heap.size ∧ g ≠ w2.heap.size) := by
    have a1 := (H1.out.later L2.out).lt
    exact ⟨Nat.ne_of_lt a1.2, Nat.ne_of_lt a1.1⟩
  have X6 : Hid (SBox 72 w2.heap.size s2 W6) := by
    have a1 : w4.heap[w2.heap.size]? = some (.cells s2.cells.toArray 72 (0, 0)) := HX3.out.below L34.out
    have a2 := (T5.out.block w2.heap.size (lt_of_block a1) (fun e => HB2.out.1 e.symm)).trans a1
    exact (T6.out.block w2.heap.size (lt_of_block a2) (fun e => HB2.out.2 e.symm)).trans a2
  have HW6 := hide hW6.symm
  clear hW6 hb5 ht5 CR
  go_wp2_with (fail)
  rw [HW6.out]
  obtain ⟨f, hm6, hf6⟩ := H6.out.body
  have HM6 : Hid (W6.drew.ownsMap Tryz.prog 3 heldR b k (mapD ((roomF t.L).map (pairE f)))) := hm6.drew
  have HF6 : Hid (∀ y ∈ roomF t.L, StepsAt _ W6.drew (f y.id).v y.l) := fun y hy => StepsAt.kept (hf6 y hy) (Kept.drew _ _)
  have HS6 : Hid (StepsAt (fun i => F i ∧ i ≠ d + 1) W6.drew (.slice p m q) l) := by
    have g1 : StepsAt (fun i => W1.heap.size ≤ i ∧ i ≠ g ∧ i ≠ b) w2 (.slice p m q) l := StepsAt.mono HS.out fun i _ hi => by
      have a1 : W1.heap.size ≤ i := hi
      have a2 := H1.out.lt
      exact ⟨a1, by omega, by omega⟩
    have g2 := StepsAt.kept (StepsAt.kept g1 (Kept.of_below L23.out _)) (Kept.of_below L34.out _)
    have g3 := StepsAt.kept g2 (T5.out.kept fun i hi e => hi.2.2 e)
    have g4 := StepsAt.kept (StepsAt.kept g3 (T6.out.kept fun i hi e => hi.2.1 e)) (Kept.drew _ _)
    refine StepsAt.mono g4 fun i _ hi => ?_
    have a3 := HYW.out
    have a4 := Below.size L1.out
    exact ⟨HF.out i (by omega), by omega⟩
  have C61 : Hid (W6.cell? ⟨g, 1, none⟩ = some (.int .i64 (la + 1))) := H6.out.c1
  have C62 : Hid (W6.cell? ⟨g, 2, none⟩ = some (.map (some b))) := H6.out.c2
  have HGB : Hid (g < W6.heap.size ∧ b < W6.heap.size) := H6.out.lt
  have HV2 : Hid (((newE (la + 1) name l).s.withV p m q).val = s2.val) := by show _ = _; rw [← HS2.out]; rfl
  clear hm6 hf6 hc1 hf1
  refine wp_region_R (R := fun a c => a.grownBy c (some b)) (by kernel_rfl) ?_
  refine wpAnyR_take (pre_grown (some b)) (i := 0) (d := some 30) (v := ?vaa0) rfl rfl (by kernel_rfl) (by kernel_rfl) (by kernel_rfl) (fun _ _ _ h => h) (by rfl) ?yaa0 ?_
  case yaa0 => (intro w' hw'; go_simp; try (with_reducible rfl))
  simp only [Act.put]; try simp only [List.setIfInBounds_toArray]; try simp only [List.set_cons_zero, List.set_cons_succ]
  refine wpAnyR_take (pre_grown (some b)) (i := 1) (d := some 31) (v := ?vaa1) rfl rfl (by kernel_rfl) (by kernel_rfl) (by kernel_rfl) (fun _ _ _ h => h) (by rfl) ?yaa1 ?_
  case yaa1 => (intro w' hw'; go_simp; try (with_reducible rfl))
  simp only [Act.put]; try simp only [List.setIfInBounds_toArray]; try simp only [List.set_cons_zero, List.set_cons_succ]
  refine wpAnyR_take (pre_grown (some b)) (i := 2) (d := some 32) (v := ?vaa2) rfl rfl (by kernel_rfl) (by kernel_rfl) (by kernel_rfl) (fun _ _ _ h => h) (by rfl) ?yaa2 ?_
  case yaa2 => (intro w' hw'; go_simp; try (with_reducible rfl))
  simp only [Act.put]; try simp only [List.setIfInBounds_toArray]; try simp only [List.set_cons_zero, List.set_cons_succ]
  refine wpAnyR_take (pre_grown (some b)) (i := 3) (d := some 33) (v := ?vaa3) rfl rfl (by kernel_rfl) (by kernel_rfl) (by kernel_rfl) (fun _ _ _ h => h) (by rfl) ?yaa3 ?_
  case yaa3 => (intro w' hw'; have hgc : W6.drew.grownBy w' (some b) := hw'; have hbg := hgc.block g HGB.out.1 (fun e => HA.out.1 (Option.some.inj e)); have hc2 : w'.cell? ⟨g, 2, none⟩ = some (.map (some b)) := (World.cell?_of_block hbg).trans C62.out; go_simp; try (with_reducible rfl))
  simp only [Act.put]; try simp only [List.setIfInBounds_toArray]; try simp only [List.set_cons_zero, List.set_cons_succ]
  refine wpAnyR_take (pre_grown (some b)) (i := 4) (d := some 34) (v := ?vaa4) rfl rfl (by kernel_rfl) (by kernel_rfl) (by kernel_rfl) (fun _ _ _ h => h) (by rfl) ?yaa4 ?_
  case yaa4 => (intro w' hw'; go_simp; try (with_reducible rfl))
  simp only [Act.put]; try simp only [List.setIfInBounds_toArray]; try simp only [List.set_cons_zero, List.set_cons_succ]
  refine wpAnyR_take (pre_grown (some b)) (i := 5) (d := some 35) (v := ?vaa5) rfl rfl (by kernel_rfl) (by kernel_rfl) (by kernel_rfl) (fun _ _ _ h => h) (by rfl) ?yaa5 ?_
  case yaa5 => (intro w' hw'; go_simp; try (with_reducible rfl))
  simp only [Act.put]; try simp only [List.setIfInBounds_toArray]; try simp only [List.set_cons_zero, List.set_cons_succ]
  refine wpAnyR_take (pre_grown (some b)) (i := 6) (d := some 36) (v := ?vaa6) rfl rfl (by kernel_rfl) (by kernel_rfl) (by kernel_rfl) (fun _ _ _ h => h) (by rfl) ?yaa6 ?_
  case yaa6 => (intro w' hw'; go_simp; try (with_reducible rfl))
  simp only [Act.put]; try simp only [List.setIfInBounds_toArray]; try simp only [List.set_cons_zero, List.set_cons_succ]
  refine wpAnyR_take (pre_grown (some b)) (i := 7) (d := some 37) (v := ?vaa7) rfl rfl (by kernel_rfl) (by kernel_rfl) (by kernel_rfl) (fun _ _ _ h => h) (by rfl) ?yaa7 ?_
  case yaa7 => (intro w' hw'; have hgc : W6.drew.grownBy w' (some b) := hw'; have hbg := hgc.block g HGB.out.1 (fun e => HA.out.1 (Option.some.inj e)); have hc1 : w'.cell? ⟨g, 1, none⟩ = some (.int .i64 (la + 1)) := (World.cell?_of_block hbg).trans C61.out; go_simp; try (with_reducible rfl))
  simp only [Act.put]; try simp only [List.setIfInBounds_toArray]; try simp only [List.set_cons_zero, List.set_cons_succ]
  refine wpAnyR_take (pre_grown (some b)) (i := 8) (d := some 38) (v := s2.val) rfl rfl (by kernel_rfl) (by kernel_rfl) (by kernel_rfl) (fun _ _ _ h => h) (by rfl) ?yaa8 ?_
  case yaa8 => (intro w' hw'; have hgc : W6.drew.grownBy w' (some b) := hw'; exact exec_load_saga _ (by rfl) (by rfl) (show SBox 72 w2.heap.size s2 w' from (hgc.block w2.heap.size (SBox.lt X6.out) (fun e => HB2.out.1 (Option.some.inj e).symm)).trans X6.out))
  simp only [Act.put]; try simp only [List.setIfInBounds_toArray]; try simp only [List.set_cons_zero, List.set_cons_succ]
  refine wpAnyR_only (i := 9) rfl (by kernel_rfl) (by rfl) fun K hK => ?_
  refine wp_mapUpdate_any _ _ _ 88 (by rfl) 3 72 Tryz.int_law Tryz.underlying88 b k ((roomF t.L).map (pairE f)) (by rfl) HM6.out (by unfold maxLen; omega) (la + 1) s2.val (by rfl) (by rfl) (int_key ⟨by omega, by omega⟩) ?_
  intro w7 ho7 ht7
  have hp7 := (H6.out.later (Later.drew W6)).put (x := newE (la + 1) name l) (p := p) (n := m) (c := q) HF6.out (by rw [show ((newE (la + 1) name l).s.withV p m q).val = s2.val from HV2.out]; exact ho7) ht7 HS6.out HOK.out HIX.out
  have HP7 := hide hp7
  have T7 : Hid (Turned (fun i => i = b) W6 w7) := Turned.of_drew (Turned.of_grown ht7.grown (fun g e => (Option.some.inj e).symm))
  refine hK.out _ _ ht7.grown ?_
  clear hp7 ho7 ht7
  clear hK K
  try simp only [Act.put]
  refine wpAnyR_done (by kernel_rfl) ?_ _
  have d1 := HP7.out.c1
  have CS := hide (status_any (id := la + 1) HP7.out ⟨by omega, by omega⟩)
  have hsp := statusF_put (L := roomF t.L) (newE (la + 1) name l) HRISE.out
  have hsp2 : statusF (putE (newE (la + 1) name l) (roomF t.L)) (la + 1) = ⟨0, la + 1, 1, 1⟩ := hsp
  simp only at CS d1
  rw [hsp2] at CS
  have HYG7 : Hid (d + 1 ≠ g ∧ d + 1 ≠ b) := ⟨by have := HYG.out; omega, by have := HYG.out; omega⟩
  have Y4 : RBox (d + 1) (errR 0) w4 := Y1.out.below L4.out
  have Y5 := (Y4.turned T5.out HYG7.out.2).turned T6.out HYG7.out.1
  have Y7 : Hid (RBox (d + 1) (errR 0) w7) := Y5.turned T7.out HYG7.out.2
  clear hsp hsp2 Y4 Y5
  go_wp2_with (fail)
  refine CS.out.mono ?_
  rintro e w8 ⟨rfl, hl8⟩
  have HP8 := hide (HP7.out.later hl8)
  have Y8 : Hid (RBox (d + 1) (errR 0) w8) := Y7.out.below hl8
  have T8 : Hid (Turned (fun i => i = b) W6 w8) := T7.out.trans (Turned.of_below hl8 _)
  clear hl8 CS d1
  go_wp2_with (refine wpList_store_rep (r := ⟨0, la + 1, 1, 1⟩) (by rfl) _ _ (by rfl) (by rfl) Y8.out (by rfl) ?_)
  intro w9 Z9 G9
  have HZ := hide Z9
  have T9 : Hid (Turned (fun i => i = d + 1) w8 w9) := Turned.of_grown G9 (fun g e => (Option.some.inj e).symm)
  clear Z9 G9
  go_wp2
  refine bodyPost_ret (results_cell_row Tryz.results34 _ _ (d + 1) 40 _ (0, 0) _ (by rfl) HZ.out Tryz.underlying40 (by rfl) (by kernel_rfl)) (by rfl) ?_
  have B9 := (HP8.out).turned T9.out (by have := HYG.out; omega) (by have := HYG.out; omega) (fun i hi => hi.2)
  have La : Later w W1 := L1.out
  have Lb : Later w w4 := Later.trans La L4.out
  have Ta : Turned (fun i => i = g ∨ i = b) w w4 := Turned.of_below Lb _
  have Tb : Turned (fun i => i = g ∨ i = b) w w5 := Ta.trans (T5.out.mono (fun i hi => .inr hi))
  have Tc : Turned (fun i => i = g ∨ i = b) w W6 := Tb.trans (T6.out.mono (fun i hi => .inl hi))
  have Td : Turned (fun i => i = g ∨ i = b) w w8 := Tc.trans (T8.out.mono (fun i hi => .inr hi))
  exact ⟨rfl, B9.mono (fun i _ hf => hf.1) HA.out.2.1 HA.out.2.2, Td.onto T9.out (fun i hi => .inr (by have := HY.out; omega))⟩
theorem start_any {F0 : Nat → Prop} {name : ByteArray} {A : Option Addr} {n c : Nat} {l : List StepD} (h : BookAt F w g b k most t) (hk : k ≤ 1000000) (hn : t.L.length ≤ 1000000) (hst : StepsAt F0 w (.slice A n c) l) (hw : ∀ a ∈ l, a.wf)
    (hla : t.last < 4611686018427387904) (hF : ∀ i, w.heap.size ≤ i → F i) :
    Calls Tryz.prog 34 #[.pointer (some ⟨g, 0, none⟩), .agg #[.string name, .slice A n c]] w (Did F g b (k + 1) most (startR most t name l) (startS most t name l) w) := by
  have hf0 : fullB t.L most 0 = decide (most ≤ (openN t.L : Int)) := by unfold fullB; rw [another_zero (fun x hx => (h.ok.2.1 x hx).1.2.2.2)]
  unfold startR startS
  by_cases he : (checkF name l).2 ≠ 0
  · rw [if_pos he, if_pos he]
    exact start_err h hst he
  · rw [if_neg he, if_neg he]
    by_cases hm : most ≤ (openN t.L : Int)
    · rw [if_pos hm, if_pos hm]
      exact start_full h hn hst (by simpa using he) (by rw [hf0]; simpa using hm)
    · rw [if_neg hm, if_neg hm]
      exact start_ok h hk hn hst hw (by simpa using he) (by rw [hf0]; simpa using hm) hla hF
end
end Go.Proofs.YtdkiopajilakcaaGreat
/- An operation is applied: Apply of package book. -/
namespace Go.Proofs.YtdkiopajilakcaaGreat
open Go.RowKit Go.Maps
section
variable {w : World}
set_option maxHeartbeats 4000000 in
set_option maxRecDepth 100000 in
theorem orlate_yes (s : SagaD) : Calls Tryz.prog 39 #[s.val, .bool true] w fun e w' => e = .returned (.tuple #[(s).val, .int .i64 0]) ∧ Later w w' := by
  obtain ⟨W1, hW1⟩ : ∃ W1, W1 = (w.alloc (.cells s.cells.toArray 72 (0, 0))).alloc (.cells #[.string ⟨#[]⟩, .slice none 0 0, .int .i64 0, .int .i64 0, .int .i64 0, .bool false, .bool false, .bool false, .bool false, .bool false, .bool false, .bool false, .bool false] 72 (0, 0)) := ⟨_, rfl⟩
  obtain ⟨d, hd⟩ : ∃ d, d = w.heap.size := ⟨_, rfl⟩
  have X1 : Hid (SBox 72 d s W1) := by rw [hW1, hd]; exact (heap_alloc_old _ _ (by simp)).trans (heap_alloc_new _ _)
  have Y1 : Hid (SBox 72 (d + 1) SagaD.zero W1) := by rw [hW1, hd]; exact heap_second _ _ _
  have L1 : Hid (Later w W1) := by rw [hW1]; exact ((Below.refl _ _).alloc (Nat.le_refl _) _).alloc (by simp) _
  have HY : Hid (w.heap.size ≤ d + 1) := by rw [hd]; exact Nat.le_succ _
  have xe := X1.out
  have ye := Y1.out
  rw [hW1, hd] at xe ye
  have XE := hide xe
  have YE := hide ye
  have HW1 := hide hW1.symm
  have HG := hide hd.symm
  clear hW1 hd xe ye
  go_enter Tryz.func39, Tryz.ntmps39
  go_wp2_with (first | (refine wpList_load_saga (by rfl) _ (by rfl) (by rfl) XE.out ?_; simp only [HW1.out, HG.out]) | (refine wpList_store_saga (s := s) (by rfl) _ _ (by rfl) (by rfl) Y1.out (by rfl) ?_; intro w3 Z3 G3))
  have HLF : Hid (Later w w3) := L1.out.grown G3 (Below.size L1.out) (fun k hk => by have := Option.some.inj hk; have := HY.out; omega)
  refine bodyPost_ret (results_box2 Tryz.results39 _ _ (d + 1) 72 _ _ (by rfl) Z3 Tryz.underlying72 (by rfl) (by kernel_rfl) (.int .i64 0) (by rfl)) (by rfl) ?_
  exact ⟨rfl, HLF.out⟩
set_option maxHeartbeats 4000000 in
set_option maxRecDepth 100000 in
theorem orlate_no (s : SagaD) : Calls Tryz.prog 39 #[s.val, .bool false] w fun e w' => e = .returned (.tuple #[(SagaD.zero).val, .int .i64 10]) ∧ Later w w' := by
  obtain ⟨W1, hW1⟩ : ∃ W1, W1 = (w.alloc (.cells s.cells.toArray 72 (0, 0))).alloc (.cells #[.string ⟨#[]⟩, .slice none 0 0, .int .i64 0, .int .i64 0, .int .i64 0, .bool false, .bool false, .bool false, .bool false, .bool false, .bool false, .bool false, .bool false] 72 (0, 0)) := ⟨_, rfl⟩
  obtain ⟨d, hd⟩ : ∃ d, d = w.heap.size := ⟨_, rfl⟩
  have X1 : Hid (SBox 72 d s W1) := by rw [hW1, hd]; exact (heap_alloc_old _ _ (by simp)).trans (heap_alloc_new _ _)
  have Y1 : Hid (SBox 72 (d + 1) SagaD.zero W1) := by rw [hW1, hd]; exact heap_second _ _ _
  have L1 : Hid (Later w W1) := by rw [hW1]; exact ((Below.refl _ _).alloc (Nat.le_refl _) _).alloc (by simp) _
  have HY : Hid (w.heap.size ≤ d + 1) := by rw [hd]; exact Nat.le_succ _
  have xe := X1.out
  have ye := Y1.out
  rw [hW1, hd] at xe ye
  have XE := hide xe
  have YE := hide ye
  have HW1 := hide hW1.symm
  have HG := hide hd.symm
  clear hW1 hd xe ye
  go_enter Tryz.func39, Tryz.ntmps39
  go_wp2_with (first | (refine wpList_load_saga (by rfl) _ (by rfl) (by rfl) XE.out ?_; simp only [HW1.out, HG.out]) | (refine wpList_store_saga (s := SagaD.zero) (by rfl) _ _ (by rfl) (by rfl) YE.out (by rfl) ?_; simp only [HW1.out, HG.out]; intro w3 Z3 G3))
  have HLF : Hid (Later w w3) := L1.out.grown G3 (Below.size L1.out) (fun k hk => by have := Option.some.inj hk; have := HY.out; omega)
  refine bodyPost_ret (results_box2 Tryz.results39 _ _ (d + 1) 72 _ _ (by rfl) Z3 Tryz.underlying72 (by rfl) (by kernel_rfl) (.int .i64 10) (by rfl)) (by rfl) ?_
  exact ⟨rfl, HLF.out⟩
/-- The block y holds an operation. -/
def OBox (y : Nat) (o : OpD) (sv : Value) (w : World) : Prop := w.heap[y]? = some (.cells (o.cells sv).toArray 37 (0, 0))
theorem OBox.below {y : Nat} {o : OpD} {sv : Value} {w w' : World} (h : OBox y o sv w) (hl : Later w w') : OBox y o sv w' := (Below.block hl y (lt_of_block h)).trans h
theorem OBox.turned {Q : Nat → Prop} {y : Nat} {o : OpD} {sv : Value} {w w' : World} (h : OBox y o sv w) (ht : Turned Q w w') (hq : ¬ Q y) : OBox y o sv w' := (ht.block y (lt_of_block h) hq).trans h
theorem OBox.at_ {y : Nat} {o : OpD} {sv : Value} {w : World} (h : OBox y o sv w) :
    w.cell? ⟨y, 0, none⟩ = some (.int .i64 o.kind) ∧ w.cell? ⟨y, 3, none⟩ = some (.string o.name) ∧ w.cell? ⟨y, 4, none⟩ = some sv ∧ w.cell? ⟨y, 5, none⟩ = some (.int .i64 o.saga) ∧ w.cell? ⟨y, 6, none⟩ = some (.int .i64 o.step) ∧ w.cell? ⟨y, 7, none⟩ = some (.int .i64 o.try_) ∧ w.cell? ⟨y, 8, none⟩ = some (.bool o.back) ∧ w.cell? ⟨y, 9, none⟩ = some (.bool o.good) :=
  ⟨cell_of_row w y 0 _ _ _ h, cell_of_row w y 3 _ _ _ h, cell_of_row w y 4 _ _ _ h, cell_of_row w y 5 _ _ _ h, cell_of_row w y 6 _ _ _ h, cell_of_row w y 7 _ _ _ h, cell_of_row w y 8 _ _ _ h, cell_of_row w y 9 _ _ _ h⟩
theorem withV_twice (s : SagaD) (p q : Option Addr) (n c m d : Nat) : (s.withV p n c).withV q m d = s.withV q m d := rfl
theorem downS_withV (l : List StepD) (s : SagaD) (p : Option Addr) (n c : Nat) : downS l (s.withV p n c) = (downS l s).withV p n c := by
  unfold downS
  show (if downF l s.hit.l s.step = 0 then _ else _) = _
  split <;> rfl
theorem failsS_withV (l : List StepD) (s : SagaD) (p : Option Addr) (n c : Nat) : failsS l (s.withV p n c) = (failsS l s).withV p n c := by
  unfold failsS
  rw [downS_withV]
  show (if sealedS l s then _ else _) = _
  split <;> rfl
theorem missedS_withV (l : List StepD) (s : SagaD) (p : Option Addr) (n c : Nat) : missedS l (s.withV p n c) = (missedS l s).withV p n c := by
  unfold missedS
  rw [failsS_withV]
  show (if s.tr < triesN l s.step then _ else if s.st = 2 then _ else _) = _
  split
  · rfl
  · split <;> rfl
theorem nextS_withV (l : List StepD) (s : SagaD) (p : Option Addr) (n c : Nat) : nextS l (s.withV p n c) = (nextS l s).withV p n c := by
  unfold nextS
  show (if s.step = (l.length : Int) then _ else _) = _
  split <;> rfl
theorem hitN_withV (s : SagaD) (b : Bool) (p : Option Addr) (n c : Nat) : (s.withV p n c).hitN b = (s.hitN b).withV p n c := rfl
theorem reportE_withV (l : List StepD) (s : SagaD) (back good : Bool) (p : Option Addr) (n c : Nat) : reportE l (s.withV p n c) back good = (reportE l s back good).withV p n c := by
  unfold reportE
  rw [hitN_withV, hitN_withV, downS_withV, nextS_withV, missedS_withV]
  split
  · split <;> rfl
  · rfl
theorem lapseE_withV (l : List StepD) (s : SagaD) (p : Option Addr) (n c : Nat) : lapseE l (s.withV p n c) = (lapseE l s).withV p n c := by
  unfold lapseE
  rw [hitN_withV, missedS_withV]
theorem cancelF_withV (l : List StepD) (s : SagaD) (p q : Option Addr) (n c m d : Nat) : (cancelF l (s.withV p n c)).1.withV q m d = (cancelF l s).1.withV q m d ∧ (cancelF l (s.withV p n c)).2 = (cancelF l s).2 := by
  unfold cancelF
  rw [hitN_withV, failsS_withV]
  show (if goodF l s then (if s.st = 2 then _ else if lateB l s then _ else _) else _ : SagaD × Int).1.withV q m d = _ ∧ (if goodF l s then (if s.st = 2 then _ else if lateB l s then _ else _) else _ : SagaD × Int).2 = _
  split
  · split
    · exact ⟨rfl, rfl⟩
    · split
      · exact ⟨rfl, rfl⟩
      · exact ⟨rfl, rfl⟩
  · exact ⟨rfl, rfl⟩
set_option maxHeartbeats 4000000 in
set_option maxRecDepth 100000 in
theorem rep_ev_yes {F : Nat → Prop} {s : SagaD} {l : List StepD} {y : Nat} {o : OpD} {sv : Value} (h : StepsAt F w s.v l) (hl6 : l.length ≤ 1000000) (hw : ∀ x ∈ l, x.wf) (h1 : I64 s.step) (ho : OBox y o sv w) (hit : isIt l s o.step o.try_ o.back = true) :
    Calls Tryz.prog 38 #[s.val, .pointer (some ⟨y, 0, none⟩)] w fun e w' => ∃ p n c, e = .returned (.tuple #[((reportE l s o.back o.good).withV p n c).val, .int .i64 0]) ∧ StepsAt (w.heap.size ≤ ·) w' (.slice p n c) l ∧ Later w w' := by
  obtain ⟨W1, hW1⟩ : ∃ W1, W1 = (w.alloc (.cells s.cells.toArray 72 (0, 0))).alloc (.cells #[.string ⟨#[]⟩, .slice none 0 0, .int .i64 0, .int .i64 0, .int .i64 0, .bool false, .bool false, .bool false, .bool false, .bool false, .bool false, .bool false, .bool false] 72 (0, 0)) := ⟨_, rfl⟩
  obtain ⟨d, hd⟩ : ∃ d, d = w.heap.size := ⟨_, rfl⟩
  have X1 : Hid (SBox 72 d s W1) := by rw [hW1, hd]; exact (heap_alloc_old _ _ (by simp)).trans (heap_alloc_new _ _)
  have Y1 : Hid (SBox 72 (d + 1) SagaD.zero W1) := by rw [hW1, hd]; exact heap_second _ _ _
  have L1 : Hid (Later w W1) := by rw [hW1]; exact ((Below.refl _ _).alloc (Nat.le_refl _) _).alloc (by simp) _
  have HY : Hid (w.heap.size ≤ d + 1) := by rw [hd]; exact Nat.le_succ _
  have HYW : Hid (d + 1 < W1.heap.size) := SBox.lt Y1.out
  obtain ⟨_, _, _, _, c6, c7, c8, c9⟩ := (ho.below L1.out).at_
  have C := hide (report_any (step := o.step) (tr := o.try_) (back := o.back) (good := o.good) (StepsAt.kept h (Kept.of_below L1.out _)) hl6 hw h1)
  unfold reportF at C
  rw [hit] at C
  rw [if_pos rfl] at C
  have xe := X1.out
  rw [hW1, hd] at xe
  have XE := hide xe
  obtain ⟨s2, hs2⟩ : ∃ s2, reportE l s o.back o.good = s2 := ⟨_, rfl⟩
  rw [hs2] at C ⊢
  have HW1 := hide hW1.symm
  have HG := hide hd.symm
  clear hW1 hd xe h hl6 hw h1 ho hit hs2
  go_enter Tryz.func38, Tryz.ntmps38
  go_wp2_with (refine wpList_load_saga (by rfl) _ (by rfl) (by rfl) XE.out ?_; simp only [HW1.out, HG.out])
  refine C.out.mono ?_
  rintro e w2 ⟨P, N, K, rfl, hs, hl⟩
  have S2 := hide hs
  have L2a : Later w W1 := L1.out
  have L2 : Hid (Later w w2) := Later.trans L2a hl
  have Y2 : Hid (SBox 72 (d + 1) SagaD.zero w2) := Y1.out.below hl
  clear hl hs L2a C c6 c7 c8 c9
  go_wp2_with (fail)
  refine (orlate_yes (w := w2) (s2.withV P N K)).mono ?_
  rintro e w3 ⟨rfl, hl3⟩
  have L3a : Later w w2 := L2.out
  have L3 : Hid (Later w w3) := Later.trans L3a hl3
  have Y3 : Hid (SBox 72 (d + 1) SagaD.zero w3) := Y2.out.below hl3
  have S3 : Hid (StepsAt (W1.heap.size ≤ ·) w3 (.slice P N K) l) := StepsAt.kept S2.out (Kept.of_below hl3 _)
  clear hl3 L3a
  go_wp2_with (refine wpList_store_saga (s := s2.withV P N K) (by rfl) _ _ (by rfl) (by rfl) Y3.out (by rfl) ?_)
  intro w4 Z4 G4
  have HZ := hide Z4
  have HLF : Hid (Later w w4) := L3.out.grown G4 (Below.size L3.out) (fun k hk => by have := Option.some.inj hk; have := HY.out; omega)
  have S4 : Hid (StepsAt (w.heap.size ≤ ·) w4 (.slice P N K) l) := FlatAt.mono (StepsAt.kept S3.out (Kept.of_grown G4 (fun k hk hf => by have a1 := Option.some.inj hk; have a2 : W1.heap.size ≤ k := hf; have := HYW.out; omega))) (fun i _ hf => by have a2 : W1.heap.size ≤ i := hf; have := Below.size L1.out; omega)
  clear Z4 G4
  go_wp2
  refine bodyPost_ret (results_box2 Tryz.results38 _ _ (d + 1) 72 _ _ (by rfl) HZ.out Tryz.underlying72 (by rfl) (by kernel_rfl) (.int .i64 0) (by rfl)) (by rfl) ?_
  exact ⟨P, N, K, rfl, S4.out, HLF.out⟩
set_option maxHeartbeats 4000000 in
set_option maxRecDepth 100000 in
theorem rep_ev_no {F : Nat → Prop} {s : SagaD} {l : List StepD} {y : Nat} {o : OpD} {sv : Value} (h : StepsAt F w s.v l) (hl6 : l.length ≤ 1000000) (hw : ∀ x ∈ l, x.wf) (h1 : I64 s.step) (ho : OBox y o sv w) (hit : isIt l s o.step o.try_ o.back = false) :
    Calls Tryz.prog 38 #[s.val, .pointer (some ⟨y, 0, none⟩)] w fun e w' => ∃ p n c, e = .returned (.tuple #[(SagaD.zero).val, .int .i64 10]) ∧ StepsAt (w.heap.size ≤ ·) w' (.slice p n c) l ∧ Later w w' := by
  obtain ⟨W1, hW1⟩ : ∃ W1, W1 = (w.alloc (.cells s.cells.toArray 72 (0, 0))).alloc (.cells #[.string ⟨#[]⟩, .slice none 0 0, .int .i64 0, .int .i64 0, .int .i64 0, .bool false, .bool false, .bool false, .bool false, .bool false, .bool false, .bool false, .bool false] 72 (0, 0)) := ⟨_, rfl⟩
  obtain ⟨d, hd⟩ : ∃ d, d = w.heap.size := ⟨_, rfl⟩
  have X1 : Hid (SBox 72 d s W1) := by rw [hW1, hd]; exact (heap_alloc_old _ _ (by simp)).trans (heap_alloc_new _ _)
  have Y1 : Hid (SBox 72 (d + 1) SagaD.zero W1) := by rw [hW1, hd]; exact heap_second _ _ _
  have L1 : Hid (Later w W1) := by rw [hW1]; exact ((Below.refl _ _).alloc (Nat.le_refl _) _).alloc (by simp) _
  have HY : Hid (w.heap.size ≤ d + 1) := by rw [hd]; exact Nat.le_succ _
  have HYW : Hid (d + 1 < W1.heap.size) := SBox.lt Y1.out
  obtain ⟨_, _, _, _, c6, c7, c8, c9⟩ := (ho.below L1.out).at_
  have C := hide (report_any (step := o.step) (tr := o.try_) (back := o.back) (good := o.good) (StepsAt.kept h (Kept.of_below L1.out _)) hl6 hw h1)
  unfold reportF at C
  rw [hit] at C
  rw [if_neg (by simp)] at C
  have xe := X1.out
  rw [hW1, hd] at xe
  have XE := hide xe
  have HW1 := hide hW1.symm
  have HG := hide hd.symm
  clear hW1 hd xe h hl6 hw h1 ho hit
  go_enter Tryz.func38, Tryz.ntmps38
  go_wp2_with (refine wpList_load_saga (by rfl) _ (by rfl) (by rfl) XE.out ?_; simp only [HW1.out, HG.out])
  refine C.out.mono ?_
  rintro e w2 ⟨P, N, K, rfl, hs, hl⟩
  have S2 := hide hs
  have L2a : Later w W1 := L1.out
  have L2 : Hid (Later w w2) := Later.trans L2a hl
  have Y2 : Hid (SBox 72 (d + 1) SagaD.zero w2) := Y1.out.below hl
  clear hl hs L2a C c6 c7 c8 c9
  go_wp2_with (fail)
  refine (orlate_no (w := w2) (s.withV P N K)).mono ?_
  rintro e w3 ⟨rfl, hl3⟩
  have L3a : Later w w2 := L2.out
  have L3 : Hid (Later w w3) := Later.trans L3a hl3
  have Y3 : Hid (SBox 72 (d + 1) SagaD.zero w3) := Y2.out.below hl3
  have S3 : Hid (StepsAt (W1.heap.size ≤ ·) w3 (.slice P N K) l) := StepsAt.kept S2.out (Kept.of_below hl3 _)
  clear hl3 L3a
  go_wp2_with (refine wpList_store_saga (s := SagaD.zero) (by rfl) _ _ (by rfl) (by rfl) Y3.out (by rfl) ?_)
  intro w4 Z4 G4
  have HZ := hide Z4
  have HLF : Hid (Later w w4) := L3.out.grown G4 (Below.size L3.out) (fun k hk => by have := Option.some.inj hk; have := HY.out; omega)
  have S4 : Hid (StepsAt (w.heap.size ≤ ·) w4 (.slice P N K) l) := FlatAt.mono (StepsAt.kept S3.out (Kept.of_grown G4 (fun k hk hf => by have a1 := Option.some.inj hk; have a2 : W1.heap.size ≤ k := hf; have := HYW.out; omega))) (fun i _ hf => by have a2 : W1.heap.size ≤ i := hf; have := Below.size L1.out; omega)
  clear Z4 G4
  go_wp2
  refine bodyPost_ret (results_box2 Tryz.results38 _ _ (d + 1) 72 _ _ (by rfl) HZ.out Tryz.underlying72 (by rfl) (by kernel_rfl) (.int .i64 10) (by rfl)) (by rfl) ?_
  exact ⟨P, N, K, rfl, S4.out, HLF.out⟩
set_option maxHeartbeats 4000000 in
set_option maxRecDepth 100000 in
theorem lap_ev_yes {F : Nat → Prop} {s : SagaD} {l : List StepD} {y : Nat} {o : OpD} {sv : Value} (h : StepsAt F w s.v l) (hl6 : l.length ≤ 1000000) (hw : ∀ x ∈ l, x.wf) (h1 : I64 s.step) (ho : OBox y o sv w) (hit : isIt l s o.step o.try_ o.back = true) :
    Calls Tryz.prog 41 #[s.val, .pointer (some ⟨y, 0, none⟩)] w fun e w' => ∃ p n c, e = .returned (.tuple #[((lapseE l s).withV p n c).val, .int .i64 0]) ∧ StepsAt (w.heap.size ≤ ·) w' (.slice p n c) l ∧ Later w w' := by
  obtain ⟨W1, hW1⟩ : ∃ W1, W1 = (w.alloc (.cells s.cells.toArray 72 (0, 0))).alloc (.cells #[.string ⟨#[]⟩, .slice none 0 0, .int .i64 0, .int .i64 0, .int .i64 0, .bool false, .bool false, .bool false, .bool false, .bool false, .bool false, .bool false, .bool false] 72 (0, 0)) := ⟨_, rfl⟩
  obtain ⟨d, hd⟩ : ∃ d, d = w.heap.size := ⟨_, rfl⟩
  have X1 : Hid (SBox 72 d s W1) := by rw [hW1, hd]; exact (heap_alloc_old _ _ (by simp)).trans (heap_alloc_new _ _)
  have Y1 : Hid (SBox 72 (d + 1) SagaD.zero W1) := by rw [hW1, hd]; exact heap_second _ _ _
  have L1 : Hid (Later w W1) := by rw [hW1]; exact ((Below.refl _ _).alloc (Nat.le_refl _) _).alloc (by simp) _
  have HY : Hid (w.heap.size ≤ d + 1) := by rw [hd]; exact Nat.le_succ _
  have HYW : Hid (d + 1 < W1.heap.size) := SBox.lt Y1.out
  obtain ⟨_, _, _, _, c6, c7, c8, c9⟩ := (ho.below L1.out).at_
  have C := hide (lapse_any (step := o.step) (tr := o.try_) (back := o.back) (StepsAt.kept h (Kept.of_below L1.out _)) hl6 hw h1)
  unfold lapseF at C
  rw [hit] at C
  rw [if_pos rfl] at C
  have xe := X1.out
  rw [hW1, hd] at xe
  have XE := hide xe
  obtain ⟨s2, hs2⟩ : ∃ s2, lapseE l s = s2 := ⟨_, rfl⟩
  rw [hs2] at C ⊢
  have HW1 := hide hW1.symm
  have HG := hide hd.symm
  clear hW1 hd xe h hl6 hw h1 ho hit hs2
  go_enter Tryz.func41, Tryz.ntmps41
  go_wp2_with (refine wpList_load_saga (by rfl) _ (by rfl) (by rfl) XE.out ?_; simp only [HW1.out, HG.out])
  refine C.out.mono ?_
  rintro e w2 ⟨P, N, K, rfl, hs, hl⟩
  have S2 := hide hs
  have L2a : Later w W1 := L1.out
  have L2 : Hid (Later w w2) := Later.trans L2a hl
  have Y2 : Hid (SBox 72 (d + 1) SagaD.zero w2) := Y1.out.below hl
  clear hl hs L2a C c6 c7 c8 c9
  go_wp2_with (fail)
  refine (orlate_yes (w := w2) (s2.withV P N K)).mono ?_
  rintro e w3 ⟨rfl, hl3⟩
  have L3a : Later w w2 := L2.out
  have L3 : Hid (Later w w3) := Later.trans L3a hl3
  have Y3 : Hid (SBox 72 (d + 1) SagaD.zero w3) := Y2.out.below hl3
  have S3 : Hid (StepsAt (W1.heap.size ≤ ·) w3 (.slice P N K) l) := StepsAt.kept S2.out (Kept.of_below hl3 _)
  clear hl3 L3a
  go_wp2_with (refine wpList_store_saga (s := s2.withV P N K) (by rfl) _ _ (by rfl) (by rfl) Y3.out (by rfl) ?_)
  intro w4 Z4 G4
  have HZ := hide Z4
  have HLF : Hid (Later w w4) := L3.out.grown G4 (Below.size L3.out) (fun k hk => by have := Option.some.inj hk; have := HY.out; omega)
  have S4 : Hid (StepsAt (w.heap.size ≤ ·) w4 (.slice P N K) l) := FlatAt.mono (StepsAt.kept S3.out (Kept.of_grown G4 (fun k hk hf => by have a1 := Option.some.inj hk; have a2 : W1.heap.size ≤ k := hf; have := HYW.out; omega))) (fun i _ hf => by have a2 : W1.heap.size ≤ i := hf; have := Below.size L1.out; omega)
  clear Z4 G4
  go_wp2
  refine bodyPost_ret (results_box2 Tryz.results41 _ _ (d + 1) 72 _ _ (by rfl) HZ.out Tryz.underlying72 (by rfl) (by kernel_rfl) (.int .i64 0) (by rfl)) (by rfl) ?_
  exact ⟨P, N, K, rfl, S4.out, HLF.out⟩
set_option maxHeartbeats 4000000 in
set_option maxRecDepth 100000 in
theorem lap_ev_no {F : Nat → Prop} {s : SagaD} {l : List StepD} {y : Nat} {o : OpD} {sv : Value} (h : StepsAt F w s.v l) (hl6 : l.length ≤ 1000000) (hw : ∀ x ∈ l, x.wf) (h1 : I64 s.step) (ho : OBox y o sv w) (hit : isIt l s o.step o.try_ o.back = false) :
    Calls Tryz.prog 41 #[s.val, .pointer (some ⟨y, 0, none⟩)] w fun e w' => ∃ p n c, e = .returned (.tuple #[(SagaD.zero).val, .int .i64 10]) ∧ StepsAt (w.heap.size ≤ ·) w' (.slice p n c) l ∧ Later w w' := by
  obtain ⟨W1, hW1⟩ : ∃ W1, W1 = (w.alloc (.cells s.cells.toArray 72 (0, 0))).alloc (.cells #[.string ⟨#[]⟩, .slice none 0 0, .int .i64 0, .int .i64 0, .int .i64 0, .bool false, .bool false, .bool false, .bool false, .bool false, .bool false, .bool false, .bool false] 72 (0, 0)) := ⟨_, rfl⟩
  obtain ⟨d, hd⟩ : ∃ d, d = w.heap.size := ⟨_, rfl⟩
  have X1 : Hid (SBox 72 d s W1) := by rw [hW1, hd]; exact (heap_alloc_old _ _ (by simp)).trans (heap_alloc_new _ _)
  have Y1 : Hid (SBox 72 (d + 1) SagaD.zero W1) := by rw [hW1, hd]; exact heap_second _ _ _
  have L1 : Hid (Later w W1) := by rw [hW1]; exact ((Below.refl _ _).alloc (Nat.le_refl _) _).alloc (by simp) _
  have HY : Hid (w.heap.size ≤ d + 1) := by rw [hd]; exact Nat.le_succ _
  have HYW : Hid (d + 1 < W1.heap.size) := SBox.lt Y1.out
  obtain ⟨_, _, _, _, c6, c7, c8, c9⟩ := (ho.below L1.out).at_
  have C := hide (lapse_any (step := o.step) (tr := o.try_) (back := o.back) (StepsAt.kept h (Kept.of_below L1.out _)) hl6 hw h1)
  unfold lapseF at C
  rw [hit] at C
  rw [if_neg (by simp)] at C
  have xe := X1.out
  rw [hW1, hd] at xe
  have XE := hide xe
  have HW1 := hide hW1.symm
  have HG := hide hd.symm
  clear hW1 hd xe h hl6 hw h1 ho hit
  go_enter Tryz.func41, Tryz.ntmps41
  go_wp2_with (refine wpList_load_saga (by rfl) _ (by rfl) (by rfl) XE.out ?_; simp only [HW1.out, HG.out])
  refine C.out.mono ?_
  rintro e w2 ⟨P, N, K, rfl, hs, hl⟩
  have S2 := hide hs
  have L2a : Later w W1 := L1.out
  have L2 : Hid (Later w w2) := Later.trans L2a hl
  have Y2 : Hid (SBox 72 (d + 1) SagaD.zero w2) := Y1.out.below hl
  clear hl hs L2a C c6 c7 c8 c9
  go_wp2_with (fail)
  refine (orlate_no (w := w2) (s.withV P N K)).mono ?_
  rintro e w3 ⟨rfl, hl3⟩
  have L3a : Later w w2 := L2.out
  have L3 : Hid (Later w w3) := Later.trans L3a hl3
  have Y3 : Hid (SBox 72 (d + 1) SagaD.zero w3) := Y2.out.below hl3
  have S3 : Hid (StepsAt (W1.heap.size ≤ ·) w3 (.slice P N K) l) := StepsAt.kept S2.out (Kept.of_below hl3 _)
  clear hl3 L3a
  go_wp2_with (refine wpList_store_saga (s := SagaD.zero) (by rfl) _ _ (by rfl) (by rfl) Y3.out (by rfl) ?_)
  intro w4 Z4 G4
  have HZ := hide Z4
  have HLF : Hid (Later w w4) := L3.out.grown G4 (Below.size L3.out) (fun k hk => by have := Option.some.inj hk; have := HY.out; omega)
  have S4 : Hid (StepsAt (w.heap.size ≤ ·) w4 (.slice P N K) l) := FlatAt.mono (StepsAt.kept S3.out (Kept.of_grown G4 (fun k hk hf => by have a1 := Option.some.inj hk; have a2 : W1.heap.size ≤ k := hf; have := HYW.out; omega))) (fun i _ hf => by have a2 : W1.heap.size ≤ i := hf; have := Below.size L1.out; omega)
  clear Z4 G4
  go_wp2
  refine bodyPost_ret (results_box2 Tryz.results41 _ _ (d + 1) 72 _ _ (by rfl) HZ.out Tryz.underlying72 (by rfl) (by kernel_rfl) (.int .i64 10) (by rfl)) (by rfl) ?_
  exact ⟨P, N, K, rfl, S4.out, HLF.out⟩
end
end Go.Proofs.YtdkiopajilakcaaGreat
/- tell and grow of package outbox. -/
namespace Go.Proofs.YtdkiopajilakcaaGreat
open Go.RowKit Go.Maps
theorem wpList_mapUpdate_any {P : Program} {w : World} {ops : Array Oper} {rest : List Oper} {o : Oper} {a : Act} {Q : Exit → Act → World → Prop} (hg : o.guard = none) (m x v : Operand) (t : TypeId) (hop : o.op = Op.mapUpdate t m x v) (k e : TypeId) (Kd : Maps.Keyed P k) (ht : P.underlying t = some (.map k e)) (b n : Nat) (L : List (Int × Value))
    (hm : a.eval m = .map (some b)) (hown : w.ownsMap P k heldR b n (mapD L)) (hn : n < maxLen) (key : Int) (val : Value) (hx : a.eval x = .int .i64 key) (hv : a.eval v = val) (hkey : keyOf P k (Value.int .i64 key) = some (Lit.int .i64 key))
    (hK : ∀ w', w'.ownsMap P k heldR b (n + 1) ((mapD L).put (.int .i64 key) (.held val)) → w.mapTurned w' b → wpList P ops Q rest (a.put o.dst undef) w') : wpList P ops Q (o :: rest) a w :=
  wpList_plain hg fun _ hK' => wp_mapUpdate_any m x v t hop k e Kd ht b n L hm hown hn key val hx hv hkey fun w' h1 h2 => hK' _ _ (hK w' h1 h2)
theorem oop_put (x y : OpD) (s t : Value) : putAt (x.cells s).toArray 0 (y.cells t) = (y.cells t).toArray := by simp [putAt, OpD.cells]
theorem oop_one (o : OpD) {s : Value} (hs : s.oneCell' = true) : ∀ u ∈ o.cells s, u.oneCell' = true := by
  intro u hu
  simp only [OpD.cells, List.mem_cons, List.not_mem_nil, or_false] at hu
  rcases hu with rfl | rfl | rfl | rfl | rfl | rfl | rfl | rfl | rfl | rfl <;> first | rfl | exact hs
section
variable {ops : Array Oper} {rest : List Oper} {op : Oper} {a : Act} {W : World} {Q : Exit → Act → World → Prop} {g : Nat} {o z : OpD} {s sz : Value}
theorem wpList_store_oop (hgd : op.guard = none) (x y : Operand) (ho : op.op = .store 37 x y) (hx : a.eval x = .pointer (some ⟨g, 0, none⟩)) (hg : OBox g z sz W) (hs : s.oneCell' = true) (hy : a.eval y = .agg (o.cells s).toArray)
    (h : ∀ w', OBox g o s w' → W.grownBy w' (some g) → wpList Tryz.prog ops Q rest (a.put op.dst undef) w') : wpList Tryz.prog ops Q (op :: rest) a W :=
  wpList_store_box hgd 37 x y ho g 0 (o.cells s).toArray hx hy _ _ hg (by kernel_rfl) (by exact Nat.le_of_ble_eq_true rfl) (by exact oop_one o hs) (fun w' hb hg' => h w' (by rw [show (o.cells s).toArray.toList = o.cells s from rfl, oop_put] at hb; exact hb) hg')
theorem exec_load_oop (x : Operand) (ho : op.op = .load 37 x) (hx : a.eval x = .pointer (some ⟨g, 0, none⟩)) (hg : OBox g o s W) : (execOp a.eval op).run Tryz.prog W = .ok (.value (.agg (o.cells s).toArray)) W :=
  exec_load_box 37 x ho g 0 hx _ _ hg 10 _ Tryz.underlying37 (by rfl) (by kernel_rfl) (o.cells s) (by rfl) (by rfl)
end
/-- One of the places turns. -/
theorem BoxAt.put {w w' : World} {g b k a a' : Nat} {v : Int} {B1 B2 : List PlD} {p q : PlD} (h : BoxAt w g b k v a (B1 ++ p :: B2)) (hq : q.c = p.c) (ha : a ≤ a') (h0 : 0 ≤ q.age) (h1 : q.age ≤ (a' : Int))
    (ho : w'.ownsMap Tryz.prog 3 heldR b (k + 1) ((mapD ((B1 ++ p :: B2).map pairP)).put (.int .i64 p.c.saga) (.held q.val))) (ht : w.mapTurned w' b) : BoxAt w' g b (k + 1) v a' (B1 ++ q :: B2) := by
  have T : Turned (fun i => i = b) w w' := Turned.of_grown ht.grown (fun g e => (Option.some.inj e).symm)
  have hr := h.ok.1
  have e : (mapD ((B1 ++ p :: B2).map pairP)).put (.int .i64 p.c.saga) (.held q.val) = mapD ((B1 ++ q :: B2).map pairP) := by
    rw [List.map_append, List.map_cons, List.map_append, List.map_cons]
    have hw : (B1.map pairP ++ (p.c.saga, p.val) :: B2.map pairP).Pairwise (fun x y => x.1 < y.1) := by
      rw [show B1.map pairP ++ (p.c.saga, p.val) :: B2.map pairP = (B1 ++ p :: B2).map pairP by rw [List.map_append]; rfl]
      exact List.pairwise_map.2 hr
    have := put_there (B1.map pairP) (B2.map pairP) p.c.saga p.val q.val hw
    rw [show pairP q = (p.c.saga, q.val) by unfold pairP; rw [hq]]
    exact this
  rw [e] at ho
  refine ⟨(T.block g h.lt.1 h.apart).trans h.cell, ho, ⟨?_, fun y hy => ?_, by have := h.ok.2.2; simp only [List.length_append, List.length_cons] at this ⊢; exact this⟩, h.apart⟩
  · have e2 : (B1 ++ q :: B2).map (·.c.saga) = (B1 ++ p :: B2).map (·.c.saga) := by rw [List.map_append, List.map_append, List.map_cons, List.map_cons, hq]
    have h3 : ((B1 ++ p :: B2).map (·.c.saga)).Pairwise (· < ·) := List.pairwise_map.2 hr
    rw [← e2] at h3
    exact List.pairwise_map.1 h3
  · rcases List.mem_append.1 hy with hy | hy
    · obtain ⟨a1, a2, a3, a4⟩ := h.ok.2.1 y (List.mem_append.2 (.inl hy))
      exact ⟨a1, a2, a3, by omega⟩
    · rcases List.mem_cons.1 hy with rfl | hy
      · obtain ⟨a1, a2, _, _⟩ := h.ok.2.1 p (List.mem_append.2 (.inr (by simp)))
        rw [hq]
        exact ⟨a1, a2, h0, h1⟩
      · obtain ⟨a1, a2, a3, a4⟩ := h.ok.2.1 y (List.mem_append.2 (.inr (List.mem_cons_of_mem _ hy)))
        exact ⟨a1, a2, a3, by omega⟩
section
variable {w : World} {g b k a : Nat} {v : Int} {B1 B2 : List PlD} {p : PlD}
def ToldP (g b k : Nat) (v : Int) (a : Nat) (B1 B2 : List PlD) (p : PlD) (kind : Int) (w : World) (e : Ending) (w' : World) : Prop :=
  e = .returned (.agg ((opP kind false p).cells (.slice none 0 0)).toArray) ∧ BoxAt w' g b (k + 1) v a (B1 ++ p.tell :: B2) ∧ Turned (fun i => i = b) w w'
set_option maxHeartbeats 4000000 in
set_option maxRecDepth 100000 in
theorem tell_any (h : BoxAt w g b k v a (B1 ++ p :: B2)) (hk : k ≤ 100000000) (kind : Int) : Calls Tryz.prog 55 #[.pointer (some ⟨g, 0, none⟩), p.val, .int .i64 kind] w (ToldP g b k v a B1 B2 p kind w) := by
  obtain ⟨W2, hW2⟩ : ∃ W2, W2 = (w.alloc (.cells (p.cells.set 8 (.bool true)).toArray 111 (0, 0))).alloc (.cells #[.int .i64 0, .int .i64 0, .int .i64 0, .string ⟨#[]⟩, .slice none 0 0, .int .i64 0, .int .i64 0, .int .i64 0, .bool false, .bool false] 37 (0, 0)) := ⟨_, rfl⟩
  obtain ⟨y, hy⟩ : ∃ y, y = w.heap.size := ⟨_, rfl⟩
  have X2 : Hid (PBox y p.tell W2) := by rw [hW2, hy]; exact (heap_alloc_old _ _ (by simp)).trans (heap_alloc_new _ _)
  have Y2 : Hid (OBox (y + 1) OpD.zero (.slice none 0 0) W2) := by rw [hW2, hy]; exact heap_second _ _ _
  have L2 : Hid (Later w W2) := by rw [hW2]; exact ((Below.refl _ _).alloc (Nat.le_refl _) _).alloc (by simp) _
  have HY : Hid (w.heap.size ≤ y) := Nat.le_of_eq hy.symm
  have HSZ2 : Hid (W2.heap.size = y + 2) := by show _ = _; rw [hW2, hy]; simp
  have HP := hide (h.ok.2.1 p (List.mem_append.2 (.inr (by simp))))
  have HB := hide h
  have HW2 := hide hW2.symm
  have HG := hide hy.symm
  have xe := X2.out
  rw [← HW2.out, ← HG.out] at xe
  have XE := hide xe
  have T2 : Hid (MBox W2.heap.size ComD.zero (W2.alloc (.cells #[.int .i64 0, .int .i64 0, .int .i64 0, .int .i64 0, .int .i64 0, .bool false] 42 (0, 0)))) := heap_alloc_new _ _
  have LA2 : Hid (Later W2 (W2.alloc (.cells #[.int .i64 0, .int .i64 0, .int .i64 0, .int .i64 0, .int .i64 0, .bool false] 42 (0, 0)))) := (Below.refl _ _).alloc (Nat.le_refl _) _
  clear h hW2 hy xe
  go_enter Tryz.func55, Tryz.ntmps55
  go_wp2_with (first
    | (refine wpList_val rfl (by rfl) (exec_load_pcom _ (by rfl) (by rfl) XE.out) ?_; simp only [HW2.out, HG.out])
    | (refine wpList_store_com (c := p.c) (by rfl) _ _ (by rfl) (by rfl) T2.out (by rfl) ?_; intro w3 X3 G3))
  have HX3 := hide X3
  have L23 : Hid (Later W2 w3) := LA2.out.grown G3 (by simp) (fun k hk => by have := Option.some.inj hk; omega)
  have P3 : Hid (PBox y p.tell w3) := X2.out.below L23.out
  have Y3 : Hid (OBox (y + 1) OpD.zero (.slice none 0 0) w3) := (Below.block L23.out _ (lt_of_block Y2.out)).trans Y2.out
  have L3a : Later w W2 := L2.out
  have L3 : Hid (Later w w3) := Later.trans L3a L23.out
  have B3 := hide (HB.out.later L3.out)
  rw [HSZ2.out] at HX3 ⊢
  have HBY : Hid (b < y ∧ g < y) := by have := HB.out.lt; have := HY.out; exact ⟨by omega, by omega⟩
  clear X3 G3 L3a
  go_wp2_with (fail)
  refine wp_region_R (R := fun a c => a.grownBy c (some b)) (by kernel_rfl) ?_
  refine wpAnyR_take (pre_grown (some b)) (i := 0) (d := some 11) (v := ?va0) rfl rfl (by kernel_rfl) (by kernel_rfl) (by kernel_rfl) (fun _ _ _ h => h) (by rfl) ?ya0 ?_
  case ya0 => (intro w' hw'; go_simp; try (with_reducible rfl))
  simp only [Act.put]; try simp only [List.setIfInBounds_toArray]; try simp only [List.set_cons_zero, List.set_cons_succ]
  refine wpAnyR_take (pre_grown (some b)) (i := 1) (d := some 12) (v := ?va1) rfl rfl (by kernel_rfl) (by kernel_rfl) (by kernel_rfl) (fun _ _ _ h => h) (by rfl) ?ya1 ?_
  case ya1 => (intro w' hw'; go_simp; try (with_reducible rfl))
  simp only [Act.put]; try simp only [List.setIfInBounds_toArray]; try simp only [List.set_cons_zero, List.set_cons_succ]
  refine wpAnyR_take (pre_grown (some b)) (i := 2) (d := some 13) (v := ?va2) rfl rfl (by kernel_rfl) (by kernel_rfl) (by kernel_rfl) (fun _ _ _ h => h) (by rfl) ?ya2 ?_
  case ya2 => (intro w' hw'; go_simp; try (with_reducible rfl))
  simp only [Act.put]; try simp only [List.setIfInBounds_toArray]; try simp only [List.set_cons_zero, List.set_cons_succ]
  refine wpAnyR_take (pre_grown (some b)) (i := 3) (d := some 14) (v := ?va3) rfl rfl (by kernel_rfl) (by kernel_rfl) (by kernel_rfl) (fun _ _ _ h => h) (by rfl) ?ya3 ?_
  case ya3 => (intro w' hw'; have hgc : w3.drew.grownBy w' (some b) := hw'; have hc1 : w'.cell? ⟨g, 1, none⟩ = some (.map (some b)) := (World.cell?_of_block (hgc.block g B3.out.lt.1 (fun e => B3.out.apart (Option.some.inj e)))).trans B3.out.c1; go_simp; try (with_reducible rfl))
  simp only [Act.put]; try simp only [List.setIfInBounds_toArray]; try simp only [List.set_cons_zero, List.set_cons_succ]
  refine wpAnyR_take (pre_grown (some b)) (i := 4) (d := some 15) (v := ?va4) rfl rfl (by kernel_rfl) (by kernel_rfl) (by kernel_rfl) (fun _ _ _ h => h) (by rfl) ?ya4 ?_
  case ya4 => (intro w' hw'; go_simp; try (with_reducible rfl))
  simp only [Act.put]; try simp only [List.setIfInBounds_toArray]; try simp only [List.set_cons_zero, List.set_cons_succ]
  refine wpAnyR_take (pre_grown (some b)) (i := 5) (d := some 16) (v := ?va5) rfl rfl (by kernel_rfl) (by kernel_rfl) (by kernel_rfl) (fun _ _ _ h => h) (by rfl) ?ya5 ?_
  case ya5 => (intro w' hw'; have hgc : w3.drew.grownBy w' (some b) := hw'; have hc2 : w'.cell? ⟨y + 2, 2, none⟩ = some (.int .i64 p.c.saga) := (World.cell?_of_block (hgc.block (y + 2) (MBox.lt HX3.out) (fun e => by have := Option.some.inj e; have := HBY.out.1; omega))).trans HX3.out.cells.2.2.1; go_simp; try (with_reducible rfl))
  simp only [Act.put]; try simp only [List.setIfInBounds_toArray]; try simp only [List.set_cons_zero, List.set_cons_succ]
  refine wpAnyR_take (pre_grown (some b)) (i := 6) (d := some 17) (v := p.tell.val) rfl rfl (by kernel_rfl) (by kernel_rfl) (by kernel_rfl) (fun _ _ _ h => h) (by rfl) ?ya6 ?_
  case ya6 => (intro w' hw'; have hgc : w3.drew.grownBy w' (some b) := hw'; exact exec_load_pl _ (by rfl) (by rfl) (show PBox y p.tell w' from (hgc.block y (PBox.lt P3.out) (fun e => by have := Option.some.inj e; have := HBY.out.1; omega)).trans P3.out))
  simp only [Act.put]; try simp only [List.setIfInBounds_toArray]; try simp only [List.set_cons_zero, List.set_cons_succ]
  refine wpAnyR_only (i := 7) rfl (by kernel_rfl) (by rfl) fun K hK => ?_
  refine wp_mapUpdate_any _ _ _ 82 (by rfl) 3 111 Tryz.int_law Tryz.underlying82 b k ((B1 ++ p :: B2).map pairP) (by rfl) (B3.out.later (Later.drew w3)).body (by unfold maxLen; omega) p.c.saga p.tell.val (by rfl) (by rfl) (int_key ⟨by have := HP.out; omega, by have := HP.out; omega⟩) ?_
  intro w4 ho4 ht4
  have hp4 := (B3.out.later (Later.drew w3)).put (q := p.tell) (a' := a) rfl (Nat.le_refl _) HP.out.2.2.1 HP.out.2.2.2 ho4 ht4
  have B4 := hide hp4
  have T34 : Hid (Turned (fun i => i = b) w3 w4) := Turned.of_drew (Turned.of_grown ht4.grown (fun g e => (Option.some.inj e).symm))
  refine hK.out _ _ ht4.grown ?_
  clear hp4 ho4 ht4
  clear hK K
  try simp only [Act.put]
  refine wpAnyR_done (by kernel_rfl) ?_ _
  have T4 : Hid (Turned (fun i => i = b) w w4) := (Turned.of_below (show Later w w3 from L3.out) _).trans T34.out
  have X4 : Hid (MBox (y + 2) p.c w4) := (T34.out.block (y + 2) (lt_of_block HX3.out) (by have := HBY.out.1; omega)).trans HX3.out
  have Y4 : Hid (OBox (y + 1) OpD.zero (.slice none 0 0) w4) := (T34.out.block (y + 1) (lt_of_block Y3.out) (by have := HBY.out.1; omega)).trans Y3.out
  obtain ⟨_, _, x2, x3, x4, x5, _⟩ := X4.out.cells
  go_wp2_with (first
    | (refine wpList_build_parts (by rfl) 37 _ (by rfl) [(0, .int .i64 kind), (4, .int .i64 p.c.saga), (5, .int .i64 p.c.step), (6, .int .i64 p.c.tr), (7, .bool p.c.back)] (by rfl) ((opP kind false p).cells (.slice none 0 0)).toArray (by kernel_rfl) ?_)
    | (refine wpList_store_oop (o := opP kind false p) (s := .slice none 0 0) (by rfl) _ _ (by rfl) (by rfl) Y4.out (by rfl) (by rfl) ?_; intro w5 X5 G5))
  have HX5 := hide X5
  have L5 : Hid (Turned (fun i => i = b) w w5) := T4.out.onto (Turned.of_grown (S := fun i => i = y + 1) G5 (fun g e => (Option.some.inj e).symm)) (fun i hi => .inr (by have := HY.out; omega))
  have B5 := hide (B4.out.turned (Turned.of_grown (S := fun i => i = y + 1) G5 (fun g e => (Option.some.inj e).symm)) (by have := HBY.out.2; omega) (by have := HBY.out.1; omega))
  refine bodyPost_ret (results_cell_row Tryz.results55 _ _ (y + 1) 37 _ (0, 0) _ (by rfl) HX5.out Tryz.underlying37 (by rfl) (by kernel_rfl)) (by rfl) ?_
  exact ⟨rfl, B5.out, L5.out⟩
end
end Go.Proofs.YtdkiopajilakcaaGreat
/- grow of package outbox: all places are a tick older. -/
namespace Go.Proofs.YtdkiopajilakcaaGreat
open Go.RowKit Go.Maps
/-- New ints, as a slice that lies in new blocks. -/
theorem NewInts.row {w w' : World} {l : List Int} {e : Ending} (h : NewInts w l e w') : ∃ A c, e = .returned (.slice A l.length c) ∧ IncsAt (w.heap.size ≤ ·) w' (.slice A l.length c) l ∧ Later w w' := by
  obtain ⟨A, n, c, rfl, h1, _, _, h4⟩ := h
  have e1 : n = l.length := by have := h1.1; rw [ivs_len] at this; omega
  subst e1
  exact ⟨A, c, rfl, FlatAt.of_own h1 (ivs_cell _), h4⟩
theorem split_at {α : Type} {L : List α} {q : Nat} {p : α} (h : L[q]? = some p) : L = L.take q ++ p :: L.drop (q + 1) := by
  have := List.take_append_drop q L
  rw [List.drop_eq_getElem_cons (List.getElem?_eq_some_iff.1 h).1] at this
  rw [← (List.getElem?_eq_some_iff.1 h).2]
  exact this.symm
theorem take_more {α : Type} {L : List α} {q : Nat} {p : α} (h : L[q]? = some p) : L.take (q + 1) = L.take q ++ [p] := by rw [List.take_add_one, h]; rfl
theorem drop_more {α : Type} {L : List α} {q : Nat} {p : α} (h : L[q]? = some p) : L.drop q = p :: L.drop (q + 1) := by
  rw [List.drop_eq_getElem_cons (List.getElem?_eq_some_iff.1 h).1, (List.getElem?_eq_some_iff.1 h).2]
theorem sagas_at {B : List PlD} {q : Nat} {x : Int} (h : (sagasP B)[q]? = some x) : ∃ p, B[q]? = some p ∧ p.c.saga = x := by
  unfold sagasP at h
  rw [List.getElem?_map] at h
  cases hp : B[q]? with
  | none => rw [hp] at h; cases h
  | some p => rw [hp] at h; exact ⟨p, rfl, Option.some.inj h⟩
section
variable {w : World} {g b k a : Nat} {v : Int} {B : List PlD}
def Grew (g b k : Nat) (v : Int) (a : Nat) (B : List PlD) (w : World) (e : Ending) (w' : World) : Prop :=
  e = .returned (.tuple #[]) ∧ BoxAt w' g b (k + B.length) v (a + 1) (growL B) ∧ Turned (fun i => i = b) w w'
set_option maxHeartbeats 4000000 in
set_option maxRecDepth 100000 in
theorem grow_any (h : BoxAt w g b k v a B) (hk : k ≤ 100000000) (ha : a ≤ 1000000) : Calls Tryz.prog 54 #[.pointer (some ⟨g, 0, none⟩)] w (Grew g b k v a B w) := by
  have CO := hide (oopen_any h)
  have HLT := hide h.lt
  have H0 := hide h
  obtain ⟨n, hn⟩ : ∃ n, B.length = n := ⟨_, rfl⟩
  have hn6 : n ≤ 1000000 := by have := h.ok.2.2; omega
  have HN := hide hn
  have HSL : Hid ((sagasP B).length = n) := by show _ = _; rw [← hn]; simp [sagasP]
  unfold Grew
  rw [hn]
  clear h hn
  go_enter Tryz.func54, Tryz.ntmps54
  go_wp2_with (fail)
  refine CO.out.mono ?_
  rintro e w1 h1
  obtain ⟨A, c, rfl, h2, h3⟩ := h1.row
  rw [HSL.out] at h2 ⊢
  have IDS := hide h2
  have L1 := hide h3
  clear h1 h2 h3 CO
  go_wp2_with (fail)
  go_loopw [8] (fun s8 wr => ∃ q : Nat, q ≤ n ∧ s8 = .int .i64 (q : Int) ∧ Hid (BoxAt wr g b (k + q) v (a + 1) (growL (B.take q) ++ B.drop q)) ∧ Hid (Turned (fun i => i = b) w1 wr)) (fun i _ => n - (Go.RowKit.intOf i).toNat)
  case atStart => exact ⟨0, by omega, rfl, (H0.out.later L1.out).more (by omega) (Nat.le_refl _), Turned.refl _ _⟩
  case round =>
    obtain ⟨q, hq, rfl, HB, TR⟩ := hrel
    by_cases hqn : q < n
    · have IDR : IncsAt (w.heap.size ≤ ·) wr (.slice A n c) (sagasP B) := IDS.out.kept (TR.out.kept fun i hi e => by have := HLT.out.2; omega)
      obtain ⟨x, ub, uo, uc, hx, hvv, _, hub, _, hcell⟩ := IncsAt.at_ IDR (i := q) (by rw [HSL.out]; exact hqn)
      rw [HSL.out] at hvv
      obtain ⟨rfl, rfl⟩ : A = some ⟨ub, uo, none⟩ ∧ c = uc := by injection hvv with e1 _ e3; exact ⟨e1, e3⟩
      obtain ⟨p, hp, rfl⟩ := sagas_at hx
      have hB2 : growL (B.take q) ++ B.drop q = growL (B.take q) ++ p :: B.drop (q + 1) := by rw [drop_more hp]
      have HB2 : Hid (BoxAt wr g b (k + q) v (a + 1) (growL (B.take q) ++ p :: B.drop (q + 1))) := by have := HB.out; rw [hB2] at this; exact this
      have hpm : p ∈ growL (B.take q) ++ p :: B.drop (q + 1) := by simp
      have HP := hide (H0.out.ok.2.1 p (List.mem_of_getElem? hp))
      have HF : Hid (foundIn ((growL (B.take q) ++ p :: B.drop (q + 1)).map pairP) PlD.zero.val p.c.saga = (p.val, true)) := by
        show _ = _
        rw [found_pl, plAt_of HB2.out.ok.1 hpm]
      have HGB := hide HB2.out.lt
      have hwr : wrap64 (p.age + 1) = p.age + 1 := by obtain ⟨_, _, a1, a2⟩ := HP.out; unfold wrap64; omega
      have c1 := HB2.out.c1
      have HPQ := hide hp
      have HI : Hid (I64 p.c.saga) := by have := HP.out; exact ⟨by omega, by omega⟩
      obtain ⟨z, hz⟩ : ∃ z, wr.heap.size = z := ⟨_, rfl⟩
      have T5 : Hid (PBox wr.heap.size PlD.zero (wr.alloc (.cells #[.int .i64 0, .int .i64 0, .int .i64 0, .int .i64 0, .int .i64 0, .bool false, .int .i64 0, .int .i64 0, .bool false] 111 (0, 0)))) := heap_alloc_new _ _
      have L5a : Hid (Later wr (wr.alloc (.cells #[.int .i64 0, .int .i64 0, .int .i64 0, .int .i64 0, .int .i64 0, .bool false, .int .i64 0, .int .i64 0, .bool false] 111 (0, 0)))) := (Below.refl _ _).alloc (Nat.le_refl _) _
      have HZ := hide hz
      clear hx hvv hp hB2 hpm HB hz
      go_wp2_with (first
        | (at_lookup; refine wpList_lookup_held1 rfl _ _ 82 rfl 3 111 Tryz.int_law Tryz.underlying82 PlD.zero.val (by kernel_rfl) b _ _ rfl HB2.out.body _ rfl (int_key HI.out) _ true HF.out ?_)
        | (refine wpList_store_pl (p := p) (by rfl) _ _ (by rfl) (by rfl) T5.out (by rfl) ?_))
      intro w3 X3 G3
      have L3 : Hid (Later wr w3) := L5a.out.grown G3 (by simp) (fun k hk => by have := Option.some.inj hk; omega)
      have B3 := hide (HB2.out.later L3.out)
      rw [HZ.out] at X3 ⊢
      have HX3 := hide X3
      have HZB : Hid (b < z ∧ g < z) := by have := HGB.out; have := HZ.out; exact ⟨by omega, by omega⟩
      have d7 := X3.cells.2.2.2.2.2.2.2.1
      have f7 := X3.cells.2.2.2.2.2.2.2.2.2 7
      clear X3 G3 c1 T5 L5a hcell
      go_wp2_with (fail)
      rw [hwr]
      obtain ⟨w4, hw4⟩ : ∃ w4, w4 = w3.setCell ⟨z, 7, none⟩ (.int .i64 (p.age + 1)) := ⟨_, rfl⟩
      have X4 : Hid (PBox z p.grow w4) := by rw [hw4]; exact PBox.aged HX3.out (p.age + 1)
      have G4 : w3.grownBy w4 (some z) := by rw [hw4]; exact grown_set _ _ _ _
      have L4 : Hid (Later wr w4) := (show Later wr w3 from L3.out).grown G4 (Below.size L3.out) (fun k hk => by have := Option.some.inj hk; have := HZ.out; omega)
      have B4 := hide (HB2.out.later L4.out)
      rw [← hw4]
      clear d7 f7 hw4 G4
      refine wp_region_R (R := fun a c => a.grownBy c (some b)) (by kernel_rfl) ?_
      refine wpAnyR_take (pre_grown (some b)) (i := 0) (d := some 22) (v := ?va0) rfl rfl (by kernel_rfl) (by kernel_rfl) (by kernel_rfl) (fun _ _ _ h => h) (by rfl) ?ya0 ?_
      case ya0 => (intro w' hw'; go_simp; try (with_reducible rfl))
      simp only [Act.put]; try simp only [List.setIfInBounds_toArray]; try simp only [List.set_cons_zero, List.set_cons_succ]
      refine wpAnyR_take (pre_grown (some b)) (i := 1) (d := some 23) (v := ?va1) rfl rfl (by kernel_rfl) (by kernel_rfl) (by kernel_rfl) (fun _ _ _ h => h) (by rfl) ?ya1 ?_
      case ya1 => (intro w' hw'; go_simp; try (with_reducible rfl))
      simp only [Act.put]; try simp only [List.setIfInBounds_toArray]; try simp only [List.set_cons_zero, List.set_cons_succ]
      refine wpAnyR_take (pre_grown (some b)) (i := 2) (d := some 24) (v := ?va2) rfl rfl (by kernel_rfl) (by kernel_rfl) (by kernel_rfl) (fun _ _ _ h => h) (by rfl) ?ya2 ?_
      case ya2 => (intro w' hw'; go_simp; try (with_reducible rfl))
      simp only [Act.put]; try simp only [List.setIfInBounds_toArray]; try simp only [List.set_cons_zero, List.set_cons_succ]
      refine wpAnyR_take (pre_grown (some b)) (i := 3) (d := some 25) (v := ?va3) rfl rfl (by kernel_rfl) (by kernel_rfl) (by kernel_rfl) (fun _ _ _ h => h) (by rfl) ?ya3 ?_
      case ya3 => (intro w' hw'; have hgc : w4.drew.grownBy w' (some b) := hw'; have hc1 : w'.cell? ⟨g, 1, none⟩ = some (.map (some b)) := (World.cell?_of_block (hgc.block g B4.out.lt.1 (fun e => B4.out.apart (Option.some.inj e)))).trans B4.out.c1; go_simp; try (with_reducible rfl))
      simp only [Act.put]; try simp only [List.setIfInBounds_toArray]; try simp only [List.set_cons_zero, List.set_cons_succ]
      refine wpAnyR_take (pre_grown (some b)) (i := 4) (d := some 26) (v := ?va4) rfl rfl (by kernel_rfl) (by kernel_rfl) (by kernel_rfl) (fun _ _ _ h => h) (by rfl) ?ya4 ?_
      case ya4 => (intro w' hw'; go_simp; try (with_reducible rfl))
      simp only [Act.put]; try simp only [List.setIfInBounds_toArray]; try simp only [List.set_cons_zero, List.set_cons_succ]
      refine wpAnyR_take (pre_grown (some b)) (i := 5) (d := some 27) (v := p.grow.val) rfl rfl (by kernel_rfl) (by kernel_rfl) (by kernel_rfl) (fun _ _ _ h => h) (by rfl) ?ya5 ?_
      case ya5 => (intro w' hw'; have hgc : w4.drew.grownBy w' (some b) := hw'; exact exec_load_pl _ (by rfl) (by rfl) (show PBox z p.grow w' from (hgc.block z (PBox.lt X4.out) (fun e => by have := Option.some.inj e; have := HZB.out.1; omega)).trans X4.out))
      simp only [Act.put]; try simp only [List.setIfInBounds_toArray]; try simp only [List.set_cons_zero, List.set_cons_succ]
      refine wpAnyR_only (i := 6) rfl (by kernel_rfl) (by rfl) fun K hK => ?_
      refine wp_mapUpdate_any _ _ _ 82 (by rfl) 3 111 Tryz.int_law Tryz.underlying82 b (k + q) ((growL (B.take q) ++ p :: B.drop (q + 1)).map pairP) (by rfl) (B4.out.later (Later.drew w4)).body (by unfold maxLen; omega) p.c.saga p.grow.val (by rfl) (by rfl) (int_key HI.out) ?_
      intro w5 ho5 ht5
      have hp5 := (B4.out.later (Later.drew w4)).put (q := p.grow) (a' := a + 1) rfl (Nat.le_refl _) (by have := HP.out; show 0 ≤ p.age + 1; omega) (by have := HP.out; show p.age + 1 ≤ _; omega) ho5 ht5
      have B5 := hide hp5
      have T45 : Hid (Turned (fun i => i = b) w4 w5) := Turned.of_drew (Turned.of_grown ht5.grown (fun g e => (Option.some.inj e).symm))
      refine hK.out _ _ ht5.grown ?_
      clear hp5 ho5 ht5
      clear hK K
      try simp only [Act.put]
      refine wpAnyR_done (by kernel_rfl) ?_ _
      have T1 : Hid (Turned (fun i => i = b) w1 w5) := (TR.out.trans (Turned.of_below (show Later wr w4 from L4.out) _)).trans T45.out
      go_wp2_with (fail)
      go_roundw
      case rel =>
        refine ⟨q + 1, by omega, by go_num, ?_, T1.out⟩
        have e : growL (B.take (q + 1)) ++ B.drop (q + 1) = growL (B.take q) ++ p.grow :: B.drop (q + 1) := by
          rw [take_more HPQ.out]
          unfold growL
          rw [List.map_append, List.append_assoc]
          rfl
        rw [e]
        exact B5.out
      case measure => simp [Go.RowKit.intOf]; omega
    · obtain rfl : q = n := by omega
      have e : growL (B.take q) ++ B.drop q = growL B := by rw [List.take_of_length_le (by rw [HN.out]; omega), List.drop_of_length_le (by rw [HN.out]; omega), List.append_nil]
      have HE : Hid (BoxAt wr g b (k + q) v (a + 1) (growL B)) := by have := HB.out; rw [e] at this; exact this
      have T1 : Hid (Turned (fun i => i = b) w wr) := (Turned.of_below (show Later w w1 from L1.out) _).trans TR.out
      go_wp2
      go_end0
      exact ⟨rfl, HE.out, T1.out⟩
end
end Go.Proofs.YtdkiopajilakcaaGreat
/- Sync of package outbox. -/
namespace Go.Proofs.YtdkiopajilakcaaGreat
open Go.RowKit Go.Maps
theorem eql_com (x y : ComD) (w : World) : (binOp .eql 42 x.val y.val).run Tryz.prog w = .ok (.bool (decide (x = y))) w := by
  obtain ⟨a, b, c, d, e, f⟩ := x
  obtain ⟨a', b', c', d', e', f'⟩ := y
  have u3 := Tryz.underlying3
  have u4 := Tryz.underlying4
  have hS : Tryz.prog.underlying 42 = some (.struct (Tryz.prog.fieldsOf 42)) := by kernel_rfl
  have hp : Tryz.prog.stoodInHeld 42 = false := by kernel_rfl
  unfold ComD.val ComD.cells
  rw [run_eql_struct, show (10000 : Nat) = 9999 + 1 from rfl, run_equalIn_struct w 9999 42 _ _ hS hp]
  simp only [Program.fieldsOf, Tryz.underlying42]
  go_simp
  by_cases h0 : a = a' <;> by_cases h1 : b = b' <;> by_cases h2 : c = c' <;> by_cases h3 : d = d' <;> by_cases h4 : e = e' <;> cases f <;> cases f' <;> simp [h0, h1, h2, h3, h4]
theorem exec_eql_com {op : Oper} {a : Act} {w : World} (x y : ComD) (p q : Operand) (t : TypeId) (ho : op.op = .binOp .eql 42 p q t) (hp : a.eval p = x.val) (hq : a.eval q = y.val) : (execOp a.eval op).run Tryz.prog w = .ok (.value (.bool (decide (x = y)))) w := by
  unfold execOp
  simp only [ho, hp, hq, Sem.run_bind, eql_com, run_eqGuard_agg (P := Tryz.prog) w .eql 42 p q x.cells.toArray y.cells.toArray (by kernel_rfl), Result.andThen_ok, Sem.run_pure]
theorem neq_com (x y : ComD) (w : World) : (binOp .neq 42 x.val y.val).run Tryz.prog w = .ok (.bool (!decide (x = y))) w := by
  obtain ⟨a, b, c, d, e, f⟩ := x
  obtain ⟨a', b', c', d', e', f'⟩ := y
  have u3 := Tryz.underlying3
  have u4 := Tryz.underlying4
  have hS : Tryz.prog.underlying 42 = some (.struct (Tryz.prog.fieldsOf 42)) := by kernel_rfl
  have hp : Tryz.prog.stoodInHeld 42 = false := by kernel_rfl
  unfold ComD.val ComD.cells
  rw [run_neq_struct, show (10000 : Nat) = 9999 + 1 from rfl, run_equalIn_struct w 9999 42 _ _ hS hp]
  simp only [Program.fieldsOf, Tryz.underlying42]
  go_simp
  by_cases h0 : a = a' <;> by_cases h1 : b = b' <;> by_cases h2 : c = c' <;> by_cases h3 : d = d' <;> by_cases h4 : e = e' <;> cases f <;> cases f' <;> simp [h0, h1, h2, h3, h4]
theorem exec_neq_com {op : Oper} {a : Act} {w : World} (x y : ComD) (p q : Operand) (t : TypeId) (ho : op.op = .binOp .neq 42 p q t) (hp : a.eval p = x.val) (hq : a.eval q = y.val) : (execOp a.eval op).run Tryz.prog w = .ok (.value (.bool (!decide (x = y)))) w := by
  unfold execOp
  simp only [ho, hp, hq, Sem.run_bind, neq_com, run_eqGuard_agg (P := Tryz.prog) w .neq 42 p q x.cells.toArray y.cells.toArray (by kernel_rfl), Result.andThen_ok, Sem.run_pure]
theorem exec_buildSlice_com {op : Oper} {a : Act} {W : World} {c : ComD} {i0 : TypeInfo} {zv : Value} {x : Operand} (hi : Tryz.prog.info? 42 = some i0) (hz0 : i0.zero = some zv) (hz1 : i0.size = 6) (ho : op.op = .buildSlice 51 1 #[(0, x)]) (hx : a.eval x = c.val) :
    (execOp a.eval op).run Tryz.prog W = .ok (.value (.slice (some ⟨W.heap.size, 0, none⟩) 1 1)) (W.alloc (.cells c.cells.toArray 42 (0, 0))) := by
  have hr := run_buildSlice_one (P := Tryz.prog) (w := W) 51 42 i0 zv 6 Tryz.underlying51 hi hz0 hz1 (by decide) (by decide) c.cells.toArray rfl
  unfold execOp
  simp [ho, hx, hr, Result.andThen]
theorem com_info : (Tryz.prog.info? 42).map (fun i => (i.zero, i.size, i.bytes)) = some (some (.agg #[.int .i64 0, .int .i64 0, .int .i64 0, .int .i64 0, .int .i64 0, .bool false]), 6, 48) := by kernel_rfl
/-- A row of the call's own, of which other blocks turned. -/
theorem own_turned {S : Nat → Prop} {w w' : World} {base e k n : Nat} {v : Value} {xs : List Value} (h : w.ownsRow base e k v n xs) (ht : Turned S w w') (hs : ∀ i, S i → i < base) : w'.ownsRow base e k v n xs := by
  rcases h.2 with ⟨e1, e2⟩ | ⟨g, cap, cur, e1, hb, hg, rest⟩
  · exact ⟨h.1, .inl ⟨e1, e2⟩⟩
  · exact ⟨h.1, .inr ⟨g, cap, cur, e1, hb, (ht.block g (lt_of_block hg) (fun hS => by have := hs g hS; omega)).trans hg, rest⟩⟩
theorem own_after {w w' : World} {base e k n : Nat} {v : Value} {xs : List Value} (h : w.ownsRow base e k v n xs) (hl : Later w w') : w'.ownsRow base e k v n xs := own_turned h (Turned.of_below hl (fun _ => False)) (fun _ hi => hi.elim)
theorem own_down {w : World} {base base' e k n : Nat} {v : Value} {xs : List Value} (h : w.ownsRow base e k v n xs) (hb : base' ≤ base) : w.ownsRow base' e k v n xs := by
  rcases h.2 with ⟨e1, e2⟩ | ⟨g, cap, cur, e1, hb2, rest⟩
  · exact ⟨h.1, .inl ⟨e1, e2⟩⟩
  · exact ⟨h.1, .inr ⟨g, cap, cur, e1, by omega, rest⟩⟩
theorem Turned.behind {S : Nat → Prop} {a b c : World} (h : Turned S a b) (k : Below a.heap.size b c) : Turned S a c :=
  ⟨k.os.trans h.os, k.tape.trans h.tape, k.output.trans h.output, Nat.le_trans h.size k.size, fun i hi hs => (k.block i hi).trans (h.block i hi hs)⟩
def coms (l : List ComD) : List Value := l.flatMap ComD.cells
theorem coms_more (l : List ComD) (c : ComD) : coms (l ++ [c]) = coms l ++ c.cells := by simp [coms]
/-- One command more, at the end of a row of the call's own. -/
theorem wpList_append_com {w : World} {ops : Array Oper} {rest : List Oper} {o : Oper} {a : Act} {Q : Exit → Act → World → Prop} (hgd : o.guard = none) (s x : Operand)
    (ho : o.op = .call { callee := .builtin .append, args := #[s, x], argTypes := #[51, 51] }) (base : Nat) (v : Value) (l : List ComD) (c : ComD) (n g cap : Nat) (hs : a.eval s = v) (hn : l.length = n) (hown : w.ownsRow base 42 6 v n (coms l))
    (hx : a.eval x = .slice (some ⟨g, 0, none⟩) 1 cap) (F : Nat → Prop) (hl : FlatAt F w 6 (.slice (some ⟨g, 0, none⟩) 1 cap) 1 c.cells) (hroom : n ≤ 1000000000) (hbase : base ≤ w.heap.size)
    (h : ∀ v' w', w'.ownsRow base 42 6 v' (n + 1) (coms (l ++ [c])) → Below base w w' → w.grownBy w' v.ownBlock → wpList Tryz.prog ops Q rest (a.put o.dst v') w') : wpList Tryz.prog ops Q (o :: rest) a w := by
  obtain ⟨i0, hi, hz0, hz1, hz2⟩ := info_parts com_info
  refine wpList_append_flat w hgd s x 51 ho base 42 i0 _ 6 48 Tryz.underlying51 hi hz0 hz1 hz2 rfl (by decide) v n (coms l) hs hown F (some ⟨g, 0, none⟩) 1 cap c.cells hx hl (by unfold maxLen; omega) (by omega) hbase fun v' w' h1 h2 => ?_
  rw [← coms_more] at h1
  exact h v' w' h1 (later_own hown hbase h2) h2
theorem sync_skip {v : Int} {B : List PlD} {L : List Ent} {x : Ent} (h : wantE x = false) : syncL v B (L ++ [x]) = syncL v B L ∧ syncA v B (L ++ [x]) = syncA v B L := by
  unfold syncL syncA
  rw [List.filter_append, List.filter_append, List.filter_cons_of_neg (by simp [h]), List.filter_cons_of_neg (by simp [h])]
  simp
theorem sync_had {v : Int} {B : List PlD} {L : List Ent} {x : Ent} {p : PlD} (h : wantE x = true) (hp : plAt B x.id = some p) (hc : p.c = comE v x) : syncL v B (L ++ [x]) = syncL v B L ++ [p] ∧ syncA v B (L ++ [x]) = syncA v B L := by
  have h1 : hadE v B x = true := by unfold hadE; rw [hp]; simp [hc]
  have h2 : syncP v B x = p := by unfold syncP; rw [hp]; simp [hc]
  unfold syncL syncA
  rw [List.filter_append, List.filter_append, List.filter_cons_of_pos (by simp [h]), List.filter_cons_of_neg (by simp [h1])]
  simp [h2]
theorem sync_new {v : Int} {B : List PlD} {L : List Ent} {x : Ent} (h : wantE x = true) (hp : ∀ p, plAt B x.id = some p → p.c ≠ comE v x) : syncL v B (L ++ [x]) = syncL v B L ++ [newP v x] ∧ syncA v B (L ++ [x]) = syncA v B L ++ [comE v x] := by
  have h1 : hadE v B x = false := by
    unfold hadE
    cases hq : plAt B x.id with
    | none => rfl
    | some p => simp [hp p hq]
  have h2 : syncP v B x = newP v x := by
    unfold syncP
    cases hq : plAt B x.id with
    | none => rfl
    | some p => simp [hp p hq]
  unfold syncL syncA
  rw [List.filter_append, List.filter_append, List.filter_cons_of_pos (by simp [h]), List.filter_cons_of_pos (by simp [h, h1])]
  simp [h2]
/-- All keys so far are below the next one. -/
theorem sync_low {v : Int} {B : List PlD} {L : List Ent} {q : Nat} {x : Ent} (hr : RiseE L) (hx : L[q]? = some x) : ∀ p ∈ (syncL v B (L.take q)).map pairP, p.1 < x.id := by
  intro p hp
  obtain ⟨r, hr2, rfl⟩ := List.mem_map.1 hp
  obtain ⟨y, hy, rfl⟩ := List.mem_map.1 hr2
  show (syncP v B y).c.saga < x.id
  rw [syncP_saga]
  show y.id < x.id
  have h1 := split_at hx
  unfold RiseE at hr
  rw [h1] at hr
  exact (List.pairwise_append.1 hr).2.2 y (List.mem_filter.1 hy).1 x (by simp)
theorem idsOf_at {L : List Ent} {q : Nat} {x : Int} (h : (idsOf L)[q]? = some x) : ∃ e, L[q]? = some e ∧ e.id = x := by
  unfold idsOf at h
  rw [List.getElem?_map] at h
  cases hp : L[q]? with
  | none => rw [hp] at h; cases h
  | some p => rw [hp] at h; exact ⟨p, rfl, Option.some.inj h⟩
theorem sync_ok {v : Int} {a : Nat} {B : List PlD} {t : BkS} (hb : BoxOk a B) (hk : BkOk t) (hn : t.L.length ≤ 1000000) : BoxOk a (syncL v B t.L) := by
  refine ⟨sync_rise v B hk.1, fun p hp => ?_, by have := syncL_len v B t.L; omega⟩
  obtain ⟨x, hx, rfl⟩ := List.mem_map.1 hp
  obtain ⟨⟨_, _, _, h1⟩, h2⟩ := hk.2.1 x (List.mem_filter.1 hx).1
  have hs : (syncP v B x).c.saga = x.id := by rw [syncP_saga]; rfl
  refine ⟨by omega, by omega, ?_⟩
  unfold syncP
  cases hq : plAt B x.id with
  | none => exact ⟨Int.le_refl _, by show (0 : Int) ≤ _; omega⟩
  | some p =>
    simp only
    split
    · obtain ⟨_, _, a3, a4⟩ := hb.2.1 p (plAt_mem hq).1
      exact ⟨a3, a4⟩
    · exact ⟨Int.le_refl _, by show (0 : Int) ≤ _; omega⟩
section
variable {w : World} {g b k a : Nat} {v : Int} {B : List PlD} {F : Nat → Prop} {g2 b2 k2 : Nat} {most : Int} {t : BkS}
def Synced (g : Nat) (v : Int) (a : Nat) (B : List PlD) (t : BkS) (w : World) (e : Ending) (w' : World) : Prop :=
  ∃ sv b', e = .returned sv ∧ w.heap.size ≤ b' ∧ w'.ownsRow (b' + 1) 42 6 sv (syncA v B t.L).length (coms (syncA v B t.L)) ∧ BoxAt w' g b' t.L.length v a (syncL v B t.L) ∧ Turned (fun i => i = g) w w'
set_option maxHeartbeats 8000000 in
set_option maxRecDepth 100000 in
theorem sync_any (h : BoxAt w g b k v a B) (hk : BookAt F w g2 b2 k2 most t) (hn : t.L.length ≤ 1000000) : Calls Tryz.prog 17 #[.pointer (some ⟨g, 0, none⟩), .pointer (some ⟨g2, 0, none⟩)] w (Synced g v a B t w) := by
  obtain ⟨i0, hi, hz0, hz1, _⟩ := info_parts com_info
  have HI := hide hi
  have HZ0 := hide hz0
  have HZ1 := hide hz1
  have hmm := @run_makeMap Tryz.prog
  have CM := hide (omade_yes h)
  obtain ⟨W1, hW1⟩ : ∃ W1, W1 = w.alloc (.map #[] 0) := ⟨_, rfl⟩
  obtain ⟨bn, hbn⟩ : ∃ bn, bn = w.heap.size := ⟨_, rfl⟩
  have M1 : Hid (W1.ownsMap Tryz.prog 3 heldR bn 0 (mapD [])) := by rw [hW1, hbn]; exact World.ownsMap_made w Tryz.prog 3 heldR
  have L1 : Hid (Later w W1) := by rw [hW1]; exact (Below.refl _ _).alloc (Nat.le_refl _) _
  have HBN : Hid (w.heap.size ≤ bn ∧ bn < W1.heap.size) := ⟨Nat.le_of_eq hbn.symm, by rw [hW1, hbn]; simp⟩
  have CI := hide (ids_any (hk.later L1.out) hn)
  have H0 := hide h
  have HK := hide hk
  have HLT := hide h.lt
  obtain ⟨n, hln⟩ : ∃ n, t.L.length = n := ⟨_, rfl⟩
  have HN := hide hln
  have HSL : Hid ((idsOf t.L).length = n) := by show _ = _; rw [← hln]; exact idsOf_len _
  rw [hln] at hn
  have HW1 := hide hW1.symm
  have HG := hide hbn.symm
  unfold Synced
  rw [hln]
  clear h hk hW1 hbn hln hi hz0 hz1
  go_enter Tryz.func17, Tryz.ntmps17
  go_wp2_with (fail)
  refine CM.out.mono ?_
  rintro e w0 ⟨rfl, rfl⟩
  go_wp2_with (fail)
  simp only [HW1.out, HG.out]
  refine CI.out.mono ?_
  rintro e w2 h2
  obtain ⟨A, c, rfl, h3, h4⟩ := h2.row
  rw [HSL.out] at h3 ⊢
  have IDS := hide h3
  have L12 := hide h4
  have HS2 : Hid (bn < w2.heap.size) := by have := HBN.out.2; have := Below.size L12.out; show bn < _; omega
  clear h2 h3 h4 CI CM hmm
  go_wp2_with (fail)
  go_loopw [5, 20] (fun s5 s20 wr => ∃ (q m : Nat) (vr : Value), q ≤ n ∧ s20 = .int .i64 (q : Int) ∧ vr = s5 ∧ Hid ((syncA v B (t.L.take q)).length = m) ∧ Hid (wr.ownsRow w2.heap.size 42 6 vr m (coms (syncA v B (t.L.take q)))) ∧ Hid (wr.ownsMap Tryz.prog 3 heldR bn q (mapD ((syncL v B (t.L.take q)).map pairP))) ∧ Hid (Turned (fun i => i = bn) w2 wr)) (fun _ i _ => n - (Go.RowKit.intOf i).toNat)
  case atStart => exact ⟨0, 0, _, by omega, rfl, rfl, rfl, World.ownsRow_nil _ _ _ _, M1.out.kept (later_grown L12.out) (by simp), Turned.refl _ _⟩
  case round =>
    obtain ⟨q, m, vr, hq, rfl, hvr, HM, HR, HO, TR⟩ := hrel
    have LR : Hid (Later w wr) := by
      have l2 : Later w w2 := Later.trans (show Later w W1 from L1.out) L12.out
      exact ((Turned.of_below l2 (fun _ => False)).onto TR.out (fun i hi => .inr (by have := HBN.out; omega))).below (fun i hi => hi.elim) (Nat.le_refl _)
    by_cases hqn : q < n
    · have IDR : IncsAt (W1.heap.size ≤ ·) wr (.slice A n c) (idsOf t.L) := IDS.out.kept (TR.out.kept fun i hi e => by have := HBN.out; omega)
      obtain ⟨xi, ub, uo, uc, hx, hvv, _, hub, _, hcell⟩ := IncsAt.at_ IDR (i := q) (by rw [HSL.out]; exact hqn)
      rw [HSL.out] at hvv
      obtain ⟨rfl, rfl⟩ : A = some ⟨ub, uo, none⟩ ∧ c = uc := by injection hvv with e1 _ e3; exact ⟨e1, e3⟩
      obtain ⟨x, hp, rfl⟩ := idsOf_at hx
      have hxe := entAt_get HK.out.ok.1 hp
      have CW := hide (wanted_any (H0.out.later LR.out) (HK.out.later LR.out) hxe)
      have HX : Hid (I64 x.id ∧ x.id = x.id) := by
        obtain ⟨⟨_, _, _, a1⟩, a2⟩ := HK.out.ok.2.1 x (List.mem_of_getElem? hp)
        exact ⟨⟨by omega, by omega⟩, rfl⟩
      have HPQ := hide hp
      have HLOW := hide (sync_low (v := v) (B := B) HK.out.ok.1 hp)
      obtain ⟨np, hnp⟩ : ∃ np, newP v x = np := ⟨_, rfl⟩
      obtain ⟨wb, hwb⟩ : ∃ wb, wantE x = wb := ⟨_, rfl⟩
      rw [hnp, hwb] at CW
      have HNP := hide hnp
      have HWB := hide hwb
      have hml : m ≤ q := by
        have h1 := syncA_len v B (t.L.take q)
        rw [HM.out] at h1
        have h2 := List.length_take_le q t.L
        omega
      clear hx hvv hp hxe hnp hwb
      go_wp2_with (fail)
      refine CW.out.mono ?_
      rintro e w3 ⟨rfl, hl3⟩
      have T3 : Hid (PBox w3.heap.size PlD.zero (w3.alloc (.cells #[.int .i64 0, .int .i64 0, .int .i64 0, .int .i64 0, .int .i64 0, .bool false, .int .i64 0, .int .i64 0, .bool false] 111 (0, 0)))) := heap_alloc_new _ _
      have L3a : Hid (Later w3 (w3.alloc (.cells #[.int .i64 0, .int .i64 0, .int .i64 0, .int .i64 0, .int .i64 0, .bool false, .int .i64 0, .int .i64 0, .bool false] 111 (0, 0)))) := (Below.refl _ _).alloc (Nat.le_refl _) _
      have L3 := hide hl3
      clear hl3 CW hcell
      go_wp2_with (refine wpList_store_pl (p := np) (by rfl) _ _ (by rfl) (by rfl) T3.out (by rfl) ?_)
      intro w4 X4 G4
      have L34 : Hid (Later w3 w4) := L3a.out.grown G4 (by simp) (fun k hk => by have := Option.some.inj hk; omega)
      obtain ⟨z, hz⟩ : ∃ z, w3.heap.size = z := ⟨_, rfl⟩
      rw [hz] at X4 ⊢
      have HX4 := hide X4
      have L4 : Hid (Later wr w4) := Later.trans (show Later wr w3 from L3.out) L34.out
      have HZB : Hid (bn < z) := by have := HS2.out; have := TR.out.size; have := Below.size L3.out; show bn < z; omega
      clear X4 G4 hz T3 L3a
      cases wb with
      | false =>
        go_wp2_with (fail)
        go_roundw
        case rel =>
          obtain ⟨e1, e2⟩ := sync_skip (v := v) (B := B) (L := t.L.take q) HWB.out
          rw [← take_more HPQ.out] at e1 e2
          have T4 : Turned (fun i => i = bn) wr w4 := Turned.of_below L4.out _
          refine ⟨q + 1, m, vr, by omega, by go_num, hvr, ?_, ?_, ?_, TR.out.trans T4⟩
          · show _ = _; rw [e2]; exact HM.out
          · show World.ownsRow _ _ _ _ _ _ _; rw [e2]; exact own_turned HR.out T4 (fun i hi => by have := HS2.out; omega)
          · show World.ownsMap _ _ _ _ _ _ _; rw [e1]; exact (HO.out.kept (later_grown L4.out) (by simp)).mono (by omega)
        case measure => simp [Go.RowKit.intOf]; omega
      | true =>
        have c1 := ((H0.out.later LR.out).later L4.out).c1
        have HBM : Hid (w4.ownsMap Tryz.prog 3 heldR b k (mapD (B.map pairP))) := ((H0.out.later LR.out).later L4.out).body
        have T4 : Hid (PBox w4.heap.size PlD.zero (w4.alloc (.cells #[.int .i64 0, .int .i64 0, .int .i64 0, .int .i64 0, .int .i64 0, .bool false, .int .i64 0, .int .i64 0, .bool false] 111 (0, 0)))) := heap_alloc_new _ _
        have L4a : Hid (Later w4 (w4.alloc (.cells #[.int .i64 0, .int .i64 0, .int .i64 0, .int .i64 0, .int .i64 0, .bool false, .int .i64 0, .int .i64 0, .bool false] 111 (0, 0)))) := (Below.refl _ _).alloc (Nat.le_refl _) _
        cases hpl : plAt B x.id with
        | some p =>
          have HPL := hide hpl
          have HF : Hid (foundIn (B.map pairP) PlD.zero.val x.id = (p.val, true)) := by
            show _ = _
            rw [found_pl, hpl]
          clear hpl
          obtain ⟨dq, hdq⟩ : ∃ dq, decide (p.c = np.c) = dq := ⟨_, rfl⟩
          have HD := hide hdq
          clear hdq
          go_wp2_with (first
            | (at_lookup; refine wpList_lookup_held rfl _ _ 82 rfl 3 111 Tryz.int_law Tryz.underlying82 PlD.zero.val (by kernel_rfl) b _ _ rfl HBM.out _ rfl (int_key HX.out.1) _ true HF.out ?_)
            | (refine wpList_store_pl (p := p) (by rfl) _ _ (by rfl) (by rfl) T4.out (by rfl) ?_))
          intro w5 X5 G5
          have L45 : Hid (Later w4 w5) := L4a.out.grown G5 (by simp) (fun k hk => by have := Option.some.inj hk; omega)
          have L5 : Hid (Later wr w5) := Later.trans (show Later wr w4 from L4.out) L45.out
          obtain ⟨z5, hz5⟩ : ∃ z5, w4.heap.size = z5 := ⟨_, rfl⟩
          rw [hz5] at X5 ⊢
          have HX5 := hide X5
          have HX45 : Hid (PBox z np w5) := HX4.out.below L45.out
          have HO5 : Hid (w5.ownsMap Tryz.prog 3 heldR bn q (mapD ((syncL v B (t.L.take q)).map pairP))) := HO.out.kept (later_grown L5.out) (by simp)
          clear X5 G5 hz5 c1 T4 L4a
          cases dq with
          | true =>
            go_wp2_with (first
              | (refine wpList_val rfl (by rfl) (exec_load_pcom _ (by rfl) (by rfl) HX5.out) ?_)
              | (refine wpList_val rfl (by rfl) (exec_load_pcom _ (by rfl) (by rfl) HX45.out) ?_)
              | (refine wpList_val rfl (by rfl) (exec_eql_com p.c np.c _ _ _ (by rfl) (by rfl) (by rfl)) ?_; rw [HD.out])
              | (refine wpList_val rfl (by rfl) (exec_load_pl _ (by rfl) (by rfl) HX5.out) ?_)
              | (at_mapUpdate; refine wpList_mapUpdate_any rfl _ _ _ 82 rfl 3 111 Tryz.int_law Tryz.underlying82 bn q _ rfl HO5.out (by unfold maxLen; omega) x.id p.val rfl rfl (int_key HX.out.1) ?_; intro w6 ho6 ht6))
            go_roundw
            case rel =>
              have hc : p.c = comE v x := by have := of_decide_eq_true HD.out; rw [this, ← HNP.out]; rfl
              obtain ⟨e1, e2⟩ := sync_had (v := v) (B := B) (L := t.L.take q) HWB.out HPL.out hc
              rw [← take_more HPQ.out] at e1 e2
              have T56 : Turned (fun i => i = bn) w5 w6 := Turned.of_grown ht6.grown (fun g e => (Option.some.inj e).symm)
              have T6 : Turned (fun i => i = bn) wr w6 := (Turned.of_below L5.out _).trans T56
              refine ⟨q + 1, m, vr, by omega, by go_num, hvr, ?_, ?_, ?_, TR.out.trans T6⟩
              · show _ = _; rw [e2]; exact HM.out
              · show World.ownsRow _ _ _ _ _ _ _; rw [e2]; exact own_turned HR.out T6 (fun i hi => by have := HS2.out; omega)
              · show World.ownsMap _ _ _ _ _ _ _
                rw [e1, List.map_append]
                rw [put_mapD _ _ _ HLOW.out] at ho6
                rw [show [p].map pairP = [(x.id, p.val)] by show [(p.c.saga, p.val)] = _; rw [hc]; rfl]
                exact ho6
            case measure => simp [Go.RowKit.intOf]; omega
          | false =>
            go_wp2_with (first
              | (refine wpList_val rfl (by rfl) (exec_load_pcom _ (by rfl) (by rfl) HX5.out) ?_)
              | (refine wpList_val rfl (by rfl) (exec_eql_com p.c np.c _ _ _ (by rfl) (by rfl) (by rfl)) ?_; rw [HD.out])
              | (refine wpList_val rfl (by rfl) (exec_load_pcom _ (by rfl) (by rfl) HX45.out) ?_)
              | (refine wpList_val rfl (by rfl) (exec_load_pl _ (by rfl) (by rfl) HX45.out) ?_)
              | (at_mapUpdate; refine wpList_mapUpdate_any rfl _ _ _ 82 rfl 3 111 Tryz.int_law Tryz.underlying82 bn q _ rfl HO5.out (by unfold maxLen; omega) x.id np.val rfl rfl (int_key HX.out.1) ?_))
            have hne : ∀ r, plAt B x.id = some r → r.c ≠ comE v x := fun r hr e => by
              have e9 : p = r := Option.some.inj (HPL.out.symm.trans hr)
              have := of_decide_eq_false HD.out
              rw [e9, e, ← HNP.out] at this
              exact this rfl
            intro w6 ho6 ht6
            obtain ⟨e1, e2⟩ := sync_new (v := v) (B := B) (L := t.L.take q) HWB.out hne
            rw [← take_more HPQ.out] at e1 e2
            have T56 : Turned (fun i => i = bn) w5 w6 := Turned.of_grown ht6.grown (fun g e => (Option.some.inj e).symm)
            have T6 : Hid (Turned (fun i => i = bn) wr w6) := (Turned.of_below L5.out _).trans T56
            have HE1 := hide e1
            have HE2 := hide e2
            have HO6 := hide ho6
            have HR6 : Hid (w6.ownsRow w2.heap.size 42 6 vr m (coms (syncA v B (t.L.take q)))) := own_turned HR.out T6.out (fun i hi => by have := HS2.out; omega)
            have HX6 : Hid (PBox z np w6) := (T56.block z (PBox.lt HX45.out) (fun e => by have h1 := PBox.lt HX45.out; have h2 := HZB.out; omega)).trans HX45.out
            have S6 : Hid (w2.heap.size ≤ w6.heap.size) := Nat.le_trans TR.out.size T6.out.size
            have LA6 : Hid (Later w6 (w6.alloc (.cells np.c.cells.toArray 42 (0, 0)))) := (Below.refl _ _).alloc (Nat.le_refl _) _
            clear ho6 ht6 hne e1 e2 T56
            go_wp2_with (first
              | (refine wpList_val rfl (by rfl) (exec_load_pcom _ (by rfl) (by rfl) HX6.out) ?_)
              | (refine wpList_val rfl (by rfl) (exec_buildSlice_com (c := np.c) HI.out HZ0.out HZ1.out (by rfl) (by rfl)) ?_)
              | (at_builtin; refine wpList_append_com rfl _ _ (by rfl) w2.heap.size vr (syncA v B (t.L.take q)) np.c m _ _ (by first | rfl | exact hvr.symm) HM.out (own_after HR6.out LA6.out) (by rfl) (fun _ => True) (flat_one w6 42 6 np.c.cells.toArray rfl np.c.one (fun _ => True) trivial) (by omega) (Nat.le_trans S6.out (Below.size LA6.out)) ?_; intro v8 w8 ho8 hb8 hg8))
            go_roundw
            case rel =>
              have B68 : Below w2.heap.size w6 w8 := (LA6.out.mono S6.out).trans hb8
              refine ⟨q + 1, m + 1, v8, by omega, by go_num, rfl, ?_, ?_, ?_, (TR.out.trans T6.out).behind B68⟩
              · show _ = _; rw [HE2.out, List.length_append, HM.out]; rfl
              · show World.ownsRow _ _ _ _ _ _ _
                rw [HE2.out, show comE v x = np.c by rw [← HNP.out]; rfl]
                exact ho8
              · show World.ownsMap _ _ _ _ _ _ _
                obtain ⟨es, clock, h1, h2⟩ := HO6.out
                rw [put_mapD _ _ _ HLOW.out] at h2
                rw [HE1.out, List.map_append, show [newP v x].map pairP = [(x.id, np.val)] by rw [HNP.out]; show [(np.c.saga, np.val)] = _; rw [← HNP.out]; rfl]
                exact ⟨es, clock, (B68.block bn HS2.out).trans h1, h2⟩
            case measure => simp [Go.RowKit.intOf]; omega
        | none =>
          have HPL := hide hpl
          have HF : Hid (foundIn (B.map pairP) PlD.zero.val x.id = (PlD.zero.val, false)) := by
            show _ = _
            rw [found_pl, hpl]
          clear hpl
          go_wp2_with (first
            | (at_lookup; refine wpList_lookup_held rfl _ _ 82 rfl 3 111 Tryz.int_law Tryz.underlying82 PlD.zero.val (by kernel_rfl) b _ _ rfl HBM.out _ rfl (int_key HX.out.1) _ false HF.out ?_)
            | (refine wpList_store_pl (p := PlD.zero) (by rfl) _ _ (by rfl) (by rfl) T4.out (by rfl) ?_))
          intro w5 X5 G5
          have L45 : Hid (Later w4 w5) := L4a.out.grown G5 (by simp) (fun k hk => by have := Option.some.inj hk; omega)
          have L5 : Hid (Later wr w5) := Later.trans (show Later wr w4 from L4.out) L45.out
          obtain ⟨z5, hz5⟩ : ∃ z5, w4.heap.size = z5 := ⟨_, rfl⟩
          rw [hz5] at X5 ⊢
          have HX5 := hide X5
          have HX45 : Hid (PBox z np w5) := HX4.out.below L45.out
          have HO5 : Hid (w5.ownsMap Tryz.prog 3 heldR bn q (mapD ((syncL v B (t.L.take q)).map pairP))) := HO.out.kept (later_grown L5.out) (by simp)
          clear X5 G5 hz5 c1 T4 L4a
          go_wp2_with (first
            | (refine wpList_val rfl (by rfl) (exec_load_pl _ (by rfl) (by rfl) HX45.out) ?_)
            | (at_mapUpdate; refine wpList_mapUpdate_any rfl _ _ _ 82 rfl 3 111 Tryz.int_law Tryz.underlying82 bn q _ rfl HO5.out (by unfold maxLen; omega) x.id np.val rfl rfl (int_key HX.out.1) ?_))
          have hne : ∀ r, plAt B x.id = some r → r.c ≠ comE v x := fun r hr e => by rw [HPL.out] at hr; cases hr
          intro w6 ho6 ht6
          obtain ⟨e1, e2⟩ := sync_new (v := v) (B := B) (L := t.L.take q) HWB.out hne
          rw [← take_more HPQ.out] at e1 e2
          have T56 : Turned (fun i => i = bn) w5 w6 := Turned.of_grown ht6.grown (fun g e => (Option.some.inj e).symm)
          have T6 : Hid (Turned (fun i => i = bn) wr w6) := (Turned.of_below L5.out _).trans T56
          have HE1 := hide e1
          have HE2 := hide e2
          have HO6 := hide ho6
          have HR6 : Hid (w6.ownsRow w2.heap.size 42 6 vr m (coms (syncA v B (t.L.take q)))) := own_turned HR.out T6.out (fun i hi => by have := HS2.out; omega)
          have HX6 : Hid (PBox z np w6) := (T56.block z (PBox.lt HX45.out) (fun e => by have h1 := PBox.lt HX45.out; have h2 := HZB.out; omega)).trans HX45.out
          have S6 : Hid (w2.heap.size ≤ w6.heap.size) := Nat.le_trans TR.out.size T6.out.size
          have LA6 : Hid (Later w6 (w6.alloc (.cells np.c.cells.toArray 42 (0, 0)))) := (Below.refl _ _).alloc (Nat.le_refl _) _
          clear ho6 ht6 hne e1 e2 T56
          go_wp2_with (first
            | (refine wpList_val rfl (by rfl) (exec_load_pcom _ (by rfl) (by rfl) HX6.out) ?_)
            | (refine wpList_val rfl (by rfl) (exec_buildSlice_com (c := np.c) HI.out HZ0.out HZ1.out (by rfl) (by rfl)) ?_)
            | (at_builtin; refine wpList_append_com rfl _ _ (by rfl) w2.heap.size vr (syncA v B (t.L.take q)) np.c m _ _ (by first | rfl | exact hvr.symm) HM.out (own_after HR6.out LA6.out) (by rfl) (fun _ => True) (flat_one w6 42 6 np.c.cells.toArray rfl np.c.one (fun _ => True) trivial) (by omega) (Nat.le_trans S6.out (Below.size LA6.out)) ?_; intro v8 w8 ho8 hb8 hg8))
          go_roundw
          case rel =>
            have B68 : Below w2.heap.size w6 w8 := (LA6.out.mono S6.out).trans hb8
            refine ⟨q + 1, m + 1, v8, by omega, by go_num, rfl, ?_, ?_, ?_, (TR.out.trans T6.out).behind B68⟩
            · show _ = _; rw [HE2.out, List.length_append, HM.out]; rfl
            · show World.ownsRow _ _ _ _ _ _ _
              rw [HE2.out, show comE v x = np.c by rw [← HNP.out]; rfl]
              exact ho8
            · show World.ownsMap _ _ _ _ _ _ _
              obtain ⟨es, clock, h1, h2⟩ := HO6.out
              rw [put_mapD _ _ _ HLOW.out] at h2
              rw [HE1.out, List.map_append, show [newP v x].map pairP = [(x.id, np.val)] by rw [HNP.out]; show [(np.c.saga, np.val)] = _; rw [← HNP.out]; rfl]
              exact ⟨es, clock, (B68.block bn HS2.out).trans h1, h2⟩
          case measure => simp [Go.RowKit.intOf]; omega
    · obtain rfl : q = n := by omega
      have HB := hide (H0.out.later LR.out)
      have c1 := HB.out.c1
      have f1 := HB.out.thaw 1
      have HR2 : Hid (wr.ownsRow w2.heap.size 42 6 vr (syncA v B t.L).length (coms (syncA v B t.L))) := by
        have h1 := HM.out
        have h2 := HR.out
        rw [List.take_of_length_le (by rw [HN.out]; omega)] at h1 h2
        rw [h1]
        exact h2
      have HO2 : Hid (wr.ownsMap Tryz.prog 3 heldR bn q (mapD ((syncL v B t.L).map pairP))) := by
        have h1 := HO.out
        rw [List.take_of_length_le (by rw [HN.out]; omega)] at h1
        exact h1
      subst hvr
      go_wp2
      go_ret
      have hg := HLT.out
      have G9 : Turned (fun i => i = g) wr (wr.setCell ⟨g, 1, none⟩ (.map (some bn))) := Turned.of_grown (grown_set wr g 1 _) (fun i e => (Option.some.inj e).symm)
      have e2 : w.heap.size ≤ w2.heap.size := Nat.le_trans (Below.size L1.out) (Below.size L12.out)
      have hgb : g ≠ bn := by have := HBN.out.1; omega
      refine ⟨_, bn, rfl, HBN.out.1, own_down (own_turned HR2.out G9 (fun i hi => by have := HS2.out; omega)) HS2.out, ⟨?_, ?_, ?_, hgb⟩, (Turned.of_below (show Later w wr from LR.out) _).trans G9⟩
      · have hb : BlockAt 84 wr g [.int .i64 v, .map (some b)] := HB.out.cell
        exact hb.set 1 (.map (some bn))
      · obtain ⟨es, clock, h1, h2⟩ := HO2.out
        exact ⟨es, clock, (G9.block bn (lt_of_block h1) (fun e => hgb e.symm)).trans h1, h2⟩
      · exact sync_ok HB.out.ok HK.out.ok (by rw [HN.out]; exact hn)
end
end Go.Proofs.YtdkiopajilakcaaGreat
/- Tick of package outbox. -/
namespace Go.Proofs.YtdkiopajilakcaaGreat
open Go.RowKit Go.Maps
def opsC (l : List OpD) : List Value := l.flatMap fun o => o.cells (.slice none 0 0)
theorem opsC_more (l : List OpD) (o : OpD) : opsC (l ++ [o]) = opsC l ++ o.cells (.slice none 0 0) := by simp [opsC]
theorem exec_buildSlice_oop {op : Oper} {a : Act} {W : World} {o : OpD} {s : Value} {i0 : TypeInfo} {zv : Value} {x : Operand} (hi : Tryz.prog.info? 37 = some i0) (hz0 : i0.zero = some zv) (hz1 : i0.size = 10) (ho : op.op = .buildSlice 43 1 #[(0, x)]) (hx : a.eval x = .agg (o.cells s).toArray) :
    (execOp a.eval op).run Tryz.prog W = .ok (.value (.slice (some ⟨W.heap.size, 0, none⟩) 1 1)) (W.alloc (.cells (o.cells s).toArray 37 (0, 0))) := by
  have hr := run_buildSlice_one (P := Tryz.prog) (w := W) 43 37 i0 zv 10 Tryz.underlying43 hi hz0 hz1 (by decide) (by decide) (o.cells s).toArray rfl
  unfold execOp
  simp [ho, hx, hr, Result.andThen]
theorem op_info : (Tryz.prog.info? 37).map (fun i => (i.zero, i.size, i.bytes)) = some (some (.agg #[.int .i64 0, .int .i64 0, .int .i64 0, .string ⟨#[]⟩, .slice none 0 0, .int .i64 0, .int .i64 0, .int .i64 0, .bool false, .bool false]), 10, 96) := by kernel_rfl
/-- One struct more, at the end of a row of the call's own. -/
theorem wpList_append_row {P : Program} {w : World} {ops : Array Oper} {rest : List Oper} {o : Oper} {a : Act} {Q : Exit → Act → World → Prop} (hgd : o.guard = none) (s x : Operand) (t : TypeId)
    (ho : o.op = .call { callee := .builtin .append, args := #[s, x], argTypes := #[t, t] }) (base : Nat) (e : TypeId) (i : TypeInfo) (z : Value) (k bytes : Nat) (ht : P.underlying t = some (.slice e)) (hi : P.info? e = some i) (hz : i.zero = some z)
    (hsize : i.size = k) (hby : i.bytes = bytes) (hzs : z.cells.size = k) (hk : 0 < k)
    (v : Value) (n : Nat) (xs : List Value) (hs : a.eval s = v) (hown : w.ownsRow base e k v n xs) (g c m : Nat) (ys : List Value) (hx : a.eval x = .slice (some ⟨g, 0, none⟩) m c) (F : Nat → Prop) (hl : FlatAt F w k (.slice (some ⟨g, 0, none⟩) m c) m ys) (hm : 0 < m) (hroom : n + m ≤ maxLen) (hbytes : (n + m) * bytes ≤ 140737488355328) (hbase : base ≤ w.heap.size)
    (h : ∀ v' w', w'.ownsRow base e k v' (n + m) (xs ++ ys) → w.grownBy w' v.ownBlock → (v'.ownBlock = v.ownBlock ∨ v'.ownBlock = some w.heap.size) → wpList P ops Q rest (a.put o.dst v') w') : wpList P ops Q (o :: rest) a w :=
  wpList_plain hgd fun _ hK => wp_append_flat s x t ho base e i z k bytes ht hi hz hsize hby hzs hk v n xs hs hown g c m ys hx F hl hm hroom hbytes hbase fun v' w' h1 h2 h3 => hK _ _ (h v' w' h1 h2 h3)
/-- Two rows of the call's own, of commands and of operations, that lie apart; what stands from lo to hi is neither's. -/
structure Rows2 (w : World) (al lo hi : Nat) (v1 : Value) (l1 : List ComD) (v2 : Value) (l2 : List OpD) : Prop where
  r1 : w.ownsRow al 42 6 v1 l1.length (coms l1)
  r2 : w.ownsRow hi 37 10 v2 l2.length (opsC l2)
  ap : ∀ i, v1.ownBlock = some i → v2.ownBlock ≠ some i
  out : ∀ i, v1.ownBlock = some i → i < lo ∨ hi ≤ i
section
variable {w w' : World} {al lo hi : Nat} {v1 v2 v' : Value} {l1 : List ComD} {l2 : List OpD}
theorem Rows2.turned {S : Nat → Prop} (h : Rows2 w al lo hi v1 l1 v2 l2) (ht : Turned S w w') (hs : ∀ i, S i → i < al) (ha : al ≤ hi) : Rows2 w' al lo hi v1 l1 v2 l2 :=
  ⟨own_turned h.r1 ht hs, own_turned h.r2 ht (fun i hi => by have := hs i hi; omega), h.ap, h.out⟩
theorem Rows2.later (h : Rows2 w al lo hi v1 l1 v2 l2) (hl : Later w w') : Rows2 w' al lo hi v1 l1 v2 l2 := ⟨own_after h.r1 hl, own_after h.r2 hl, h.ap, h.out⟩
theorem own_grown {base e k n : Nat} {v : Value} {xs : List Value} {r : Option Nat} (h : w.ownsRow base e k v n xs) (hg : w.grownBy w' r) (hr : ∀ i, v.ownBlock = some i → r ≠ some i) : w'.ownsRow base e k v n xs := by
  rcases h.2 with ⟨e1, e2⟩ | ⟨g, cap, cur, rfl, hb, hb2, rest⟩
  · exact ⟨h.1, .inl ⟨e1, e2⟩⟩
  · exact ⟨h.1, .inr ⟨g, cap, cur, rfl, hb, (hg.block g (lt_of_block hb2) (fun e => hr g rfl e.symm)).trans hb2, rest⟩⟩
theorem Rows2.com (h : Rows2 w al lo hi v1 l1 v2 l2) (c : ComD) (ho : w'.ownsRow al 42 6 v' (l1.length + 1) (coms l1 ++ c.cells)) (hg : w.grownBy w' v1.ownBlock) (hv : v'.ownBlock = v1.ownBlock ∨ v'.ownBlock = some w.heap.size) (hh : hi ≤ w.heap.size) : Rows2 w' al lo hi v' (l1 ++ [c]) v2 l2 := by
  refine ⟨by rw [coms_more, List.length_append]; exact ho, own_grown h.r2 hg (fun i e e2 => h.ap i e2 e), fun i e e2 => ?_, fun i e => ?_⟩
  · rcases hv with hv | hv
    · exact h.ap i (hv ▸ e) e2
    · have h1 := (h.r2.lt i e2).2
      have h2 : some w.heap.size = some i := hv ▸ e
      injection h2 with h2
      omega
  · rcases hv with hv | hv
    · exact h.out i (hv ▸ e)
    · have h2 : some w.heap.size = some i := hv ▸ e
      injection h2 with h2
      omega
theorem Rows2.op (h : Rows2 w al lo hi v1 l1 v2 l2) (o : OpD) (ho : w'.ownsRow hi 37 10 v' (l2.length + 1) (opsC l2 ++ o.cells (.slice none 0 0))) (hg : w.grownBy w' v2.ownBlock) (hv : v'.ownBlock = v2.ownBlock ∨ v'.ownBlock = some w.heap.size) : Rows2 w' al lo hi v1 l1 v' (l2 ++ [o]) := by
  refine ⟨own_grown h.r1 hg (fun i e e2 => h.ap i e e2), by rw [opsC_more, List.length_append]; exact ho, fun i e e2 => ?_, h.out⟩
  rcases hv with hv | hv
  · exact h.ap i e (hv ▸ e2)
  · have h1 := (h.r1.lt i e).2
    have h2 : some w.heap.size = some i := hv ▸ e2
    injection h2 with h2
    omega
end
theorem lapsed_told {p : PlD} (h : lapsed p = true) : tickP p = p.tell ∧ askP p = false := by
  unfold tickP askP
  rw [h]
  unfold lapsed at h
  simp only [Bool.and_eq_true, Bool.not_eq_true', decide_eq_false_iff_not, decide_eq_true_eq] at h
  simp [h.2.1, h.2.2]
theorem tick_step {B : List PlD} {q : Nat} {p : PlD} (hp : B[q]? = some p) (A0 : List ComD) :
    tickL (B.take (q + 1)) ++ B.drop (q + 1) = tickL (B.take q) ++ tickP p :: B.drop (q + 1) ∧
    A0 ++ tickA (B.take (q + 1)) = (A0 ++ tickA (B.take q)) ++ (if askP p then [p.c] else []) ∧
    tickO (B.take (q + 1)) = tickO (B.take q) ++ (if lapsed p then [opP 5 false p] else []) := by
  rw [take_more hp]
  unfold tickL tickA tickO
  rw [List.map_append, List.filter_append, List.filter_append, List.map_append, List.map_append, List.append_assoc, List.append_assoc]
  refine ⟨rfl, ?_, ?_⟩
  · cases h : askP p <;> simp [h]
  · cases h : lapsed p <;> simp [h]
section
variable {w : World} {g b k a : Nat} {v : Int} {B : List PlD} {F : Nat → Prop} {g2 b2 k2 : Nat} {most : Int} {t : BkS}
def Ticked (g b : Nat) (v : Int) (a : Nat) (A0 : List ComD) (B2 : List PlD) (n0 : Nat) (w : World) (e : Ending) (w' : World) : Prop :=
  ∃ sv ov b', e = .returned (.tuple #[sv, ov]) ∧ w.heap.size ≤ b' ∧ w'.ownsRow w.heap.size 42 6 sv (A0 ++ tickA B2).length (coms (A0 ++ tickA B2)) ∧ w'.ownsRow w.heap.size 37 10 ov (tickO B2).length (opsC (tickO B2)) ∧
    BoxAt w' g b' (n0 + n0) v (a + 1) (tickL B2) ∧ Turned (fun i => i = g ∨ i = b) w w'
set_option maxHeartbeats 8000000 in
set_option maxRecDepth 100000 in
theorem otick_any (h : BoxAt w g b k v a B) (hk : BookAt F w g2 b2 k2 most t) (hn : t.L.length ≤ 1000000) (hk6 : k ≤ 100000000) (ha : a ≤ 1000000) (hg2 : g ≠ g2 ∧ b ≠ g2 ∧ g ≠ b2 ∧ b ≠ b2 ∧ ¬ F g ∧ ¬ F b) :
    Calls Tryz.prog 19 #[.pointer (some ⟨g, 0, none⟩), .pointer (some ⟨g2, 0, none⟩)] w (Ticked g b v a (syncA v (growL B) t.L) (syncL v (growL B) t.L) t.L.length w) := by
  obtain ⟨i0, hi, hz0, hz1, hz2⟩ := info_parts com_info
  have HI := hide hi
  have HZ0 := hide hz0
  have HZ1 := hide hz1
  have HZ2 := hide hz2
  obtain ⟨j0, hj, hy0, hy1, hy2⟩ := info_parts op_info
  have HJ := hide hj
  have HJ0 := hide hy0
  have HJ1 := hide hy1
  have HJ2 := hide hy2
  have CG := hide (grow_any h hk6 ha)
  have HLT := hide h.lt
  have HK := hide hk
  have HA := hide hg2
  have HGB := hide h.apart
  obtain ⟨n0, hn0⟩ : ∃ n0, t.L.length = n0 := ⟨_, rfl⟩
  have HN0 := hide hn0
  have HN1 := hide hn
  have hn6 : n0 ≤ 1000000 := by omega
  obtain ⟨A0, hA0⟩ : ∃ A0, syncA v (growL B) t.L = A0 := ⟨_, rfl⟩
  obtain ⟨B2, hB2⟩ : ∃ B2, syncL v (growL B) t.L = B2 := ⟨_, rfl⟩
  have HA0 := hide hA0
  have HB2 := hide hB2
  obtain ⟨n, hln⟩ : ∃ n, B2.length = n := ⟨_, rfl⟩
  have hnn : n ≤ n0 := by have := syncL_len v (growL B) t.L; rw [hB2] at this; omega
  have hm0 : A0.length ≤ n0 := by have := syncA_len v (growL B) t.L; rw [hA0] at this; omega
  have HN := hide hln
  have HSL : Hid ((sagasP B2).length = n) := by show _ = _; rw [← hln]; simp [sagasP]
  rw [hA0, hB2, hn0]
  clear h hk hg2 hn0 hn hA0 hB2 hln hi hz0 hz1 hz2 hj hy0 hy1 hy2
  go_enter Tryz.func19, Tryz.ntmps19
  go_wp2_with (fail)
  refine CG.out.mono ?_
  rintro e w1 ⟨rfl, hb1, ht1⟩
  have T1 := hide ht1
  have HBx := hide hb1
  have CS := hide (sync_any hb1 (HK.out.turned ht1 (fun e => HA.out.2.1 e.symm) (fun e => HA.out.2.2.2.1 e.symm) (fun i hi e => HA.out.2.2.2.2.2 (e ▸ hi))) HN1.out)
  unfold Synced at CS
  rw [HA0.out, HB2.out, HN0.out] at CS
  clear hb1 ht1 CG
  go_wp2_with (fail)
  refine CS.out.mono ?_
  rintro e w2 ⟨sv, bn, rfl, h1, h2, h3, h4⟩
  have HBN : Hid (w1.heap.size ≤ bn ∧ w.heap.size ≤ bn) := ⟨h1, by have := T1.out.size; omega⟩
  have R1 := hide h2
  have H2 := hide h3
  have T12 := hide h4
  have CO := hide (oopen_any h3)
  have HSV : Hid (∀ i, sv.ownBlock = some i → i < w2.heap.size) := fun i e => (h2.lt i e).2
  have HB2S : Hid (bn < w2.heap.size ∧ g < bn) := ⟨h3.lt.2, by have := HLT.out.1; have := HBN.out.2; omega⟩
  clear h1 h2 h3 h4 CS
  go_wp2_with (fail)
  refine CO.out.mono ?_
  rintro e w3 h5
  obtain ⟨A, c, rfl, h6, h7⟩ := h5.row
  rw [HSL.out] at h6 ⊢
  have IDS : Hid (IncsAt (fun i => w2.heap.size ≤ i ∧ i < w3.heap.size) w3 (.slice A n c) (sagasP B2)) := h6.mono fun i hi hf => ⟨hf, hi⟩
  have L23 := hide h7
  clear h5 h6 h7 CO
  have L3S : Hid (w2.heap.size ≤ w3.heap.size) := Below.size L23.out
  go_wp2_with (fail)
  go_loopw [6, 7, 19] (fun s6 s7 s19 wr => ∃ (q : Nat) (v1 v2 : Value), q ≤ n ∧ s19 = .int .i64 (q : Int) ∧ v1 = s6 ∧ v2 = s7 ∧ Hid (Rows2 wr (bn + 1) w2.heap.size w3.heap.size v1 (A0 ++ tickA (B2.take q)) v2 (tickO (B2.take q))) ∧ Hid (BoxAt wr g bn (n0 + q) v (a + 1) (tickL (B2.take q) ++ B2.drop q)) ∧ Hid (IncsAt (fun i => w2.heap.size ≤ i ∧ i < w3.heap.size) wr (.slice A n c) (sagasP B2)) ∧ Hid (Turned (fun i => bn ≤ i) w3 wr)) (fun _ _ i _ => n - (Go.RowKit.intOf i).toNat)
  case atStart =>
    refine ⟨0, sv, _, by omega, rfl, rfl, rfl, ⟨?_, World.ownsRow_nil _ _ _ _, fun i e => nofun, fun i e => .inl (HSV.out i e)⟩, (H2.out.later L23.out).more (Nat.le_refl _) (Nat.le_refl _), IDS.out, Turned.refl _ _⟩
    show World.ownsRow _ _ _ _ _ _ _
    rw [show A0 ++ tickA (B2.take 0) = A0 from by simp [tickA]]
    exact own_after R1.out L23.out
  case round =>
    obtain ⟨q, v1, v2, hq, rfl, hv1, hv2, HR, HB, IDR, TR⟩ := hrel
    have W3S : Hid (w3.heap.size ≤ wr.heap.size) := TR.out.size
    by_cases hqn : q < n
    · obtain ⟨xi, ub, uo, uc, hx, hvv, _, hub, _, hcell⟩ := IncsAt.at_ IDR.out (i := q) (by rw [HSL.out]; exact hqn)
      rw [HSL.out] at hvv
      obtain ⟨rfl, rfl⟩ : A = some ⟨ub, uo, none⟩ ∧ c = uc := by injection hvv with e1 _ e3; exact ⟨e1, e3⟩
      obtain ⟨p, hp, rfl⟩ := sagas_at hx
      have hB3 : tickL (B2.take q) ++ B2.drop q = tickL (B2.take q) ++ p :: B2.drop (q + 1) := by rw [drop_more hp]
      have HB3 : Hid (BoxAt wr g bn (n0 + q) v (a + 1) (tickL (B2.take q) ++ p :: B2.drop (q + 1))) := by have := HB.out; rw [hB3] at this; exact this
      have hpm : p ∈ tickL (B2.take q) ++ p :: B2.drop (q + 1) := by simp
      have HP := hide (HB3.out.ok.2.1 p hpm)
      have HF : Hid (foundIn ((tickL (B2.take q) ++ p :: B2.drop (q + 1)).map pairP) PlD.zero.val p.c.saga = (p.val, true)) := by
        show _ = _
        rw [found_pl, plAt_of HB3.out.ok.1 hpm]
      obtain ⟨s1, s2, s3⟩ := tick_step hp A0
      have S1 := hide s1
      have S2 := hide s2
      have S3 := hide s3
      have c1 := HB3.out.c1
      have HI4 : Hid (I64 p.c.saga) := by have := HP.out; exact ⟨by omega, by omega⟩
      have HLA : Hid ((A0 ++ tickA (B2.take q)).length ≤ 2000000 ∧ (tickO (B2.take q)).length ≤ 1000000) := by
        have e1 : (tickA (B2.take q)).length ≤ q := by unfold tickA; rw [List.length_map]; exact Nat.le_trans (List.length_filter_le _ _) (List.length_take_le _ _)
        have e2 : (tickO (B2.take q)).length ≤ q := by unfold tickO; rw [List.length_map]; exact Nat.le_trans (List.length_filter_le _ _) (List.length_take_le _ _)
        exact ⟨by rw [List.length_append]; omega, by omega⟩
      have T5 : Hid (PBox wr.heap.size PlD.zero (wr.alloc (.cells #[.int .i64 0, .int .i64 0, .int .i64 0, .int .i64 0, .int .i64 0, .bool false, .int .i64 0, .int .i64 0, .bool false] 111 (0, 0)))) := heap_alloc_new _ _
      have L5a : Hid (Later wr (wr.alloc (.cells #[.int .i64 0, .int .i64 0, .int .i64 0, .int .i64 0, .int .i64 0, .bool false, .int .i64 0, .int .i64 0, .bool false] 111 (0, 0)))) := (Below.refl _ _).alloc (Nat.le_refl _) _
      clear hx hvv hp hB3 hpm HB s1 s2 s3
      go_wp2_with (first
        | (at_lookup; refine wpList_lookup_held1 rfl _ _ 82 rfl 3 111 Tryz.int_law Tryz.underlying82 PlD.zero.val (by kernel_rfl) bn _ _ rfl HB3.out.body _ rfl (int_key HI4.out) _ true HF.out ?_)
        | (refine wpList_store_pl (p := p) (by rfl) _ _ (by rfl) (by rfl) T5.out (by rfl) ?_))
      intro w5 X5 G5
      have L5 : Hid (Later wr w5) := L5a.out.grown G5 (by simp) (fun k hk => by have := Option.some.inj hk; omega)
      obtain ⟨z, hz⟩ : ∃ z, wr.heap.size = z := ⟨_, rfl⟩
      have HZ : Hid (bn < z ∧ g < z ∧ w3.heap.size ≤ z) := by have a1 := HB3.out.lt; have a2 := W3S.out; rw [hz] at a1 a2; exact ⟨a1.2, a1.1, a2⟩
      rw [hz] at X5 ⊢
      have HX5 := hide X5
      have R5 := hide (HR.out.later L5.out)
      have B5 := hide (HB3.out.later L5.out)
      have I5 : Hid (IncsAt (fun i => w2.heap.size ≤ i ∧ i < w3.heap.size) w5 (.slice (some ⟨ub, uo, none⟩) n c) (sagasP B2)) := IDR.out.kept (Kept.of_below L5.out _)
      have T5w : Hid (Turned (fun i => bn ≤ i) w3 w5) := TR.out.trans (Turned.of_below L5.out _)
      have W5S : Hid (w3.heap.size ≤ w5.heap.size) := T5w.out.size
      have d6 := X5.cells.2.2.2.2.2.2.1
      have d7 := X5.cells.2.2.2.2.2.2.2.1
      have d8 := X5.cells.2.2.2.2.2.2.2.2.1
      obtain ⟨ta, hta⟩ : ∃ ta, p.told = ta := ⟨_, rfl⟩
      rw [hta] at d8
      have HTA := hide hta
      have hmod : p.age.tmod 4 = p.age % 4 := Int.tmod_eq_emod_of_nonneg HP.out.2.2.1
      clear X5 G5 hz c1 T5 L5a hta hcell HR HB3 IDR TR
      by_cases h0 : p.age = 0
      · have e0 : (p.age == 0) = true := by simp [h0]
        have ea : askP p = false := by unfold askP; simp [h0]
        have el : lapsed p = false := by unfold lapsed; simp [h0]
        clear hmod
        go_wp2_with (fail)
        go_roundw
        case rel =>
          refine ⟨q + 1, v1, v2, by omega, by go_num, hv1, hv2, ?_, ?_, I5.out, T5w.out⟩
          · show Rows2 _ _ _ _ _ _ _ _
            rw [S2.out, S3.out, ea, el]
            simpa using R5.out
          · show BoxAt _ _ _ _ _ _ _
            rw [S1.out, show tickP p = p by unfold tickP; rw [el]; rfl]
            exact B5.out.more (Nat.le_refl _) (by omega)
        case measure => simp [Go.RowKit.intOf]; omega
      · have e0 : (p.age == 0) = false := by simp [h0]
        by_cases hl : ta = false ∧ p.ticks ≤ p.age
        · obtain ⟨rfl, hge⟩ := hl
          have d0 : decide (p.ticks ≤ p.age) = true := by simp [hge]
          have el : lapsed p = true := by unfold lapsed; simp [h0, HTA.out, hge]
          obtain ⟨et, ea⟩ := lapsed_told el
          have HE := hide (And.intro et (And.intro ea el))
          have CT := hide (tell_any B5.out (by omega) 5)
          clear hmod et ea el
          go_wp2_with (refine wpList_val rfl (by rfl) (exec_load_pl _ (by rfl) (by rfl) HX5.out) ?_)
          refine CT.out.mono ?_
          rintro e w6 ⟨rfl, hb6, ht6⟩
          have R6 := hide (R5.out.turned ht6 (fun i hi => by omega) (by have := HB2S.out; have := L3S.out; omega))
          have B6 := hide hb6
          have I6 : Hid (IncsAt (fun i => w2.heap.size ≤ i ∧ i < w3.heap.size) w6 (.slice (some ⟨ub, uo, none⟩) n c) (sagasP B2)) := I5.out.kept (ht6.kept fun i hi e => by have := HB2S.out; omega)
          have T6w : Hid (Turned (fun i => bn ≤ i) w3 w6) := T5w.out.trans (ht6.mono fun i hi => by omega)
          have LA6 : Hid (Later w6 (w6.alloc (.cells ((opP 5 false p).cells (.slice none 0 0)).toArray 37 (0, 0)))) := (Below.refl _ _).alloc (Nat.le_refl _) _
          have R7 := hide (R6.out.later LA6.out)
          have B7 := hide (B6.out.later LA6.out)
          have W6S : Hid (w3.heap.size ≤ w6.heap.size) := T6w.out.size
          have FO : Hid (FlatAt (fun _ => True) (w6.alloc (.cells ((opP 5 false p).cells (.slice none 0 0)).toArray 37 (0, 0))) 10 (.slice (some ⟨w6.heap.size, 0, none⟩) 1 1) 1 ((opP 5 false p).cells (.slice none 0 0))) := flat_one w6 37 10 ((opP 5 false p).cells (.slice none 0 0)).toArray rfl (oop_one _ rfl) (fun _ => True) trivial
          clear hb6 ht6 CT R6 d6 d7 d8
          go_wp2_with (first
            | (refine wpList_val rfl (by rfl) (exec_buildSlice_oop (o := opP 5 false p) (s := .slice none 0 0) HJ.out HJ0.out HJ1.out (by rfl) (by rfl)) ?_)
            | (at_builtin; refine wpList_append_row rfl _ _ 43 (by rfl) w3.heap.size 37 j0 _ 10 96 Tryz.underlying43 HJ.out HJ0.out HJ1.out HJ2.out rfl (by decide) v2 _ _ (by first | rfl | exact hv2.symm) R7.out.r2 _ _ 1 _ (by rfl) (fun _ => True) FO.out (by decide) (by have := HLA.out.2; unfold maxLen; omega) (by have := HLA.out.2; omega) (Nat.le_trans W6S.out (Below.size LA6.out)) ?_; intro v8 w8 ho8 hg8 hv8))
          go_roundw
          case rel =>
            obtain ⟨et, ea, el⟩ := HE.out
            have H8 := R7.out.op (opP 5 false p) ho8 hg8 hv8
            have ob : ∀ i, v2.ownBlock = some i → w3.heap.size ≤ i := fun i e => (R7.out.r2.lt i e).1
            have K8 : Turned (fun i => w3.heap.size ≤ i) w6 w8 := (Turned.of_below LA6.out _).trans (Turned.of_grown hg8 ob)
            refine ⟨q + 1, v1, v8, by omega, by go_num, hv1, rfl, ?_, ?_, I6.out.kept (K8.kept fun i hi e => by omega), T6w.out.trans (K8.mono fun i hi => by have := HB2S.out; have := L3S.out; omega)⟩
            · show Rows2 _ _ _ _ _ _ _ _
              rw [S2.out, S3.out, ea, el]
              simpa using H8
            · show BoxAt _ _ _ _ _ _ _
              rw [S1.out, et]
              exact (B6.out.turned K8 (by have := HB2S.out; have := L3S.out; omega) (by have := HB2S.out; have := L3S.out; omega)).more (Nat.le_refl _) (by omega)
          case measure => simp [Go.RowKit.intOf]; omega
        · have el : lapsed p = false := by
            unfold lapsed
            rw [HTA.out]
            cases ta with
            | true => simp
            | false => simp only [true_and] at hl; simp [hl]
          have hsk : (!(!p.told && decide (p.ticks ≤ p.age))) = true := by
            rw [HTA.out]
            cases ta with
            | true => simp
            | false => simp only [true_and] at hl; simp [hl]
          by_cases h4 : p.age % 4 = 0
          · have e4 : (p.age.tmod 4 == 0) = true := by rw [hmod]; simp [h4]
            have ea : askP p = true := by unfold askP; rw [hsk]; simp [h0, h4]
            have HE := hide (And.intro ea el)
            have LA6 : Hid (Later w5 (w5.alloc (.cells p.c.cells.toArray 42 (0, 0)))) := (Below.refl _ _).alloc (Nat.le_refl _) _
            have R7 := hide (R5.out.later LA6.out)
            have FO : Hid (FlatAt (fun _ => True) (w5.alloc (.cells p.c.cells.toArray 42 (0, 0))) 6 (.slice (some ⟨w5.heap.size, 0, none⟩) 1 1) 1 p.c.cells) := flat_one w5 42 6 p.c.cells.toArray rfl p.c.one (fun _ => True) trivial
            clear ea el hsk
            cases ta with
            | true =>
              go_wp2_with (first
                | (refine wpList_val rfl (by rfl) (exec_load_pcom _ (by rfl) (by rfl) HX5.out) ?_)
                | (refine wpList_val rfl (by rfl) (exec_buildSlice_com (c := p.c) HI.out HZ0.out HZ1.out (by rfl) (by rfl)) ?_)
                | (at_builtin; refine wpList_append_row rfl _ _ 51 (by rfl) (bn + 1) 42 i0 _ 6 48 Tryz.underlying51 HI.out HZ0.out HZ1.out HZ2.out rfl (by decide) v1 _ _ (by first | rfl | exact hv1.symm) R7.out.r1 _ _ 1 _ (by rfl) (fun _ => True) FO.out (by decide) (by have := HLA.out.1; unfold maxLen; omega) (by have := HLA.out.1; omega) (by have := HB2S.out; have := L3S.out; have := W5S.out; have := Below.size LA6.out; omega) ?_; intro v8 w8 ho8 hg8 hv8))
              go_roundw
              case rel =>
                obtain ⟨ea, el⟩ := HE.out
                have H8 := R7.out.com p.c ho8 hg8 hv8 (Nat.le_trans W5S.out (Below.size LA6.out))
                have ob : ∀ i, v1.ownBlock = some i → bn + 1 ≤ i ∧ (i < w2.heap.size ∨ w3.heap.size ≤ i) := fun i e => ⟨(R7.out.r1.lt i e).1, R7.out.out i e⟩
                have K8 : Turned (fun i => bn + 1 ≤ i ∧ (i < w2.heap.size ∨ w3.heap.size ≤ i)) w5 w8 := (Turned.of_below LA6.out _).trans (Turned.of_grown hg8 ob)
                refine ⟨q + 1, v8, v2, by omega, by go_num, rfl, hv2, ?_, ?_, I5.out.kept (K8.kept fun i hi e => by omega), T5w.out.trans (K8.mono fun i hi => by omega)⟩
                · show Rows2 _ _ _ _ _ _ _ _
                  rw [S2.out, S3.out, ea, el]
                  simpa using H8
                · show BoxAt _ _ _ _ _ _ _
                  rw [S1.out, show tickP p = p by unfold tickP; rw [el]; rfl]
                  exact (B5.out.turned K8 (by have := HB2S.out; omega) (by omega)).more (Nat.le_refl _) (by omega)
              case measure => simp [Go.RowKit.intOf]; omega
            | false =>
              have d0 : decide (p.ticks ≤ p.age) = false := by simp only [true_and] at hl; simp [hl]
              clear hl
              go_wp2_with (first
                | (refine wpList_val rfl (by rfl) (exec_load_pcom _ (by rfl) (by rfl) HX5.out) ?_)
                | (refine wpList_val rfl (by rfl) (exec_buildSlice_com (c := p.c) HI.out HZ0.out HZ1.out (by rfl) (by rfl)) ?_)
                | (at_builtin; refine wpList_append_row rfl _ _ 51 (by rfl) (bn + 1) 42 i0 _ 6 48 Tryz.underlying51 HI.out HZ0.out HZ1.out HZ2.out rfl (by decide) v1 _ _ (by first | rfl | exact hv1.symm) R7.out.r1 _ _ 1 _ (by rfl) (fun _ => True) FO.out (by decide) (by have := HLA.out.1; unfold maxLen; omega) (by have := HLA.out.1; omega) (by have := HB2S.out; have := L3S.out; have := W5S.out; have := Below.size LA6.out; omega) ?_; intro v8 w8 ho8 hg8 hv8))
              go_roundw
              case rel =>
                obtain ⟨ea, el⟩ := HE.out
                have H8 := R7.out.com p.c ho8 hg8 hv8 (Nat.le_trans W5S.out (Below.size LA6.out))
                have ob : ∀ i, v1.ownBlock = some i → bn + 1 ≤ i ∧ (i < w2.heap.size ∨ w3.heap.size ≤ i) := fun i e => ⟨(R7.out.r1.lt i e).1, R7.out.out i e⟩
                have K8 : Turned (fun i => bn + 1 ≤ i ∧ (i < w2.heap.size ∨ w3.heap.size ≤ i)) w5 w8 := (Turned.of_below LA6.out _).trans (Turned.of_grown hg8 ob)
                refine ⟨q + 1, v8, v2, by omega, by go_num, rfl, hv2, ?_, ?_, I5.out.kept (K8.kept fun i hi e => by omega), T5w.out.trans (K8.mono fun i hi => by omega)⟩
                · show Rows2 _ _ _ _ _ _ _ _
                  rw [S2.out, S3.out, ea, el]
                  simpa using H8
                · show BoxAt _ _ _ _ _ _ _
                  rw [S1.out, show tickP p = p by unfold tickP; rw [el]; rfl]
                  exact (B5.out.turned K8 (by have := HB2S.out; omega) (by omega)).more (Nat.le_refl _) (by omega)
              case measure => simp [Go.RowKit.intOf]; omega
          · have e4 : (p.age.tmod 4 == 0) = false := by rw [hmod]; simp [h4]
            have ea : askP p = false := by unfold askP; rw [hsk]; simp [h0, h4]
            cases ta with
            | true =>
              clear hl hsk
              go_wp2_with (fail)
              go_roundw
              case rel =>
                refine ⟨q + 1, v1, v2, by omega, by go_num, hv1, hv2, ?_, ?_, I5.out, T5w.out⟩
                · show Rows2 _ _ _ _ _ _ _ _
                  rw [S2.out, S3.out, ea, el]
                  simpa using R5.out
                · show BoxAt _ _ _ _ _ _ _
                  rw [S1.out, show tickP p = p by unfold tickP; rw [el]; rfl]
                  exact B5.out.more (Nat.le_refl _) (by omega)
              case measure => simp [Go.RowKit.intOf]; omega
            | false =>
              have d0 : decide (p.ticks ≤ p.age) = false := by simp only [true_and] at hl; simp [hl]
              clear hl hsk
              go_wp2_with (fail)
              go_roundw
              case rel =>
                refine ⟨q + 1, v1, v2, by omega, by go_num, hv1, hv2, ?_, ?_, I5.out, T5w.out⟩
                · show Rows2 _ _ _ _ _ _ _ _
                  rw [S2.out, S3.out, ea, el]
                  simpa using R5.out
                · show BoxAt _ _ _ _ _ _ _
                  rw [S1.out, show tickP p = p by unfold tickP; rw [el]; rfl]
                  exact B5.out.more (Nat.le_refl _) (by omega)
              case measure => simp [Go.RowKit.intOf]; omega
    · obtain rfl : q = n := by omega
      have HR2 : Hid (Rows2 wr (bn + 1) w2.heap.size w3.heap.size v1 (A0 ++ tickA B2) v2 (tickO B2)) := by
        have h1 := HR.out
        rw [List.take_of_length_le (by rw [HN.out]; omega)] at h1
        exact h1
      have HBE : Hid (BoxAt wr g bn (n0 + n0) v (a + 1) (tickL B2)) := by
        have h1 := HB.out
        rw [List.take_of_length_le (by rw [HN.out]; omega), List.drop_of_length_le (by rw [HN.out]; omega), List.append_nil] at h1
        exact h1.more (Nat.le_refl _) (by omega)
      subst hv1 hv2
      go_wp2
      go_ret2
      have e1 : w.heap.size ≤ w1.heap.size := T1.out.size
      have e2 : w.heap.size ≤ w3.heap.size := by have := T12.out.size; have := L3S.out; omega
      have TA : Turned (fun i => i = g ∨ i = b) w w3 := ((T1.out.mono fun i hi => .inr hi).trans (T12.out.mono fun i hi => .inl hi)).trans (Turned.of_below L23.out _)
      exact ⟨_, _, bn, rfl, HBN.out.2, own_down HR2.out.r1 (by have := HBN.out.2; omega), own_down HR2.out.r2 e2, HBE.out, TA.onto TR.out (fun i hi => .inr (by have := HBN.out.2; omega))⟩
end
end Go.Proofs.YtdkiopajilakcaaGreat
/- A region whose order is open, some of whose operations write what others read: the writers wait for those; what reads the same in all worlds may come up at once, and so may what all writers wait for. -/
namespace Go.Proofs.YtdkiopajilakcaaGreat
open Go.RowKit

section
variable {P : Program} {ops : Array Oper} {Q : Exit → Act → World → Prop} {md : Region.Mode} {S : Nat → Bool}

/-- Whatever order is picked from here on; behind each operation that is no writer the world is a later one. -/
def wpAnyS (S : Nat → Bool) (P : Program) (md : Region.Mode) (ops : Array Oper) (Q : Exit → Act → World → Prop) : Nat → Array Bool → Act → World → Prop
  | 0, listed, a, w => Region.ready md ops listed = [] ∧ Q .normal a w
  | fuel + 1, listed, a, w =>
    (Region.ready md ops listed = [] → Q .normal a w) ∧
    ∀ i ∈ Region.ready md ops listed, wpOp P ops Q i (fun a' w' => (S i = false → Later w w') ∧ wpAnyS S P md ops Q fuel (listed.setIfInBounds i true) a' w') a w

theorem wpAny_of_S : ∀ (fuel : Nat) (listed : Array Bool) (a : Act) (w : World), wpAnyS S P md ops Q fuel listed a w → wpAny P md ops Q fuel listed a w
  | 0, _, _, _, h => h
  | fuel + 1, _, _, _, h => ⟨h.1, fun i hi => wpOp_mono (fun a' w' h' => wpAny_of_S fuel _ a' w' h'.2) (h.2 i hi)⟩

/-- What is listed stands behind what it waits for. -/
def Closed (md : Region.Mode) (ops : Array Oper) (listed : Array Bool) : Prop := ∀ m om, ops[m]? = some om → listed.getD m false = true → ∀ e ∈ om.after, Region.binds md e = true → listed.getD e.on false = true
def closedB (md : Region.Mode) (ops : Array Oper) (listed : Array Bool) : Bool :=
  (List.range ops.size).all fun m => !listed.getD m false || (match ops[m]? with | some o => o.after.all (fun e => !Region.binds md e || listed.getD e.on false) | none => true)
theorem closed_spec {listed : Array Bool} (h : closedB md ops listed = true) : Closed md ops listed := by
  intro m om hm hl e he hb
  unfold closedB at h
  rw [List.all_eq_true] at h
  have h1 := h m (by rw [List.mem_range]; exact (Array.getElem?_eq_some_iff.1 hm).1)
  rw [hm, hl] at h1
  simp only [Bool.not_true, Bool.false_or] at h1
  rw [Array.all_eq_true] at h1
  obtain ⟨k, hk, rfl⟩ := Array.mem_iff_getElem.1 he
  have h2 := h1 k hk
  rw [hb] at h2
  simpa using h2
theorem getD_set_listed {listed : Array Bool} {j k : Nat} (h : (listed.setIfInBounds j true).getD k false = true) : k = j ∨ listed.getD k false = true := by
  by_cases e : j = k
  · exact .inl e.symm
  · rw [getD_set_ne false e] at h
    exact .inr h
theorem getD_set_more {listed : Array Bool} {j k : Nat} (h : listed.getD k false = true) : (listed.setIfInBounds j true).getD k false = true := by
  by_cases e : j = k
  · subst e
    have hj : j < listed.size := by
      rcases Nat.lt_or_ge j listed.size with h' | h'
      · exact h'
      · simp [Array.getElem?_eq_none h'] at h
    simp [hj]
  · rw [getD_set_ne false e]
    exact h
theorem Closed.next {listed : Array Bool} (h : Closed md ops listed) {j : Nat} (hj : j ∈ Region.ready md ops listed) : Closed md ops (listed.setIfInBounds j true) := by
  obtain ⟨_, oj, hoj, hall⟩ := mem_ready.1 hj
  intro m om hm hl e he hb
  rcases getD_set_listed hl with rfl | hl
  · rw [hoj] at hm
    obtain rfl := Option.some.inj hm
    exact getD_set_more (hall e he hb)
  · exact getD_set_more (h m om hm hl e he hb)
/-- The operation j waits for i. -/
def reaches (md : Region.Mode) (ops : Array Oper) : Nat → Nat → Nat → Bool
  | 0, _, _ => false
  | f + 1, j, i => match ops[j]? with | some o => o.after.any (fun e => Region.binds md e && (e.on == i || reaches md ops f e.on i)) | none => false
theorem reaches_spec {listed : Array Bool} (hc : Closed md ops listed) {i : Nat} : ∀ (f j : Nat) (oj : Oper), ops[j]? = some oj → (∀ e ∈ oj.after, Region.binds md e = true → listed.getD e.on false = true) → reaches md ops f j i = true → listed.getD i false = true
  | 0, _, _, _, _, h => by simp [reaches] at h
  | f + 1, j, oj, hj, hall, h => by
    unfold reaches at h
    rw [hj] at h
    simp only at h
    rw [Array.any_eq_true] at h
    obtain ⟨k, hk, h2⟩ := h
    simp only [Bool.and_eq_true, Bool.or_eq_true, beq_iff_eq] at h2
    have hl := hall _ (Array.getElem_mem hk) h2.1
    rcases h2.2 with h3 | h3
    · rw [← h3]; exact hl
    · rcases hm : ops[oj.after[k].on]? with _ | om
      · cases f with
        | zero => simp [reaches] at h3
        | succ f => unfold reaches at h3; rw [hm] at h3; cases h3
      · exact reaches_spec hc f _ om hm (fun e he hb => hc _ om hm hl e he hb) h3

/-- Such an operation, if it may come up, may come up at once. -/
theorem wpAnyS_first (T : World → World → Prop) (hT : Pre T) {i : Nat} {oi : Oper} {v : Value} (hi : ops[i]? = some oi) (hsel : ∀ (j : Nat) (o : Oper) cs b, ops[j]? = some o → o.op ≠ .select cs b)
    (hQ : ∀ c a w, Q (.panic c) (a.put oi.dst v) w → Q (.panic c) a w)
    (hst : ∀ (listed : Array Bool) (j : Nat), Closed md ops listed → i ∈ Region.ready md ops listed → j ∈ Region.ready md ops listed → ∀ w w' : World, (S j = false → Later w w') → T w w') :
    ∀ (fuel : Nat) (listed : Array Bool) (a : Act) (w : World), Closed md ops listed →
      (∀ j oj, ops[j]? = some oj → j ≠ i → listed.getD j true = false → (∀ e ∈ oj.after, Region.binds md e = true → e.on ≠ i) → oi.apart ops oj = true) →
      i ∈ Region.ready md ops listed → YieldsIf P ops (T w) oi v a →
      wpAnyS S P md ops Q fuel (listed.setIfInBounds i true) (a.put oi.dst v) w → wpAnyS S P md ops Q (fuel + 1) listed a w := by
  intro fuel
  induction fuel with
  | zero =>
    intro listed a w _ _ hr hy H
    refine ⟨fun h => (by rw [h] at hr; cases hr), fun j hj => ?_⟩
    by_cases hji : j = i
    · subst hji
      exact hy.wpOp hi (hT.1 w) ⟨fun _ => Later.refl w, H⟩
    · have := ready_mono hj hji
      rw [H.1] at this
      cases this
  | succ fuel ih =>
    intro listed a w hcl hfree hr hy H
    refine ⟨fun h => (by rw [h] at hr; cases hr), fun j hj => ?_⟩
    by_cases hji : j = i
    · subst hji
      exact hy.wpOp hi (hT.1 w) ⟨fun _ => Later.refl w, H⟩
    · have h1 := H.2 j (ready_mono hj hji)
      obtain ⟨hjun, oj, hoj, hall⟩ := mem_ready.1 hj
      have hnot : ∀ e ∈ oj.after, Region.binds md e = true → e.on ≠ i := fun e he hb heq => by
        have q1 := hall e he hb
        have q0 := (mem_ready.1 hr).1
        rw [heq] at q1
        rcases Nat.lt_or_ge i listed.size with h' | h'
        · simp [h'] at q0 q1
          rw [q0] at q1
          cases q1
        · simp [Array.getElem?_eq_none h'] at q1
      have h2 := wpOp_putIf hoj (hfree j oj hoj hji hjun hnot) (fun cs b => hsel i oi cs b hi) (fun cs b => hsel j oj cs b hoj) hQ hy h1
      have hfree' : ∀ k ok, ops[k]? = some ok → k ≠ i → (listed.setIfInBounds j true).getD k true = false →
          (∀ e ∈ ok.after, Region.binds md e = true → e.on ≠ i) → oi.apart ops ok = true := fun k ok hk hki hun hno => by
        refine hfree k ok hk hki ?_ hno
        by_cases hjk : j = k
        · subst hjk; exact hjun
        · rw [getD_set_ne true hjk] at hun; exact hun
      refine wpOp_mono (fun a' w' h3 => ⟨h3.2.1, ih (listed.setIfInBounds j true) a' w' (hcl.next hj) hfree' (ready_mono hr (Ne.symm hji)) (yields_rel h3.1 hT (hst listed j hcl hr hj w w' h3.2.1)) ?_⟩) h2
      rw [Array.setIfInBounds_comm _ _ hji]
      exact h3.2.2

/-- All writers wait for the operation i. -/
def waited (S : Nat → Bool) (md : Region.Mode) (ops : Array Oper) (i : Nat) : Bool := (List.range ops.size).all fun j => !S j || reaches md ops ops.size j i
theorem waited_spec {i : Nat} (h : waited S md ops i = true) {listed : Array Bool} (hc : Closed md ops listed) (hi : i ∈ Region.ready md ops listed) {j : Nat} (hj : j ∈ Region.ready md ops listed) : S j = false := by
  obtain ⟨_, oj, hoj, hall⟩ := mem_ready.1 hj
  have hun := (mem_ready.1 hi).1
  unfold waited at h
  rw [List.all_eq_true] at h
  have h1 := h j (by rw [List.mem_range]; exact (Array.getElem?_eq_some_iff.1 hoj).1)
  simp only [Bool.or_eq_true, Bool.not_eq_true'] at h1
  rcases h1 with h1 | h1
  · exact h1
  · have h2 := reaches_spec hc _ j oj hoj hall h1
    rcases Nat.lt_or_ge i listed.size with h' | h'
    · simp [h'] at hun h2
      rw [hun] at h2
      cases h2
    · simp [Array.getElem?_eq_none h'] at h2

theorem pre_later : Pre Later := ⟨Later.refl, fun h k => Later.trans h k⟩
theorem pre_all : Pre (fun _ _ => True) := ⟨fun _ => trivial, fun _ _ => trivial⟩

/-- The moves: an operation that all writers wait for; one that reads no memory; one that is not wanted; the one that must; a writer; the end; the beginning. -/
theorem wpAnyS_take {i : Nat} {oi : Oper} {d : Option Tmp} {v : Value} {fuel : Nat} {listed : Array Bool} {a : Act} {w : World} (hi : ops[i]? = some oi) (hd : oi.dst = d)
    (hs : Region.noSelect ops = true) (hcl : closedB md ops listed = true) (hwt : waited S md ops i = true) (hf : Region.free md ops listed i = true) (hr : (Region.ready md ops listed).contains i = true)
    (hQ : ∀ c a w, Q (.panic c) (a.put d v) w → Q (.panic c) a w) (hw : Region.wanted oi (yielded ops a.tmps) = true) (hy : ∀ w', Later w w' → (execOp a.eval oi).run P w' = .ok (.value v) w')
    (h : wpAnyS S P md ops Q fuel (listed.setIfInBounds i true) (a.put d v) w) : wpAnyS S P md ops Q (fuel + 1) listed a w := by
  subst hd
  exact wpAnyS_first Later pre_later hi (Region.noSelect_spec hs) hQ (fun _ _ hc h1 h2 _ _ hl => hl (waited_spec hwt hc h1 h2)) fuel listed a w (closed_spec hcl) (Region.free_spec hi hf) (by simpa using hr) (.inl ⟨hw, hy⟩) h
theorem wpAnyS_pure {i : Nat} {oi : Oper} {d : Option Tmp} {v : Value} {fuel : Nat} {listed : Array Bool} {a : Act} {w : World} (hi : ops[i]? = some oi) (hd : oi.dst = d)
    (hs : Region.noSelect ops = true) (hcl : closedB md ops listed = true) (hf : Region.free md ops listed i = true) (hr : (Region.ready md ops listed).contains i = true)
    (hQ : ∀ c a w, Q (.panic c) (a.put d v) w → Q (.panic c) a w) (hw : Region.wanted oi (yielded ops a.tmps) = true) (hy : ∀ w', (execOp a.eval oi).run P w' = .ok (.value v) w')
    (h : wpAnyS S P md ops Q fuel (listed.setIfInBounds i true) (a.put d v) w) : wpAnyS S P md ops Q (fuel + 1) listed a w := by
  subst hd
  exact wpAnyS_first (fun _ _ => True) pre_all hi (Region.noSelect_spec hs) hQ (fun _ _ _ _ _ _ _ _ => trivial) fuel listed a w (closed_spec hcl) (Region.free_spec hi hf) (by simpa using hr) (.inl ⟨hw, fun w' _ => hy w'⟩) h
theorem wpAnyS_pass {i : Nat} {oi : Oper} {d : Option Tmp} {fuel : Nat} {listed : Array Bool} {a : Act} {w : World} (hi : ops[i]? = some oi) (hd : oi.dst = d)
    (hs : Region.noSelect ops = true) (hcl : closedB md ops listed = true) (hf : Region.free md ops listed i = true) (hr : (Region.ready md ops listed).contains i = true)
    (hQ : ∀ c a w, Q (.panic c) (a.put d undef) w → Q (.panic c) a w) (hw : Region.wanted oi (yielded ops a.tmps) = false)
    (h : wpAnyS S P md ops Q fuel (listed.setIfInBounds i true) (a.put d undef) w) : wpAnyS S P md ops Q (fuel + 1) listed a w := by
  subst hd
  exact wpAnyS_first (fun _ _ => True) pre_all hi (Region.noSelect_spec hs) hQ (fun _ _ _ _ _ _ _ _ => trivial) fuel listed a w (closed_spec hcl) (Region.free_spec hi hf) (by simpa using hr) (.inr ⟨hw, rfl⟩) h
theorem wpAnyS_only {i : Nat} {o : Oper} {fuel : Nat} {listed : Array Bool} {a : Act} {w : World} (ho : ops[i]? = some o) (hr : Region.ready md ops listed = [i]) (hw : Region.wanted o (yielded ops a.tmps) = true)
    (h : ∀ K' : Act → World → Prop, Hid (∀ a' w', Later w w' → wpAnyS S P md ops Q fuel (listed.setIfInBounds i true) a' w' → K' a' w') → Oper.wp P o a w K' Q) : wpAnyS S P md ops Q (fuel + 1) listed a w := by
  refine ⟨fun h0 => absurd (hr ▸ h0) (by simp), fun j hj => ?_⟩
  rw [hr] at hj
  obtain rfl : j = i := by simpa using hj
  refine wpOp_step ho fun K' hK => ?_
  rw [if_pos hw]
  exact h K' fun a' w' hl hn => hK a' w' ⟨fun _ => hl, hn⟩
theorem wpAnyS_write {i : Nat} {o : Oper} {fuel : Nat} {listed : Array Bool} {a : Act} {w : World} (ho : ops[i]? = some o) (hS : S i = true) (hr : Region.ready md ops listed = [i]) (hw : Region.wanted o (yielded ops a.tmps) = true)
    (h : ∀ K' : Act → World → Prop, Hid (∀ a' w', wpAnyS S P md ops Q fuel (listed.setIfInBounds i true) a' w' → K' a' w') → Oper.wp P o a w K' Q) : wpAnyS S P md ops Q (fuel + 1) listed a w := by
  refine ⟨fun h0 => absurd (hr ▸ h0) (by simp), fun j hj => ?_⟩
  rw [hr] at hj
  obtain rfl : j = i := by simpa using hj
  refine wpOp_step ho fun K' hK => ?_
  rw [if_pos hw]
  exact h K' fun a' w' hn => hK a' w' ⟨(fun h0 => by rw [hS] at h0; cases h0), hn⟩
theorem wpAnyS_done {listed : Array Bool} {a : Act} {w : World} (hr : Region.ready md ops listed = []) (h : Q .normal a w) : ∀ fuel, wpAnyS S P md ops Q fuel listed a w
  | 0 => ⟨hr, h⟩
  | _ + 1 => ⟨fun _ => h, by rw [hr]; simp⟩
theorem wp_region_S (S : Nat → Bool) {id : Nat} {a : Act} {w : World} (hm : P.follows .mixedOrders = true)
    (h : wpAnyS S P .any ops Q ops.size (Array.replicate ops.size false) a w.drew) : (Code.region id ops true).wp P Q a w :=
  wp_region_any hm (wpAny_of_S _ _ _ _ h)
end

end Go.Proofs.YtdkiopajilakcaaGreat
/- As text OrderS, over whatever relation of worlds that goes on: operations that are no writers leave a world of that relation. -/
namespace Go.Proofs.YtdkiopajilakcaaGreat
open Go.RowKit

section
variable {P : Program} {ops : Array Oper} {Q : Exit → Act → World → Prop} {md : Region.Mode} {S : Nat → Bool} {R : World → World → Prop}

/-- Whatever order is picked from here on; behind each operation that is no writer the world is a later one. -/
def wpAnyV (R : World → World → Prop) (S : Nat → Bool) (P : Program) (md : Region.Mode) (ops : Array Oper) (Q : Exit → Act → World → Prop) : Nat → Array Bool → Act → World → Prop
  | 0, listed, a, w => Region.ready md ops listed = [] ∧ Q .normal a w
  | fuel + 1, listed, a, w =>
    (Region.ready md ops listed = [] → Q .normal a w) ∧
    ∀ i ∈ Region.ready md ops listed, wpOp P ops Q i (fun a' w' => (S i = false → R w w') ∧ wpAnyV R S P md ops Q fuel (listed.setIfInBounds i true) a' w') a w

theorem wpAny_of_V : ∀ (fuel : Nat) (listed : Array Bool) (a : Act) (w : World), wpAnyV R S P md ops Q fuel listed a w → wpAny P md ops Q fuel listed a w
  | 0, _, _, _, h => h
  | fuel + 1, _, _, _, h => ⟨h.1, fun i hi => wpOp_mono (fun a' w' h' => wpAny_of_V fuel _ a' w' h'.2) (h.2 i hi)⟩

/-- Such an operation, if it may come up, may come up at once. -/
theorem wpAnyV_first (hR : Pre R) (T : World → World → Prop) (hT : Pre T) {i : Nat} {oi : Oper} {v : Value} (hi : ops[i]? = some oi) (hsel : ∀ (j : Nat) (o : Oper) cs b, ops[j]? = some o → o.op ≠ .select cs b)
    (hQ : ∀ c a w, Q (.panic c) (a.put oi.dst v) w → Q (.panic c) a w)
    (hst : ∀ (listed : Array Bool) (j : Nat), Closed md ops listed → i ∈ Region.ready md ops listed → j ∈ Region.ready md ops listed → ∀ w w' : World, (S j = false → R w w') → T w w') :
    ∀ (fuel : Nat) (listed : Array Bool) (a : Act) (w : World), Closed md ops listed →
      (∀ j oj, ops[j]? = some oj → j ≠ i → listed.getD j true = false → (∀ e ∈ oj.after, Region.binds md e = true → e.on ≠ i) → oi.apart ops oj = true) →
      i ∈ Region.ready md ops listed → YieldsIf P ops (T w) oi v a →
      wpAnyV R S P md ops Q fuel (listed.setIfInBounds i true) (a.put oi.dst v) w → wpAnyV R S P md ops Q (fuel + 1) listed a w := by
  intro fuel
  induction fuel with
  | zero =>
    intro listed a w _ _ hr hy H
    refine ⟨fun h => (by rw [h] at hr; cases hr), fun j hj => ?_⟩
    by_cases hji : j = i
    · subst hji
      exact hy.wpOp hi (hT.1 w) ⟨fun _ => hR.1 w, H⟩
    · have := ready_mono hj hji
      rw [H.1] at this
      cases this
  | succ fuel ih =>
    intro listed a w hcl hfree hr hy H
    refine ⟨fun h => (by rw [h] at hr; cases hr), fun j hj => ?_⟩
    by_cases hji : j = i
    · subst hji
      exact hy.wpOp hi (hT.1 w) ⟨fun _ => hR.1 w, H⟩
    · have h1 := H.2 j (ready_mono hj hji)
      obtain ⟨hjun, oj, hoj, hall⟩ := mem_ready.1 hj
      have hnot : ∀ e ∈ oj.after, Region.binds md e = true → e.on ≠ i := fun e he hb heq => by
        have q1 := hall e he hb
        have q0 := (mem_ready.1 hr).1
        rw [heq] at q1
        rcases Nat.lt_or_ge i listed.size with h' | h'
        · simp [h'] at q0 q1
          rw [q0] at q1
          cases q1
        · simp [Array.getElem?_eq_none h'] at q1
      have h2 := wpOp_putIf hoj (hfree j oj hoj hji hjun hnot) (fun cs b => hsel i oi cs b hi) (fun cs b => hsel j oj cs b hoj) hQ hy h1
      have hfree' : ∀ k ok, ops[k]? = some ok → k ≠ i → (listed.setIfInBounds j true).getD k true = false →
          (∀ e ∈ ok.after, Region.binds md e = true → e.on ≠ i) → oi.apart ops ok = true := fun k ok hk hki hun hno => by
        refine hfree k ok hk hki ?_ hno
        by_cases hjk : j = k
        · subst hjk; exact hjun
        · rw [getD_set_ne true hjk] at hun; exact hun
      refine wpOp_mono (fun a' w' h3 => ⟨h3.2.1, ih (listed.setIfInBounds j true) a' w' (hcl.next hj) hfree' (ready_mono hr (Ne.symm hji)) (yields_rel h3.1 hT (hst listed j hcl hr hj w w' h3.2.1)) ?_⟩) h2
      rw [Array.setIfInBounds_comm _ _ hji]
      exact h3.2.2

/-- The moves: an operation that all writers wait for; one that reads no memory; one that is not wanted; the one that must; a writer; the end; the beginning. -/
theorem wpAnyV_take (hR : Pre R) {i : Nat} {oi : Oper} {d : Option Tmp} {v : Value} {fuel : Nat} {listed : Array Bool} {a : Act} {w : World} (hi : ops[i]? = some oi) (hd : oi.dst = d)
    (hs : Region.noSelect ops = true) (hcl : closedB md ops listed = true) (hwt : waited S md ops i = true) (hf : Region.free md ops listed i = true) (hr : (Region.ready md ops listed).contains i = true)
    (hQ : ∀ c a w, Q (.panic c) (a.put d v) w → Q (.panic c) a w) (hw : Region.wanted oi (yielded ops a.tmps) = true) (hy : ∀ w', R w w' → (execOp a.eval oi).run P w' = .ok (.value v) w')
    (h : wpAnyV R S P md ops Q fuel (listed.setIfInBounds i true) (a.put d v) w) : wpAnyV R S P md ops Q (fuel + 1) listed a w := by
  subst hd
  exact wpAnyV_first hR R hR hi (Region.noSelect_spec hs) hQ (fun _ _ hc h1 h2 _ _ hl => hl (waited_spec hwt hc h1 h2)) fuel listed a w (closed_spec hcl) (Region.free_spec hi hf) (by simpa using hr) (.inl ⟨hw, hy⟩) h
theorem wpAnyV_pure (hR : Pre R) {i : Nat} {oi : Oper} {d : Option Tmp} {v : Value} {fuel : Nat} {listed : Array Bool} {a : Act} {w : World} (hi : ops[i]? = some oi) (hd : oi.dst = d)
    (hs : Region.noSelect ops = true) (hcl : closedB md ops listed = true) (hf : Region.free md ops listed i = true) (hr : (Region.ready md ops listed).contains i = true)
    (hQ : ∀ c a w, Q (.panic c) (a.put d v) w → Q (.panic c) a w) (hw : Region.wanted oi (yielded ops a.tmps) = true) (hy : ∀ w', (execOp a.eval oi).run P w' = .ok (.value v) w')
    (h : wpAnyV R S P md ops Q fuel (listed.setIfInBounds i true) (a.put d v) w) : wpAnyV R S P md ops Q (fuel + 1) listed a w := by
  subst hd
  exact wpAnyV_first hR (fun _ _ => True) pre_all hi (Region.noSelect_spec hs) hQ (fun _ _ _ _ _ _ _ _ => trivial) fuel listed a w (closed_spec hcl) (Region.free_spec hi hf) (by simpa using hr) (.inl ⟨hw, fun w' _ => hy w'⟩) h
theorem wpAnyV_pass (hR : Pre R) {i : Nat} {oi : Oper} {d : Option Tmp} {fuel : Nat} {listed : Array Bool} {a : Act} {w : World} (hi : ops[i]? = some oi) (hd : oi.dst = d)
    (hs : Region.noSelect ops = true) (hcl : closedB md ops listed = true) (hf : Region.free md ops listed i = true) (hr : (Region.ready md ops listed).contains i = true)
    (hQ : ∀ c a w, Q (.panic c) (a.put d undef) w → Q (.panic c) a w) (hw : Region.wanted oi (yielded ops a.tmps) = false)
    (h : wpAnyV R S P md ops Q fuel (listed.setIfInBounds i true) (a.put d undef) w) : wpAnyV R S P md ops Q (fuel + 1) listed a w := by
  subst hd
  exact wpAnyV_first hR (fun _ _ => True) pre_all hi (Region.noSelect_spec hs) hQ (fun _ _ _ _ _ _ _ _ => trivial) fuel listed a w (closed_spec hcl) (Region.free_spec hi hf) (by simpa using hr) (.inr ⟨hw, rfl⟩) h
theorem wpAnyV_only (_ : Pre R) {i : Nat} {o : Oper} {fuel : Nat} {listed : Array Bool} {a : Act} {w : World} (ho : ops[i]? = some o) (hr : Region.ready md ops listed = [i]) (hw : Region.wanted o (yielded ops a.tmps) = true)
    (h : ∀ K' : Act → World → Prop, Hid (∀ a' w', R w w' → wpAnyV R S P md ops Q fuel (listed.setIfInBounds i true) a' w' → K' a' w') → Oper.wp P o a w K' Q) : wpAnyV R S P md ops Q (fuel + 1) listed a w := by
  refine ⟨fun h0 => absurd (hr ▸ h0) (by simp), fun j hj => ?_⟩
  rw [hr] at hj
  obtain rfl : j = i := by simpa using hj
  refine wpOp_step ho fun K' hK => ?_
  rw [if_pos hw]
  exact h K' fun a' w' hl hn => hK a' w' ⟨fun _ => hl, hn⟩
theorem wpAnyV_write {i : Nat} {o : Oper} {fuel : Nat} {listed : Array Bool} {a : Act} {w : World} (ho : ops[i]? = some o) (hS : S i = true) (hr : Region.ready md ops listed = [i]) (hw : Region.wanted o (yielded ops a.tmps) = true)
    (h : ∀ K' : Act → World → Prop, Hid (∀ a' w', wpAnyV R S P md ops Q fuel (listed.setIfInBounds i true) a' w' → K' a' w') → Oper.wp P o a w K' Q) : wpAnyV R S P md ops Q (fuel + 1) listed a w := by
  refine ⟨fun h0 => absurd (hr ▸ h0) (by simp), fun j hj => ?_⟩
  rw [hr] at hj
  obtain rfl : j = i := by simpa using hj
  refine wpOp_step ho fun K' hK => ?_
  rw [if_pos hw]
  exact h K' fun a' w' hn => hK a' w' ⟨(fun h0 => by rw [hS] at h0; cases h0), hn⟩
theorem wpAnyV_done {listed : Array Bool} {a : Act} {w : World} (hr : Region.ready md ops listed = []) (h : Q .normal a w) : ∀ fuel, wpAnyV R S P md ops Q fuel listed a w
  | 0 => ⟨hr, h⟩
  | _ + 1 => ⟨fun _ => h, by rw [hr]; simp⟩
theorem wp_region_V (R : World → World → Prop) (S : Nat → Bool) {id : Nat} {a : Act} {w : World} (hm : P.follows .mixedOrders = true)
    (h : wpAnyV R S P .any ops Q ops.size (Array.replicate ops.size false) a w.drew) : (Code.region id ops true).wp P Q a w :=
  wp_region_any hm (wpAny_of_V _ _ _ _ h)
end

end Go.Proofs.YtdkiopajilakcaaGreat
