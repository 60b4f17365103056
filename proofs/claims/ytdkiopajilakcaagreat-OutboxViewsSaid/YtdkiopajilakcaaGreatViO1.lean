/- Whatever the operations and the view: a box of the next view asks all that is wanted anew, with that view, a result of the elder view says nothing to it, one of its own is told, and who asks again asks nothing; no condition. -/
import Derived.Test.YtdkiopajilakcaaGreatBaseO1
import Derived.Test.YtdkiopajilakcaaGreatBaseO2
import Derived.Test.YtdkiopajilakcaaGreatBaseO3
import Derived.Test.YtdkiopajilakcaaGreatBaseO4
import Derived.Test.YtdkiopajilakcaaGreatBaseO5
import Derived.Test.YtdkiopajilakcaaGreatBaseO6
import Derived.Test.YtdkiopajilakcaaGreatRows
import Derived.ProofKit
import Derived.OpenShut
import Derived.ShutString
import Derived.ChangeOld
/- How much a book grows with an operation. -/
namespace Go.Proofs.YtdkiopajilakcaaGreat
open Go.RowKit
theorem oroom_len (L : List Ent) : (roomF L).length ≤ L.length := by
  unfold roomF
  split
  · omega
  · split
    · omega
    · exact List.length_filter_le _ _
/-- One operation: the last number and how many there are go up by one at most. -/
theorem oapply_grow (most : Int) (t : BkS) (o : OpD) : (applyS most t o).last ≤ t.last + 1 ∧ t.last ≤ (applyS most t o).last ∧ (applyS most t o).L.length ≤ t.L.length + 1 := by
  have hev : ∀ ev id, (eventS ev t id).last ≤ t.last + 1 ∧ t.last ≤ (eventS ev t id).last ∧ (eventS ev t id).L.length ≤ t.L.length + 1 := fun ev id => by
    unfold eventS
    split
    · exact ⟨by omega, by omega, by omega⟩
    · split
      · exact ⟨by omega, by omega, by omega⟩
      · exact ⟨by show t.last ≤ _; omega, Int.le_refl _, putE_len _ _⟩
  unfold applyS
  split
  · unfold startS
    split
    · exact ⟨by omega, by omega, by omega⟩
    · split
      · exact ⟨by omega, by omega, by omega⟩
      · refine ⟨Int.le_refl _, by show t.last ≤ t.last + 1; omega, ?_⟩
        have h1 := putE_len (newE (t.last + 1) o.name o.steps) (roomF t.L)
        have h2 := oroom_len t.L
        show (putE _ _).length ≤ _
        omega
  · split
    · exact hev _ _
    · split
      · exact hev _ _
      · split
        · exact hev _ _
        · exact ⟨by omega, by omega, by omega⟩
end Go.Proofs.YtdkiopajilakcaaGreat
/- OutboxViews. -/
namespace Go.Proofs.YtdkiopajilakcaaGreat
open Go.RowKit Go.Maps
/-- A message of operations alone; a result of that command. -/
def opsV (l : List OpD) : MsgD := { MsgD.zero with ops := l }
theorem opsV_wf {l : List OpD} (h : ∀ o ∈ l, o.wf) : (opsV l).wf := by
  simp only [MsgD.wf, opsV, MsgD.zero, OpD.zero, OpD.wf, I64]
  exact ⟨by decide, by decide, by decide, by decide, by decide, by decide, by decide, by decide, by decide, ⟨by decide, by decide, by decide, by decide, by simp, by decide, by decide, by decide⟩, by decide, by decide, by decide, by decide, by decide, by decide, by decide, by decide, by decide, h, by simp⟩
def mX (c : ComD) : MsgD := { MsgD.zero with kind := 14, good := true, cview := c.view, cstub := c.stub, csaga := c.saga, cstep := c.step, ctry := c.tr, cback := c.back }
theorem resF_mX (B : List PlD) (c : ComD) : resF B (mX c) = resP B c := by unfold resF; rw [if_pos ⟨rfl, rfl⟩]; rfl
/-- The slice v holds these commands. -/
def ComsAt (F : Nat → Prop) (w : World) (v : Value) (l : List ComD) : Prop := FlatAt F w 6 v l.length (coms l)
theorem coms_one (l : List ComD) : ∀ u ∈ coms l, u.oneCell' = true := by
  intro u hu
  obtain ⟨c, _, hc⟩ := List.mem_flatMap.1 hu
  exact c.one u hc
theorem ComsAt.at_ {F : Nat → Prop} {w : World} {v : Value} {l : List ComD} (h : ComsAt F w v l) {i : Nat} (hi : i < l.length) : ∃ c b off cap, l[i]? = some c ∧ v = .slice (some ⟨b, off, none⟩) l.length cap ∧ l.length ≤ cap ∧ F b ∧ b < w.heap.size ∧ w.rangeAt b (off + i * 6) c.cells := by
  obtain ⟨b, off, cap, hv, hc, hf, hb, hr⟩ := FlatAt.elem h hi
  have hs : l[i]? = some l[i] := List.getElem?_eq_getElem hi
  refine ⟨l[i], b, off, cap, hs, hv, hc, hf, hb, ?_⟩
  unfold coms at hr
  rwa [flat_get ComD.cells 6 l i _ (fun y _ => rfl) hs] at hr
theorem exec_load_crow {op : Oper} {a : Act} {W : World} {c : ComD} (x : Operand) (ho : op.op = .load 42 x) {b off : Nat} (hx : a.eval x = .pointer (some ⟨b, off, none⟩)) (hr : W.rangeAt b off c.cells) : (execOp a.eval op).run Tryz.prog W = .ok (.value c.val) W :=
  exec_load_range 42 x ho b off hx c.cells hr _ Tryz.underlying42 (by rfl) (by kernel_rfl)
theorem exec_load_orow {op : Oper} {a : Act} {W : World} {o : OpD} {s : Value} (x : Operand) (ho : op.op = .load 37 x) {b off : Nat} (hx : a.eval x = .pointer (some ⟨b, off, none⟩)) (hr : W.rangeAt b off (o.cells s)) : (execOp a.eval op).run Tryz.prog W = .ok (.value (.agg (o.cells s).toArray)) W :=
  exec_load_range 37 x ho b off hx (o.cells s) hr _ Tryz.underlying37 (by rfl) (by kernel_rfl)
theorem syncL_nil (v : Int) (L : List Ent) : syncL v [] L = (L.filter wantE).map (newP v) := rfl
theorem syncA_nil (v : Int) (L : List Ent) : syncA v [] L = (L.filter wantE).map (comE v) := by
  unfold syncA
  congr 1
  exact List.filter_congr fun x _ => by show (wantE x && !false) = wantE x; simp
def bV (v : Int) (M : List Ent) (i : Nat) : List PlD := (M.take i).map (fun e => (newP v e).tell) ++ (M.drop i).map (newP v)
theorem bV_zero (v : Int) (M : List Ent) : bV v M 0 = M.map (newP v) := by simp [bV]
theorem bV_split {v : Int} {M : List Ent} {i : Nat} {e : Ent} (he : M[i]? = some e) : bV v M i = (M.take i).map (fun e => (newP v e).tell) ++ newP v e :: (M.drop (i + 1)).map (newP v) ∧ bV v M (i + 1) = (M.take i).map (fun e => (newP v e).tell) ++ (newP v e).tell :: (M.drop (i + 1)).map (newP v) := by
  unfold bV
  constructor
  · rw [drop_more he]; rfl
  · rw [take_more he, List.map_append, List.append_assoc]; rfl
theorem bV_at {v : Int} {M : List Ent} {i : Nat} {e : Ent} (he : M[i]? = some e) (hr : RiseP (bV v M i)) : plAt (bV v M i) e.id = some (newP v e) ∧ tellL (bV v M i) e.id = bV v M (i + 1) := by
  obtain ⟨h1, h2⟩ := bV_split (v := v) he
  have hm : newP v e ∈ bV v M i := by rw [h1]; simp
  refine ⟨plAt_of hr hm, ?_⟩
  rw [h2]
  rw [h1] at hr ⊢
  obtain ⟨_, r2, r3⟩ := List.pairwise_append.1 hr
  obtain ⟨r4, _⟩ := List.pairwise_cons.1 r2
  have hs : (newP v e).c.saga = e.id := rfl
  unfold tellL
  rw [List.map_append, List.map_cons, if_pos hs]
  refine congr (congrArg HAppend.hAppend ?_) (congrArg (List.cons _) ?_)
  · exact (List.map_congr_left (g := id) fun q hq => by have := r3 q hq (newP v e) (by simp); rw [hs] at this; rw [if_neg (by omega)]; rfl).trans (List.map_id _)
  · exact (List.map_congr_left (g := id) fun q hq => by have := r4 q hq; rw [hs] at this; rw [if_neg (by omega)]; rfl).trans (List.map_id _)
theorem syncA_again {v : Int} {L : List Ent} (hr : RiseE L) : syncA v (syncL v [] L) L = [] := by
  unfold syncA
  rw [List.filter_eq_nil_iff.2, List.map_nil]
  intro x hx hw
  rw [Bool.and_eq_true] at hw
  have hm : newP v x ∈ syncL v [] L := List.mem_map.2 ⟨x, List.mem_filter.2 ⟨hx, hw.1⟩, rfl⟩
  have hp : plAt (syncL v [] L) x.id = some (newP v x) := plAt_of (sync_rise v [] hr) hm
  have : hadE v (syncL v [] L) x = true := by unfold hadE; rw [hp]; exact decide_eq_true rfl
  rw [this] at hw
  exact absurd hw.2 (by decide)
def LawTrueV (w : World) (e : Ending) (w' : World) : Prop := e = .returned (.bool true) ∧ Later w w'
section
variable {w : World}
set_option maxHeartbeats 16000000 in
set_option maxRecDepth 100000 in
theorem law_views {F0 : Nat → Prop} {va : Value} {l : List OpD} (u : Int) (hu0 : 0 ≤ u) (_hu1 : u < 18446744073709551616) (hl : OpsAt F0 w va l) (hwl : ∀ x ∈ l, x.wf) :
    Calls Tryz.prog 7 #[va, .int .u64 u] w (LawTrueV w) := by
  obtain ⟨N, hN⟩ : ∃ N : Nat, u % 1000 = (N : Int) := ⟨(u % 1000).toNat, by omega⟩
  have hN9 : N ≤ 999 := by omega
  have CN := hide (new_yes 8 w (by decide) (by decide))
  have HWL := hide hwl
  obtain ⟨ps, hps, hop⟩ := hl
  obtain ⟨A, cp, rfl, _, _, _⟩ := FlatAt.shape hop.1
  have hsm : ps.length ≤ 9223372036854775807 := by
    obtain ⟨A', c', _, h1, h2, _⟩ := FlatAt.shape hop.1
    unfold maxLen at h2
    omega
  have hln : ps.length = l.length := by rw [← hps, List.length_map]
  have CS : Hid (∀ W, Later w W → Calls Tryz.prog 32 #[.agg ((opsV l).cells (.slice none 0 0) (.slice A ps.length cp) (.slice none 0 0)).toArray, .int .i64 300] W fun e w' => ∃ q, e = .returned (.int .i64 q) ∧ Later W w') := fun W hW =>
    (stepsn_any 300 (by decide) (by decide) F0 (opsV l) (.slice none 0 0) (.slice A ps.length cp) (.slice none 0 0) W (opsV_wf hwl) ⟨StepsAt.nil_ _ _, ⟨ps, hps, hop.kept (Kept.of_below hW _)⟩, IncsAt.nil_ _ _⟩).mono fun e w' ⟨q, h1, _, h2⟩ => ⟨q, h1, h2⟩
  simp only [MsgD.cells, opsV, MsgD.zero, OpD.zero] at CS
  have HOP := hide hop
  have HPS := hide hps
  obtain ⟨n, hn⟩ : ∃ n, ps.length = n := ⟨_, rfl⟩
  have HNP := hide hn
  rw [hn] at CS hsm ⊢
  clear hps hop hln hn hwl
  go_enter Tryz.func7, Tryz.ntmps7
  go_wp2_with (fail)
  refine CN.out.mono ?_
  rintro e w1 ⟨g, b, rfl, hg, hb, hl1, hbk⟩
  have HBK := hide (hbk (fun i => i ≠ g ∧ i ≠ b) (fun h => h.1 rfl) (fun h => h.2 rfl))
  have HGB := hide (And.intro hg hb)
  have L1 : Hid (Later w w1) := hl1
  clear hg hb hl1 hbk CN
  by_cases h30 : (n : Int) ≤ 30
  · have d30 : ¬ 30 < (n : Int) := by omega
    go_wp2_with (fail)
    refine (CS.out w1 L1.out).mono ?_
    rintro e w2 ⟨q, rfl, hl2⟩
    have L2 : Hid (Later w w2) := Later.trans (show Later w w1 from L1.out) hl2
    have HBK2 := hide (HBK.out.later hl2)
    clear hl2 CS
    by_cases hq : 300 < q
    · have dq : decide (300 < q) = true := by simpa using hq
      clear hq
      go_wp2_with (fail)
      refine (olives_any (w := w2)).mono ?_
      rintro e w9 ⟨rfl, hl⟩
      have L9 : Hid (Later w w9) := Later.trans (show Later w w2 from L2.out) hl
      clear hl
      go_wp2
      go_ret
      exact ⟨rfl, L9.out⟩
    · have dq : decide (300 < q) = false := by simpa using hq
      clear hq
      go_wp2_with (fail)
      go_loopw [35] (fun s wr => ∃ (q k : Nat) (t : BkS), q ≤ n ∧ s = .int .i64 (q : Int) ∧ k ≤ q ∧ Hid (t.last ≤ (q : Int) ∧ t.L.length ≤ q) ∧ Hid (BookAt (fun i => i ≠ g ∧ i ≠ b) wr g b k 8 t) ∧ Hid (Turned (fun i => i = g ∨ i = b) w2 wr)) (fun s _ => n - (Go.RowKit.intOf s).toNat)
      case atStart => exact ⟨0, 0, ⟨0, []⟩, by omega, rfl, by omega, ⟨by decide, by decide⟩, HBK2.out, Turned.refl _ _⟩
      case round =>
        obtain ⟨q, k, t, hq, rfl, hk, HT, HB, TR⟩ := hrel
        have HLT := hide HB.out.lt
        have LR : Hid (Later w wr) := ((Turned.of_below L2.out (fun _ => False)).onto TR.out (fun i hi => .inr (by have b1 := HGB.out; rcases hi with hi | hi <;> omega))).below (fun i hi => hi.elim) (Nat.le_refl _)
        by_cases hqn : q < n
        · obtain ⟨x, xs, xb, off, c', hx, hv, _, _, _, hr, hst⟩ := OpsIn.at_ (HOP.out.kept (Kept.of_below LR.out _)) (i := q) (by rw [HNP.out]; exact hqn)
          rw [HNP.out] at hv
          obtain ⟨rfl, rfl⟩ : A = some ⟨xb, off, none⟩ ∧ cp = c' := by injection hv with e1 _ e3; exact ⟨e1, e3⟩
          have hxm : x ∈ l := by rw [← HPS.out]; exact List.mem_map.2 ⟨_, List.mem_of_getElem? hx, rfl⟩
          have HXW := hide (HWL.out x hxm)
          have HR := hide hr
          have HST := hide hst
          obtain ⟨yA, yc, rfl, _, _, _⟩ := FlatAt.shape hst
          have O5 : Hid (OBox wr.heap.size OpD.zero (.slice none 0 0) (wr.alloc (.cells #[.int .i64 0, .int .i64 0, .int .i64 0, .string ⟨#[]⟩, .slice none 0 0, .int .i64 0, .int .i64 0, .int .i64 0, .bool false, .bool false] 37 (0, 0)))) := heap_alloc_new _ _
          have L5a : Hid (Later wr (wr.alloc (.cells #[.int .i64 0, .int .i64 0, .int .i64 0, .string ⟨#[]⟩, .slice none 0 0, .int .i64 0, .int .i64 0, .int .i64 0, .bool false, .bool false] 37 (0, 0)))) := (Below.refl _ _).alloc (Nat.le_refl _) _
          clear hx hv hr hst hxm
          go_wp2_with (first | (refine wpList_val rfl (by rfl) (exec_load_orow _ (by rfl) (by rfl) HR.out) ?_) | (refine wpList_store_oop (o := x) (s := .slice yA x.steps.length yc) (by rfl) _ _ (by rfl) (by rfl) O5.out (by rfl) (by rfl) ?_))
          intro w4 Z4 G4
          have X4 := hide Z4
          have L4w : Hid (Later wr w4) := L5a.out.grown G4 (by simp) (fun k hk => by have b1 := Option.some.inj hk; omega)
          have HB4 := hide (HB.out.later L4w.out)
          have CA := hide (apply_any HB4.out (by omega) (by have := HT.out.2; omega) (HST.out.kept (Kept.of_below L4w.out _)) HXW.out (by have := HT.out.1; omega) (fun i hi => by have a1 := HB4.out.lt; exact ⟨by omega, by omega⟩))
          have hgrow := oapply_grow 8 t x
          have HT2 : Hid ((applyS 8 t x).last ≤ ((q + 1 : Nat) : Int) ∧ (applyS 8 t x).L.length ≤ q + 1) := by have := HT.out; exact ⟨by omega, by omega⟩
          clear Z4 G4 O5 L5a hgrow
          go_wp2_with (refine wpList_val rfl (by rfl) (exec_load_oop _ (by rfl) (by rfl) X4.out) ?_)
          refine CA.out.mono ?_
          rintro e w5 ⟨rfl, hb5, ht5⟩
          have T5 : Hid (Turned (fun i => i = g ∨ i = b) w2 w5) := (TR.out.trans (Turned.of_below L4w.out _)).trans ht5
          have HB5 := hide hb5
          clear hb5 ht5 CA
          go_wp2_with (fail)
          go_roundw
          case rel => exact ⟨q + 1, k + 1, _, by omega, by go_num, by omega, HT2.out, HB5.out, T5.out⟩
          case measure => simp [Go.RowKit.intOf]; omega
        · obtain rfl : q = n := by omega
          obtain ⟨wa, rfl⟩ : ∃ wa, wa = wr := ⟨_, rfl⟩
          have HT2 : Hid (t.L.length ≤ 30) := by have := HT.out.2; show _ ≤ 30; omega
          have HBG : Hid (BookAt (fun i => (i ≠ g ∧ i ≠ b) ∧ i < wa.heap.size) wa g b k 8 t) := HB.out.mono (fun i hi hf => ⟨hf, hi⟩) (fun e => e.1.1 rfl) (fun e => e.1.2 rfl)
          have CA := hide (onew_yes (N : Int) wa (by omega))
          clear HB HT TR
          go_wp2_with (fail)
          refine CA.out.mono ?_
          rintro e w3 ⟨ag, ab, rfl, ha1, ha2, hl3, hba⟩
          have L3 : Hid (Later wa w3) := hl3
          have HA := hide hba
          have HAG : Hid (wa.heap.size ≤ ag ∧ wa.heap.size ≤ ab) := ⟨ha1, ha2⟩
          have CB := hide (onew_yes ((N : Int) + 1) w3 (by omega))
          have hwN : wrap64 ((N : Int) + 1) = (N : Int) + 1 := by unfold wrap64; omega
          clear ha1 ha2 hl3 hba CA
          go_wp2_with (fail)
          try rw [hwN]
          refine CB.out.mono ?_
          rintro e w4 ⟨bg, bb, rfl, hb1, hb2, hl4, hbb⟩
          have L4 : Hid (Later w3 w4) := hl4
          have HA4 := hide (HA.out.later hl4)
          have HB4 := hide hbb
          have HBGs : Hid (w3.heap.size ≤ bg ∧ w3.heap.size ≤ bb) := ⟨hb1, hb2⟩
          have LR4 : Hid (Later wa w4) := Later.trans (show Later wa w3 from L3.out) hl4
          have HK4 := hide (HBG.out.later LR4.out)
          have HAL := hide HA.out.lt
          have CSa := hide (sync_any HA4.out HK4.out (by have := HT2.out; omega))
          unfold Synced at CSa
          rw [syncL_nil, syncA_nil] at CSa
          obtain ⟨M, hM⟩ : ∃ M, t.L.filter wantE = M := ⟨_, rfl⟩
          have HM := hide hM
          rw [hM] at CSa
          clear hb1 hb2 hl4 hbb CB hM
          go_wp2_with (fail)
          refine CSa.out.mono ?_
          rintro e w5 ⟨sx, ab5, rfl, hb5, hr5, hB5, hT5⟩
          have HA5 := hide hB5
          have HAB5 : Hid (w4.heap.size ≤ ab5 ∧ ab5 < w5.heap.size) := ⟨hb5, hB5.lt.2⟩
          have HX5 : Hid (ComsAt (fun i => ab5 + 1 ≤ i ∧ i < w5.heap.size) w5 sx (M.map (comE (N : Int)))) := (FlatAt.of_own hr5 (coms_one _)).mono (fun i hi hf => ⟨hf, hi⟩)
          have HB5 := hide (HB4.out.turned hT5 (fun e => by have := HBGs.out; have := HAL.out; omega) (fun e => by have := HBGs.out; have := HAL.out; omega))
          have HK5 := hide (HK4.out.turned hT5 (fun e => by have := HAG.out; have := HBG.out.lt; omega) (fun e => by have := HAG.out; have := HBG.out.lt; omega) (fun i hi e => by have := HAG.out; have := hi.2; omega))
          have T45 := hide hT5
          have CSb := hide (sync_any HB5.out HK5.out (by have := HT2.out; omega))
          unfold Synced at CSb
          rw [syncL_nil, syncA_nil, HM.out] at CSb
          clear hb5 hr5 hB5 hT5 CSa
          go_wp2_with (fail)
          refine CSb.out.mono ?_
          rintro e w6 ⟨sy, bb6, rfl, hb6, hr6, hB6, hT6⟩
          have HB6 := hide hB6
          have HBB6 : Hid (w5.heap.size ≤ bb6 ∧ bb6 < w6.heap.size) := ⟨hb6, hB6.lt.2⟩
          have HB4L := hide HB4.out.lt
          have hbgn : bg < w5.heap.size := HB5.out.lt.1
          have HBGN := hide hbgn
          have HY6 : Hid (ComsAt (fun i => bb6 + 1 ≤ i ∧ i < w6.heap.size) w6 sy (M.map (comE ((N : Int) + 1)))) := (FlatAt.of_own hr6 (coms_one _)).mono (fun i hi hf => ⟨hf, hi⟩)
          have HBGA : Hid (bg < w4.heap.size ∧ ag < w4.heap.size ∧ ag ≠ bg) := ⟨HB4L.out.1, by have := HA4.out.lt; omega, by have := HBGs.out; have := HAL.out; omega⟩
          have HX6 : Hid (ComsAt (fun i => ab5 + 1 ≤ i ∧ i < w5.heap.size) w6 sx (M.map (comE (N : Int)))) := FlatAt.kept HX5.out (hT6.kept fun i hi e => by have := HAB5.out; have := HBGA.out; omega)
          have HA6 := hide (HA5.out.turned hT6 (fun e => HBGA.out.2.2 e) (fun e => by have := HAB5.out; have := HBGA.out; omega))
          have HK6 := hide (HK5.out.turned hT6 (fun e => by have := HBGs.out; have := HBG.out.lt; have := Below.size L3.out; omega) (fun e => by have := HBGs.out; have := HBG.out.lt; have := Below.size L3.out; omega) (fun i hi e => by have := HBGs.out; have := hi.2; have := Below.size L3.out; omega))
          have T6w : Hid (Later w w6) := by
            have l4 : Later w w4 := Later.trans (show Later w wa from LR.out) LR4.out
            have hs := Below.size (show Later w wa from LR.out)
            exact ((Turned.of_below l4 (fun _ => False)).onto (S := fun _ => False) (T := fun i => i = ag ∨ i = bg) ((T45.out.mono fun i hi => .inl hi).trans (hT6.mono fun i hi => .inr hi)) (fun i hi => .inr (by have := HAG.out; have := HBGs.out; have := Below.size L3.out; omega))).below (fun i hi => hi.elim) (Nat.le_refl _)
          obtain ⟨cn, hcn⟩ : ∃ cn, M.length = cn := ⟨_, rfl⟩
          have HCN := hide hcn
          have hcn30 : cn ≤ 30 := by rw [← hcn, ← HM.out]; exact Nat.le_trans (List.length_filter_le _ _) HT2.out
          obtain ⟨Ax, kx, rfl, _, _, _⟩ := FlatAt.shape HX6.out
          obtain ⟨Ay, ky, rfl, _, _, _⟩ := FlatAt.shape HY6.out
          rw [List.length_map, hcn] at HX6 HY6 ⊢
          rw [List.length_map, hcn]
          have CO1 := hide (oopen_any HA6.out)
          have eid : ∀ v : Int, sagasP (M.map (newP v)) = M.map (·.id) := fun v => by unfold sagasP; rw [List.map_map]; rfl
          rw [eid] at CO1
          have HEID := hide eid
          clear hb6 hr6 hB6 hT6 CSb hcn eid hbgn
          go_wp2_with (fail)
          refine CO1.out.mono ?_
          rintro e w7 ⟨A7, n7, c7, rfl, _, h2, _, h4⟩
          have e7 : n7 = cn := by have := h2.1; rw [List.length_map, HCN.out] at this; exact this.symm
          subst e7
          have H7 := hide h2
          have L67 : Hid (Later w6 w7) := h4
          have CO2 := hide (oopen_any (HB6.out.later h4))
          rw [HEID.out] at CO2
          clear h2 h4 CO1
          go_wp2_with (fail)
          refine CO2.out.mono ?_
          rintro e w8 ⟨A8, n8, c8, rfl, _, h2, _, h4⟩
          have e8 : n8 = n7 := by have := h2.1; rw [List.length_map, HCN.out] at this; exact this.symm
          subst e8
          have CI := hide (refints_any A7 A8 n8 c7 n8 c8 _ _ _ _ w8 (H7.out.below h4) h2 (by omega) (by omega))
          rw [eqI_self] at CI
          have L68 : Hid (Later w6 w8) := Later.trans (show Later w6 w7 from L67.out) h4
          clear h2 h4 CO2
          go_wp2_with (fail)
          refine CI.out.mono ?_
          rintro e w9 ⟨rfl, qd, hqd⟩
          have L69 : Hid (Later w6 w9) := by rw [hqd]; exact Later.trans (show Later w6 w8 from L68.out) (below_drewN _ _ qd)
          clear hqd CI
          go_wp2_with (fail)
          go_loopw [69] (fun s wr => ∃ (j kj : Nat), j ≤ n8 ∧ s = .int .i64 (j : Int) ∧ kj ≤ 30 + j ∧ Hid (BoxAt wr bg bb6 kj ((N : Int) + 1) 0 (bV ((N : Int) + 1) M j)) ∧ Hid (Turned (fun i => i = bb6) w6 wr)) (fun s _ => n8 - (Go.RowKit.intOf s).toNat)
          case atStart =>
            refine ⟨0, t.L.length, by omega, rfl, by have := HT2.out; omega, ?_, Turned.of_below L69.out _⟩
            rw [bV_zero]
            exact HB6.out.later L69.out
          case round =>
            obtain ⟨j, kj, hj, rfl, hkj, HBX, TV⟩ := hrel
            have HXV : Hid (ComsAt (fun i => ab5 + 1 ≤ i ∧ i < w5.heap.size) wr (.slice Ax n8 kx) (M.map (comE (N : Int)))) := FlatAt.kept (show FlatAt _ w6 6 _ (M.map (comE (N : Int))).length _ from HX6.out) (TV.out.kept fun i hi e => by have := HBB6.out; omega)
            have HYV : Hid (ComsAt (fun i => bb6 + 1 ≤ i ∧ i < w6.heap.size) wr (.slice Ay n8 ky) (M.map (comE ((N : Int) + 1)))) := FlatAt.kept (show FlatAt _ w6 6 _ (M.map (comE ((N : Int) + 1))).length _ from HY6.out) (TV.out.kept fun i hi e => by omega)
            have LV : Hid (Later w wr) := ((Turned.of_below T6w.out (fun _ => False)).onto TV.out (fun i hi => .inr (by have h1 := Below.size (show Later w wa from LR.out); have h2 := Below.size LR4.out; have h3 := HAB5.out; have h4 := HBB6.out; omega))).below (fun i hi => hi.elim) (Nat.le_refl _)
            by_cases hjn : j < n8
            · obtain ⟨cx, xb2, xo, xc, hcx, hvx, _, _, hxb, hrx⟩ := HXV.out.at_ (i := j) (by rw [List.length_map, HCN.out]; exact hjn)
              obtain ⟨cy, yb2, yo, yc, hcy, hvy, _, _, hyb, hry⟩ := HYV.out.at_ (i := j) (by rw [List.length_map, HCN.out]; exact hjn)
              rw [List.length_map, HCN.out] at hvx hvy
              obtain ⟨rfl, rfl⟩ : Ax = some ⟨xb2, xo, none⟩ ∧ kx = xc := by injection hvx with e1 _ e3; exact ⟨e1, e3⟩
              obtain ⟨rfl, rfl⟩ : Ay = some ⟨yb2, yo, none⟩ ∧ ky = yc := by injection hvy with e1 _ e3; exact ⟨e1, e3⟩
              rw [List.getElem?_map] at hcx hcy
              obtain ⟨en, hen⟩ : ∃ en, M[j]? = some en := by
                cases h : M[j]? with
                | none => rw [h] at hcx; cases hcx
                | some en => exact ⟨en, rfl⟩
              rw [hen] at hcx hcy
              obtain rfl : comE (N : Int) en = cx := Option.some.inj hcx
              obtain rfl : comE ((N : Int) + 1) en = cy := Option.some.inj hcy
              have henM : en ∈ t.L := by
                have := List.mem_of_getElem? hen
                rw [← HM.out] at this
                exact (List.mem_filter.1 this).1
              obtain ⟨⟨_, _, _, hid1⟩, hid2⟩ := HK6.out.ok.2.1 en henM
              have HID : Hid (I64 en.id) := ⟨by omega, by omega⟩
              obtain ⟨hpl, htl⟩ := bV_at hen HBX.out.ok.1
              have hres1 : resF (bV ((N : Int) + 1) M j) (mX (comE (N : Int) en)) = none := by
                rw [resF_mX]
                unfold resP
                rw [show (comE (N : Int) en).saga = en.id from rfl, hpl]
                simp only
                have : (newP ((N : Int) + 1) en).c ≠ comE (N : Int) en := fun e => by
                  have h1 : (N : Int) + 1 = (N : Int) := congrArg ComD.view e
                  omega
                rw [decide_eq_false this]
                simp
              have hres2 : resF (bV ((N : Int) + 1) M j) (mX (comE ((N : Int) + 1) en)) = some (newP ((N : Int) + 1) en) := by
                rw [resF_mX]
                unfold resP
                rw [show (comE ((N : Int) + 1) en).saga = en.id from rfl, hpl]
                simp only
                rw [show decide ((newP ((N : Int) + 1) en).c = comE ((N : Int) + 1) en) = true from decide_eq_true rfl]
                rfl
              have HR1 := hide hres1
              have HR2 := hide hres2
              have HTL := hide htl
              have HRX := hide hrx
              have HRY := hide hry
              have T5 : Hid (MBox wr.heap.size ComD.zero (wr.alloc (.cells #[.int .i64 0, .int .i64 0, .int .i64 0, .int .i64 0, .int .i64 0, .bool false] 42 (0, 0)))) := heap_alloc_new _ _
              have L5a : Hid (Later wr (wr.alloc (.cells #[.int .i64 0, .int .i64 0, .int .i64 0, .int .i64 0, .int .i64 0, .bool false] 42 (0, 0)))) := (Below.refl _ _).alloc (Nat.le_refl _) _
              clear hcx hcy hvx hvy hrx hry hen henM hid1 hid2 hpl htl hres1 hres2
              go_wp2_with (first
                | (refine wpList_val rfl (by rfl) (exec_load_crow _ (by rfl) (by rfl) HRX.out) ?_)
                | (refine wpList_store_com (c := comE (N : Int) en) (by rfl) _ _ (by rfl) (by rfl) T5.out (by rfl) ?_))
              intro x5 X5 G5
              have LX5 : Hid (Later wr x5) := L5a.out.grown G5 (by simp) (fun k hk => by have b1 := Option.some.inj hk; omega)
              obtain ⟨z, hz⟩ : ∃ z, wr.heap.size = z := ⟨_, rfl⟩
              have HZ := hide hz
              rw [hz] at X5 ⊢
              have HX5b := hide X5
              have d0 : x5.cell? ⟨z, 0, none⟩ = some (.int .i64 (N : Int)) := X5.cells.1
              have f0 := X5.cells.2.2.2.2.2.2 0
              have hwN2 : wrap64 ((N : Int) + 1) = (N : Int) + 1 := by unfold wrap64; omega
              clear X5 G5 hz T5 L5a
              go_wp2_with (fail)
              try rw [hwN2]
              obtain ⟨x6, hx6⟩ : ∃ x6, x6 = x5.setCell ⟨z, 0, none⟩ (.int .i64 ((N : Int) + 1)) := ⟨_, rfl⟩
              have X6 : Hid (MBox z (comE ((N : Int) + 1) en) x6) := by
                have h2 : BlockAt 42 x5 z (comE (N : Int) en).cells := HX5b.out
                rw [hx6]
                exact h2.set 0 (.int .i64 ((N : Int) + 1))
              have G6 : x5.grownBy x6 (some z) := by rw [hx6]; exact grown_set _ _ _ _
              have LX6 : Hid (Later wr x6) := (show Later wr x5 from LX5.out).grown G6 (Below.size LX5.out) (fun k hk => by have b1 := Option.some.inj hk; have := HZ.out; omega)
              rw [← hx6]
              have HLX : Hid (xb2 < wr.heap.size ∧ yb2 < wr.heap.size) := ⟨hxb, hyb⟩
              clear d0 f0 hx6 G6 hxb hyb
              go_wp2_with (fail)
              refine wp_region_L (by kernel_rfl) ?_
              refine wpAnyL_take (i := 0) (d := some 80) (v := (comE ((N : Int) + 1) en).val) rfl rfl (by kernel_rfl) (by kernel_rfl) (by kernel_rfl) (fun _ _ _ h => h) (by rfl) ?yav0 ?_
              case yav0 => (intro w' hw'; exact exec_load_com _ (by rfl) (by rfl) (X6.out.below (Later.trans (Later.drew _) hw')))
              simp only [Act.put]; try simp only [List.setIfInBounds_toArray]; try simp only [List.set_cons_zero, List.set_cons_succ]
              refine wpAnyL_take (i := 1) (d := some 81) (v := ?vav1) rfl rfl (by kernel_rfl) (by kernel_rfl) (by kernel_rfl) (fun _ _ _ h => h) (by rfl) ?yav1 ?_
              case yav1 => (intro w' hw'; go_simp; try (with_reducible rfl))
              simp only [Act.put]; try simp only [List.setIfInBounds_toArray]; try simp only [List.set_cons_zero, List.set_cons_succ]
              refine wpAnyL_take (i := 2) (d := some 82) (v := ?vav2) rfl rfl (by kernel_rfl) (by kernel_rfl) (by kernel_rfl) (fun _ _ _ h => h) (by rfl) ?yav2 ?_
              case yav2 => (intro w' hw'; go_simp; try (with_reducible rfl))
              simp only [Act.put]; try simp only [List.setIfInBounds_toArray]; try simp only [List.set_cons_zero, List.set_cons_succ]
              refine wpAnyL_take (i := 3) (d := some 83) (v := ?vav3) rfl rfl (by kernel_rfl) (by kernel_rfl) (by kernel_rfl) (fun _ _ _ h => h) (by rfl) ?yav3 ?_
              case yav3 => (intro w' hw'; go_simp; try (with_reducible rfl))
              simp only [Act.put]; try simp only [List.setIfInBounds_toArray]; try simp only [List.set_cons_zero, List.set_cons_succ]
              refine wpAnyL_take (i := 4) (d := some 84) (v := (comE ((N : Int) + 1) en).val) rfl rfl (by kernel_rfl) (by kernel_rfl) (by kernel_rfl) (fun _ _ _ h => h) (by rfl) ?yav4 ?_
              case yav4 => (intro w' hw'; exact exec_load_crow _ (by rfl) (by rfl) (show w'.rangeAt yb2 (yo + j * 6) _ from fun i v hi => (Below.cell (Later.trans (show Later wr x6 from LX6.out) (Later.trans (Later.drew _) hw')) (p := ⟨yb2, yo + j * 6 + i, none⟩) HLX.out.2).trans (HRY.out i v hi)))
              simp only [Act.put]; try simp only [List.setIfInBounds_toArray]; try simp only [List.set_cons_zero, List.set_cons_succ]
              refine wpAnyL_take (i := 5) (d := some 85) (v := .bool false) rfl rfl (by kernel_rfl) (by kernel_rfl) (by kernel_rfl) (fun _ _ _ h => h) (by rfl) ?yav5 ?_
              case yav5 => (intro w' hw'; rw [exec_neq_com (comE ((N : Int) + 1) en) (comE ((N : Int) + 1) en) _ _ _ (by rfl) (by rfl) (by rfl)]; simp)
              simp only [Act.put]; try simp only [List.setIfInBounds_toArray]; try simp only [List.set_cons_zero, List.set_cons_succ]
              refine wpAnyL_done (by kernel_rfl) ?_ _
              have LX7 : Hid (Later wr x6.drew) := Later.trans (show Later wr x6 from LX6.out) (Later.drew _)
              have HRX7 : Hid (x6.drew.rangeAt xb2 (xo + j * 6) (comE (N : Int) en).cells) := fun i v hi => (Below.cell LX7.out (p := ⟨xb2, xo + j * 6 + i, none⟩) HLX.out.1).trans (HRX.out i v hi)
              have B7 := hide (HBX.out.later LX7.out)
              have CR1 := hide (oresult_any (m := mX (comE (N : Int) en)) (s := .slice none 0 0) (o := .slice none 0 0) (i := .slice none 0 0) B7.out (by omega) HID.out)
              unfold Resulted at CR1
              rw [HR1.out] at CR1
              simp only at CR1
              go_wp2_with (first
                | (refine wpList_val rfl (by rfl) (exec_load_crow _ (by rfl) (by rfl) HRX7.out) ?_)
                | (refine wpList_build_parts (by rfl) 46 _ (by rfl) [(0, .int .i64 14), (14, (comE (N : Int) en).val), (10, .bool true)] (by rfl) ((mX (comE (N : Int) en)).cells (.slice none 0 0) (.slice none 0 0) (.slice none 0 0)).toArray (by kernel_rfl) ?_))
              refine CR1.out.mono ?_
              rintro e x8 ⟨rfl, hl8⟩
              have T8 : Hid (OBox x8.heap.size OpD.zero (.slice none 0 0) (x8.alloc (.cells #[.int .i64 0, .int .i64 0, .int .i64 0, .string ⟨#[]⟩, .slice none 0 0, .int .i64 0, .int .i64 0, .int .i64 0, .bool false, .bool false] 37 (0, 0)))) := heap_alloc_new _ _
              have L8a : Hid (Later x8 (x8.alloc (.cells #[.int .i64 0, .int .i64 0, .int .i64 0, .string ⟨#[]⟩, .slice none 0 0, .int .i64 0, .int .i64 0, .int .i64 0, .bool false, .bool false] 37 (0, 0)))) := (Below.refl _ _).alloc (Nat.le_refl _) _
              have LX8 : Hid (Later wr x8) := Later.trans (show Later wr x6.drew from LX7.out) hl8
              clear hl8 CR1
              go_wp2_with (refine wpList_store_oop (o := OpD.zero) (s := .slice none 0 0) (by rfl) _ _ (by rfl) (by rfl) T8.out (by rfl) (by rfl) ?_)
              intro x9 X9 G9
              have L89 : Hid (Later x8 x9) := L8a.out.grown G9 (by simp) (fun k hk => by have b1 := Option.some.inj hk; omega)
              have LX9 : Hid (Later wr x9) := Later.trans (show Later wr x8 from LX8.out) L89.out
              have HRY9 : Hid (x9.rangeAt yb2 (yo + j * 6) (comE ((N : Int) + 1) en).cells) := fun i v hi => (Below.cell LX9.out (p := ⟨yb2, yo + j * 6 + i, none⟩) HLX.out.2).trans (HRY.out i v hi)
              have B9 := hide (HBX.out.later LX9.out)
              have CR2 := hide (oresult_any (m := mX (comE ((N : Int) + 1) en)) (s := .slice none 0 0) (o := .slice none 0 0) (i := .slice none 0 0) B9.out (by omega) HID.out)
              unfold Resulted at CR2
              rw [HR2.out] at CR2
              simp only at CR2
              rw [show (mX (comE ((N : Int) + 1) en)).csaga = en.id from rfl, HTL.out] at CR2
              clear X9 G9 T8 L8a
              go_wp2_with (first
                | (refine wpList_val rfl (by rfl) (exec_load_crow _ (by rfl) (by rfl) HRY9.out) ?_)
                | (refine wpList_build_parts (by rfl) 46 _ (by rfl) [(0, .int .i64 14), (14, (comE ((N : Int) + 1) en).val), (10, .bool true)] (by rfl) ((mX (comE ((N : Int) + 1) en)).cells (.slice none 0 0) (.slice none 0 0) (.slice none 0 0)).toArray (by kernel_rfl) ?_))
              refine CR2.out.mono ?_
              rintro e x10 ⟨rfl, hb10, ht10⟩
              have B10 := hide hb10
              have T10 : Hid (Turned (fun i => i = bb6) wr x10) := (Turned.of_below LX9.out _).trans ht10
              have T11 : Hid (OBox x10.heap.size OpD.zero (.slice none 0 0) (x10.alloc (.cells #[.int .i64 0, .int .i64 0, .int .i64 0, .string ⟨#[]⟩, .slice none 0 0, .int .i64 0, .int .i64 0, .int .i64 0, .bool false, .bool false] 37 (0, 0)))) := heap_alloc_new _ _
              have L11a : Hid (Later x10 (x10.alloc (.cells #[.int .i64 0, .int .i64 0, .int .i64 0, .string ⟨#[]⟩, .slice none 0 0, .int .i64 0, .int .i64 0, .int .i64 0, .bool false, .bool false] 37 (0, 0)))) := (Below.refl _ _).alloc (Nat.le_refl _) _
              clear hb10 ht10 CR2
              go_wp2_with (refine wpList_store_oop (o := opP 4 true (newP ((N : Int) + 1) en)) (s := .slice none 0 0) (by rfl) _ _ (by rfl) (by rfl) T11.out (by rfl) (by rfl) ?_)
              intro x12 X12 G12
              have L12 : Hid (Later x10 x12) := L11a.out.grown G12 (by simp) (fun k hk => by have b1 := Option.some.inj hk; omega)
              have B12 := hide (B10.out.later L12.out)
              have TV12 : Hid (Turned (fun i => i = bb6) w6 x12) := (TV.out.trans T10.out).trans (Turned.of_below L12.out _)
              clear X12 G12 T11 L11a
              go_wp2_with (fail)
              go_roundw
              case rel => exact ⟨j + 1, kj + 1, by omega, by go_num, by omega, B12.out, TV12.out⟩
              case measure => simp [Go.RowKit.intOf]; omega
            · have HAV := hide (HA6.out.turned TV.out (fun e => by have := HBGA.out; have := HBB6.out; have := HAB5.out; omega) (fun e => by have := HBB6.out; have := HAB5.out; omega))
              have HKV := hide (HK6.out.turned TV.out (fun e => by have := HBB6.out; have := HAB5.out; have := HBG.out.lt; have := Below.size LR4.out; omega) (fun e => by have := HBB6.out; have := HAB5.out; have := HBG.out.lt; have := Below.size LR4.out; omega) (fun i hi e => by have := HBB6.out; have := HAB5.out; have := hi.2; have := Below.size LR4.out; omega))
              have CSz := hide (sync_any HAV.out HKV.out (by have := HT2.out; omega))
              have hag : syncA (N : Int) (M.map (newP (N : Int))) t.L = [] := by
                have := syncA_again (v := (N : Int)) HKV.out.ok.1
                rw [syncL_nil, HM.out] at this
                exact this
              unfold Synced at CSz
              rw [hag] at CSz
              clear hag
              go_wp2_with (fail)
              refine CSz.out.mono ?_
              rintro e x7 ⟨sz, bz, rfl, hbz, hrz, _, htz⟩
              obtain ⟨Az, cz, rfl⟩ := own_none hrz
              have LZ : Hid (Later w x7) := ((Turned.of_below LV.out (fun _ => False)).onto htz (fun i hi => .inr (by have h1 := Below.size (show Later w wa from LR.out); have := HAG.out; omega))).below (fun i hi => hi.elim) (Nat.le_refl _)
              clear hbz hrz htz CSz
              go_wp2_with (fail)
              refine (olives_any (w := x7)).mono ?_
              rintro e x8 ⟨rfl, hl⟩
              have L9 : Hid (Later w x8) := Later.trans (show Later w x7 from LZ.out) hl
              clear hl
              go_wp2
              go_ret
              exact ⟨rfl, L9.out⟩
  · have d30 : 30 < (n : Int) := by omega
    clear CS
    go_wp2_with (fail)
    refine (olives_any (w := w1)).mono ?_
    rintro e w9 ⟨rfl, hl⟩
    have L9 : Hid (Later w w9) := Later.trans (show Later w w1 from L1.out) hl
    clear hl
    go_wp2
    go_ret
    exact ⟨rfl, L9.out⟩
end
end Go.Proofs.YtdkiopajilakcaaGreat
/- OutboxViews, as the claim asks it. -/
namespace Go.Proofs.YtdkiopajilakcaaGreat
open Go.RowKit
theorem law_viewsW (v : Value) (l : List OpD) (u : Nat) (w : World) (h1 : OpsAt (· < w.heap.size) w v l) (h2 : ∀ o ∈ l, o.wf) (hu : u < 18446744073709551616) :
    Calls Tryz.prog 7 #[v, .int .u64 (u : Int)] w fun e w' => e = .returned (.bool true) ∧ Later w w' := law_views (u : Int) (by omega) (by omega) h1 h2
end Go.Proofs.YtdkiopajilakcaaGreat
/- From what a row says of a message that came in to what the walks are told of it. -/
namespace Go.Proofs.YtdkiopajilakcaaGreat
open Go.ChangeShapes Go.WideShapes Go.ChangeAt Go.RowKit
section
variable {H : Type} {enc : TypeId × Value → H} {W : World}
set_option maxRecDepth 100000
theorem open_incs {n : Nat} {v : Value} {x : DataW H × List MemPlace} (h : Rdg enc W n 44 [v] x) (hs : Sm 44 x.1) : ∃ l, IncsAt (· < W.heap.size) W v l ∧ ∀ a ∈ l, I64 a := by
  obtain ⟨ys, h1, h2⟩ := open_elems (fun a : Int => [.int .i64 a]) I64 1 (by decide) (fun _ => rfl) Tryz.underlying44 (by kernel_rfl) (fun n cs x h hs => by
    obtain ⟨a, h0, _, w0⟩ := DataW.trod_int Tryz.underlying3 h
    have b0 := bounds_i64 w0
    exact ⟨a, h0, by unfold I64; omega⟩) (fun y _ u hu => by obtain rfl : u = .int .i64 y := by simpa using hu
                                                             rfl) h hs
  refine ⟨ys, ?_, h2⟩
  unfold IncsAt
  rw [List.map_eq_flatMap]
  exact h1

theorem open_reply {n : Nat} {cs : List Value} {x : DataW H × List MemPlace} (h : Rdg enc W n 40 cs x) (hs : Sm 40 x.1) :
    ∃ a b c d : Int, cs = [.int .i64 a, .int .i64 b, .int .i64 c, .int .i64 d] ∧ I64 a ∧ I64 b ∧ I64 c ∧ I64 d := by
  obtain ⟨m, hl, hf⟩ := open_fields Tryz.underlying40 h hs
  have hl : cs.length = 4 := hl
  match cs, hl with
  | [c0, c1, c2, c3], _ =>
    obtain ⟨y0, g0, s0⟩ := hf 0 _ rfl
    have g0 : Rdg enc W m 38 [c0] y0 := (congrArg (fun q => DataW.trod enc Tryz.prog W 0 (fun _ => true) true m 38 q) (show ([c0, c1, c2, c3].drop 0).take (Tryz.prog.cellsOf 38) = [c0] from by rw [show Tryz.prog.cellsOf 38 = 1 from by kernel_rfl]; rfl)).symm.trans g0
    obtain ⟨a0, e0, w0⟩ := open_int1 Tryz.underlying38 g0
    obtain ⟨y1, g1, s1⟩ := hf 1 _ rfl
    have g1 : Rdg enc W m 3 [c1] y1 := (congrArg (fun q => DataW.trod enc Tryz.prog W 0 (fun _ => true) true m 3 q) (show ([c0, c1, c2, c3].drop 1).take (Tryz.prog.cellsOf 3) = [c1] from by rw [show Tryz.prog.cellsOf 3 = 1 from by kernel_rfl]; rfl)).symm.trans g1
    obtain ⟨a1, e1, w1⟩ := open_int1 Tryz.underlying3 g1
    obtain ⟨y2, g2, s2⟩ := hf 2 _ rfl
    have g2 : Rdg enc W m 3 [c2] y2 := (congrArg (fun q => DataW.trod enc Tryz.prog W 0 (fun _ => true) true m 3 q) (show ([c0, c1, c2, c3].drop 2).take (Tryz.prog.cellsOf 3) = [c2] from by rw [show Tryz.prog.cellsOf 3 = 1 from by kernel_rfl]; rfl)).symm.trans g2
    obtain ⟨a2, e2, w2⟩ := open_int1 Tryz.underlying3 g2
    obtain ⟨y3, g3, s3⟩ := hf 3 _ rfl
    have g3 : Rdg enc W m 3 [c3] y3 := (congrArg (fun q => DataW.trod enc Tryz.prog W 0 (fun _ => true) true m 3 q) (show ([c0, c1, c2, c3].drop 3).take (Tryz.prog.cellsOf 3) = [c3] from by rw [show Tryz.prog.cellsOf 3 = 1 from by kernel_rfl]; rfl)).symm.trans g3
    obtain ⟨a3, e3, w3⟩ := open_int1 Tryz.underlying3 g3
    subst e0 e1 e2 e3
    exact ⟨a0, a1, a2, a3, rfl, w0, w1, w2, w3⟩

theorem open_command {n : Nat} {cs : List Value} {x : DataW H × List MemPlace} (h : Rdg enc W n 42 cs x) (hs : Sm 42 x.1) :
    ∃ (a b c d e : Int) (f : Bool), cs = [.int .i64 a, .int .i64 b, .int .i64 c, .int .i64 d, .int .i64 e, .bool f] ∧ I64 a ∧ I64 b ∧ I64 c ∧ I64 d ∧ I64 e := by
  obtain ⟨m, hl, hf⟩ := open_fields Tryz.underlying42 h hs
  have hl : cs.length = 6 := hl
  match cs, hl with
  | [c0, c1, c2, c3, c4, c5], _ =>
    obtain ⟨y0, g0, s0⟩ := hf 0 _ rfl
    have g0 : Rdg enc W m 3 [c0] y0 := (congrArg (fun q => DataW.trod enc Tryz.prog W 0 (fun _ => true) true m 3 q) (show ([c0, c1, c2, c3, c4, c5].drop 0).take (Tryz.prog.cellsOf 3) = [c0] from by rw [show Tryz.prog.cellsOf 3 = 1 from by kernel_rfl]; rfl)).symm.trans g0
    obtain ⟨a0, e0, w0⟩ := open_int1 Tryz.underlying3 g0
    obtain ⟨y1, g1, s1⟩ := hf 1 _ rfl
    have g1 : Rdg enc W m 3 [c1] y1 := (congrArg (fun q => DataW.trod enc Tryz.prog W 0 (fun _ => true) true m 3 q) (show ([c0, c1, c2, c3, c4, c5].drop 1).take (Tryz.prog.cellsOf 3) = [c1] from by rw [show Tryz.prog.cellsOf 3 = 1 from by kernel_rfl]; rfl)).symm.trans g1
    obtain ⟨a1, e1, w1⟩ := open_int1 Tryz.underlying3 g1
    obtain ⟨y2, g2, s2⟩ := hf 2 _ rfl
    have g2 : Rdg enc W m 3 [c2] y2 := (congrArg (fun q => DataW.trod enc Tryz.prog W 0 (fun _ => true) true m 3 q) (show ([c0, c1, c2, c3, c4, c5].drop 2).take (Tryz.prog.cellsOf 3) = [c2] from by rw [show Tryz.prog.cellsOf 3 = 1 from by kernel_rfl]; rfl)).symm.trans g2
    obtain ⟨a2, e2, w2⟩ := open_int1 Tryz.underlying3 g2
    obtain ⟨y3, g3, s3⟩ := hf 3 _ rfl
    have g3 : Rdg enc W m 3 [c3] y3 := (congrArg (fun q => DataW.trod enc Tryz.prog W 0 (fun _ => true) true m 3 q) (show ([c0, c1, c2, c3, c4, c5].drop 3).take (Tryz.prog.cellsOf 3) = [c3] from by rw [show Tryz.prog.cellsOf 3 = 1 from by kernel_rfl]; rfl)).symm.trans g3
    obtain ⟨a3, e3, w3⟩ := open_int1 Tryz.underlying3 g3
    obtain ⟨y4, g4, s4⟩ := hf 4 _ rfl
    have g4 : Rdg enc W m 3 [c4] y4 := (congrArg (fun q => DataW.trod enc Tryz.prog W 0 (fun _ => true) true m 3 q) (show ([c0, c1, c2, c3, c4, c5].drop 4).take (Tryz.prog.cellsOf 3) = [c4] from by rw [show Tryz.prog.cellsOf 3 = 1 from by kernel_rfl]; rfl)).symm.trans g4
    obtain ⟨a4, e4, w4⟩ := open_int1 Tryz.underlying3 g4
    obtain ⟨y5, g5, s5⟩ := hf 5 _ rfl
    have g5 : Rdg enc W m 4 [c5] y5 := (congrArg (fun q => DataW.trod enc Tryz.prog W 0 (fun _ => true) true m 4 q) (show ([c0, c1, c2, c3, c4, c5].drop 5).take (Tryz.prog.cellsOf 4) = [c5] from by rw [show Tryz.prog.cellsOf 4 = 1 from by kernel_rfl]; rfl)).symm.trans g5
    obtain ⟨a5, e5⟩ := open_bool1 Tryz.underlying4 g5
    subst e0 e1 e2 e3 e4 e5
    exact ⟨a0, a1, a2, a3, a4, a5, rfl, w0, w1, w2, w3, w4⟩

theorem open_msg {n : Nat} {cs : List Value} {x : DataW H × List MemPlace} (h : Rdg enc W n 46 cs x) (hs : Sm 46 x.1) :
    ∃ (m : MsgD) (s o i : Value), cs = m.cells s o i ∧ Lists (· < W.heap.size) W m s o i ∧ m.wf := by
  obtain ⟨m, hl, hf⟩ := open_fields Tryz.underlying46 h hs
  have hl : cs.length = 34 := hl
  rcases cs with _ | ⟨c0, cs⟩
  · simp at hl
  rcases cs with _ | ⟨c1, cs⟩
  · simp at hl
  rcases cs with _ | ⟨c2, cs⟩
  · simp at hl
  rcases cs with _ | ⟨c3, cs⟩
  · simp at hl
  rcases cs with _ | ⟨c4, cs⟩
  · simp at hl
  rcases cs with _ | ⟨c5, cs⟩
  · simp at hl
  rcases cs with _ | ⟨c6, cs⟩
  · simp at hl
  rcases cs with _ | ⟨c7, cs⟩
  · simp at hl
  rcases cs with _ | ⟨c8, cs⟩
  · simp at hl
  rcases cs with _ | ⟨c9, cs⟩
  · simp at hl
  rcases cs with _ | ⟨c10, cs⟩
  · simp at hl
  rcases cs with _ | ⟨c11, cs⟩
  · simp at hl
  rcases cs with _ | ⟨c12, cs⟩
  · simp at hl
  rcases cs with _ | ⟨c13, cs⟩
  · simp at hl
  rcases cs with _ | ⟨c14, cs⟩
  · simp at hl
  rcases cs with _ | ⟨c15, cs⟩
  · simp at hl
  rcases cs with _ | ⟨c16, cs⟩
  · simp at hl
  rcases cs with _ | ⟨c17, cs⟩
  · simp at hl
  rcases cs with _ | ⟨c18, cs⟩
  · simp at hl
  rcases cs with _ | ⟨c19, cs⟩
  · simp at hl
  rcases cs with _ | ⟨c20, cs⟩
  · simp at hl
  rcases cs with _ | ⟨c21, cs⟩
  · simp at hl
  rcases cs with _ | ⟨c22, cs⟩
  · simp at hl
  rcases cs with _ | ⟨c23, cs⟩
  · simp at hl
  rcases cs with _ | ⟨c24, cs⟩
  · simp at hl
  rcases cs with _ | ⟨c25, cs⟩
  · simp at hl
  rcases cs with _ | ⟨c26, cs⟩
  · simp at hl
  rcases cs with _ | ⟨c27, cs⟩
  · simp at hl
  rcases cs with _ | ⟨c28, cs⟩
  · simp at hl
  rcases cs with _ | ⟨c29, cs⟩
  · simp at hl
  rcases cs with _ | ⟨c30, cs⟩
  · simp at hl
  rcases cs with _ | ⟨c31, cs⟩
  · simp at hl
  rcases cs with _ | ⟨c32, cs⟩
  · simp at hl
  rcases cs with _ | ⟨c33, cs⟩
  · simp at hl
  obtain rfl : cs = [] := List.eq_nil_of_length_eq_zero (by simp only [List.length_cons] at hl; omega)
  · skip
    obtain ⟨y0, g0, s0⟩ := hf 0 _ rfl
    have g0 : Rdg enc W m 3 [c0] y0 := (congrArg (fun q => DataW.trod enc Tryz.prog W 0 (fun _ => true) true m 3 q) (show ([c0, c1, c2, c3, c4, c5, c6, c7, c8, c9, c10, c11, c12, c13, c14, c15, c16, c17, c18, c19, c20, c21, c22, c23, c24, c25, c26, c27, c28, c29, c30, c31, c32, c33].drop 0).take (Tryz.prog.cellsOf 3) = [c0] from by rw [show Tryz.prog.cellsOf 3 = 1 from by kernel_rfl]; rfl)).symm.trans g0
    obtain ⟨a0, e0, w0⟩ := open_int1 Tryz.underlying3 g0
    obtain ⟨y1, g1, s1⟩ := hf 1 _ rfl
    have g1 : Rdg enc W m 3 [c1] y1 := (congrArg (fun q => DataW.trod enc Tryz.prog W 0 (fun _ => true) true m 3 q) (show ([c0, c1, c2, c3, c4, c5, c6, c7, c8, c9, c10, c11, c12, c13, c14, c15, c16, c17, c18, c19, c20, c21, c22, c23, c24, c25, c26, c27, c28, c29, c30, c31, c32, c33].drop 1).take (Tryz.prog.cellsOf 3) = [c1] from by rw [show Tryz.prog.cellsOf 3 = 1 from by kernel_rfl]; rfl)).symm.trans g1
    obtain ⟨a1, e1, w1⟩ := open_int1 Tryz.underlying3 g1
    obtain ⟨y2, g2, s2⟩ := hf 2 _ rfl
    have g2 : Rdg enc W m 3 [c2] y2 := (congrArg (fun q => DataW.trod enc Tryz.prog W 0 (fun _ => true) true m 3 q) (show ([c0, c1, c2, c3, c4, c5, c6, c7, c8, c9, c10, c11, c12, c13, c14, c15, c16, c17, c18, c19, c20, c21, c22, c23, c24, c25, c26, c27, c28, c29, c30, c31, c32, c33].drop 2).take (Tryz.prog.cellsOf 3) = [c2] from by rw [show Tryz.prog.cellsOf 3 = 1 from by kernel_rfl]; rfl)).symm.trans g2
    obtain ⟨a2, e2, w2⟩ := open_int1 Tryz.underlying3 g2
    obtain ⟨y3, g3, s3⟩ := hf 3 _ rfl
    have g3 : Rdg enc W m 3 [c3] y3 := (congrArg (fun q => DataW.trod enc Tryz.prog W 0 (fun _ => true) true m 3 q) (show ([c0, c1, c2, c3, c4, c5, c6, c7, c8, c9, c10, c11, c12, c13, c14, c15, c16, c17, c18, c19, c20, c21, c22, c23, c24, c25, c26, c27, c28, c29, c30, c31, c32, c33].drop 3).take (Tryz.prog.cellsOf 3) = [c3] from by rw [show Tryz.prog.cellsOf 3 = 1 from by kernel_rfl]; rfl)).symm.trans g3
    obtain ⟨a3, e3, w3⟩ := open_int1 Tryz.underlying3 g3
    obtain ⟨y4, g4, s4⟩ := hf 4 _ rfl
    have g4 : Rdg enc W m 3 [c4] y4 := (congrArg (fun q => DataW.trod enc Tryz.prog W 0 (fun _ => true) true m 3 q) (show ([c0, c1, c2, c3, c4, c5, c6, c7, c8, c9, c10, c11, c12, c13, c14, c15, c16, c17, c18, c19, c20, c21, c22, c23, c24, c25, c26, c27, c28, c29, c30, c31, c32, c33].drop 4).take (Tryz.prog.cellsOf 3) = [c4] from by rw [show Tryz.prog.cellsOf 3 = 1 from by kernel_rfl]; rfl)).symm.trans g4
    obtain ⟨a4, e4, w4⟩ := open_int1 Tryz.underlying3 g4
    obtain ⟨y5, g5, s5⟩ := hf 5 _ rfl
    have g5 : Rdg enc W m 3 [c5] y5 := (congrArg (fun q => DataW.trod enc Tryz.prog W 0 (fun _ => true) true m 3 q) (show ([c0, c1, c2, c3, c4, c5, c6, c7, c8, c9, c10, c11, c12, c13, c14, c15, c16, c17, c18, c19, c20, c21, c22, c23, c24, c25, c26, c27, c28, c29, c30, c31, c32, c33].drop 5).take (Tryz.prog.cellsOf 3) = [c5] from by rw [show Tryz.prog.cellsOf 3 = 1 from by kernel_rfl]; rfl)).symm.trans g5
    obtain ⟨a5, e5, w5⟩ := open_int1 Tryz.underlying3 g5
    obtain ⟨y6, g6, s6⟩ := hf 6 _ rfl
    have g6 : Rdg enc W m 3 [c6] y6 := (congrArg (fun q => DataW.trod enc Tryz.prog W 0 (fun _ => true) true m 3 q) (show ([c0, c1, c2, c3, c4, c5, c6, c7, c8, c9, c10, c11, c12, c13, c14, c15, c16, c17, c18, c19, c20, c21, c22, c23, c24, c25, c26, c27, c28, c29, c30, c31, c32, c33].drop 6).take (Tryz.prog.cellsOf 3) = [c6] from by rw [show Tryz.prog.cellsOf 3 = 1 from by kernel_rfl]; rfl)).symm.trans g6
    obtain ⟨a6, e6, w6⟩ := open_int1 Tryz.underlying3 g6
    obtain ⟨y7, g7, s7⟩ := hf 7 _ rfl
    have g7 : Rdg enc W m 3 [c7] y7 := (congrArg (fun q => DataW.trod enc Tryz.prog W 0 (fun _ => true) true m 3 q) (show ([c0, c1, c2, c3, c4, c5, c6, c7, c8, c9, c10, c11, c12, c13, c14, c15, c16, c17, c18, c19, c20, c21, c22, c23, c24, c25, c26, c27, c28, c29, c30, c31, c32, c33].drop 7).take (Tryz.prog.cellsOf 3) = [c7] from by rw [show Tryz.prog.cellsOf 3 = 1 from by kernel_rfl]; rfl)).symm.trans g7
    obtain ⟨a7, e7, w7⟩ := open_int1 Tryz.underlying3 g7
    obtain ⟨y8, g8, s8⟩ := hf 8 _ rfl
    have g8 : Rdg enc W m 3 [c8] y8 := (congrArg (fun q => DataW.trod enc Tryz.prog W 0 (fun _ => true) true m 3 q) (show ([c0, c1, c2, c3, c4, c5, c6, c7, c8, c9, c10, c11, c12, c13, c14, c15, c16, c17, c18, c19, c20, c21, c22, c23, c24, c25, c26, c27, c28, c29, c30, c31, c32, c33].drop 8).take (Tryz.prog.cellsOf 3) = [c8] from by rw [show Tryz.prog.cellsOf 3 = 1 from by kernel_rfl]; rfl)).symm.trans g8
    obtain ⟨a8, e8, w8⟩ := open_int1 Tryz.underlying3 g8
    obtain ⟨y9, g9, s9⟩ := hf 9 _ rfl
    have g9 : Rdg enc W m 4 [c9] y9 := (congrArg (fun q => DataW.trod enc Tryz.prog W 0 (fun _ => true) true m 4 q) (show ([c0, c1, c2, c3, c4, c5, c6, c7, c8, c9, c10, c11, c12, c13, c14, c15, c16, c17, c18, c19, c20, c21, c22, c23, c24, c25, c26, c27, c28, c29, c30, c31, c32, c33].drop 9).take (Tryz.prog.cellsOf 4) = [c9] from by rw [show Tryz.prog.cellsOf 4 = 1 from by kernel_rfl]; rfl)).symm.trans g9
    obtain ⟨a9, e9⟩ := open_bool1 Tryz.underlying4 g9
    obtain ⟨y10, g10, s10⟩ := hf 10 _ rfl
    have g10 : Rdg enc W m 4 [c10] y10 := (congrArg (fun q => DataW.trod enc Tryz.prog W 0 (fun _ => true) true m 4 q) (show ([c0, c1, c2, c3, c4, c5, c6, c7, c8, c9, c10, c11, c12, c13, c14, c15, c16, c17, c18, c19, c20, c21, c22, c23, c24, c25, c26, c27, c28, c29, c30, c31, c32, c33].drop 10).take (Tryz.prog.cellsOf 4) = [c10] from by rw [show Tryz.prog.cellsOf 4 = 1 from by kernel_rfl]; rfl)).symm.trans g10
    obtain ⟨a10, e10⟩ := open_bool1 Tryz.underlying4 g10
    obtain ⟨y11, g11, s11⟩ := hf 11 _ rfl
    have g11 : Rdg enc W m 4 [c11] y11 := (congrArg (fun q => DataW.trod enc Tryz.prog W 0 (fun _ => true) true m 4 q) (show ([c0, c1, c2, c3, c4, c5, c6, c7, c8, c9, c10, c11, c12, c13, c14, c15, c16, c17, c18, c19, c20, c21, c22, c23, c24, c25, c26, c27, c28, c29, c30, c31, c32, c33].drop 11).take (Tryz.prog.cellsOf 4) = [c11] from by rw [show Tryz.prog.cellsOf 4 = 1 from by kernel_rfl]; rfl)).symm.trans g11
    obtain ⟨a11, e11⟩ := open_bool1 Tryz.underlying4 g11
    obtain ⟨y12, g12, s12⟩ := hf 12 _ rfl
    have g12 : Rdg enc W m 37 [c12, c13, c14, c15, c16, c17, c18, c19, c20, c21] y12 := (congrArg (fun q => DataW.trod enc Tryz.prog W 0 (fun _ => true) true m 37 q) (show ([c0, c1, c2, c3, c4, c5, c6, c7, c8, c9, c10, c11, c12, c13, c14, c15, c16, c17, c18, c19, c20, c21, c22, c23, c24, c25, c26, c27, c28, c29, c30, c31, c32, c33].drop 12).take (Tryz.prog.cellsOf 37) = [c12, c13, c14, c15, c16, c17, c18, c19, c20, c21] from by rw [show Tryz.prog.cellsOf 37 = 10 from by kernel_rfl]; rfl)).symm.trans g12
    obtain ⟨⟨op, s⟩, f12, st, wop⟩ := open_op g12 s12
    obtain ⟨y13, g13, s13⟩ := hf 13 _ rfl
    have g13 : Rdg enc W m 40 [c22, c23, c24, c25] y13 := (congrArg (fun q => DataW.trod enc Tryz.prog W 0 (fun _ => true) true m 40 q) (show ([c0, c1, c2, c3, c4, c5, c6, c7, c8, c9, c10, c11, c12, c13, c14, c15, c16, c17, c18, c19, c20, c21, c22, c23, c24, c25, c26, c27, c28, c29, c30, c31, c32, c33].drop 22).take (Tryz.prog.cellsOf 40) = [c22, c23, c24, c25] from by rw [show Tryz.prog.cellsOf 40 = 4 from by kernel_rfl]; rfl)).symm.trans g13
    obtain ⟨r0, r1, r2, r3, f13, v0, v1, v2, v3⟩ := open_reply g13 s13
    obtain ⟨y14, g14, s14⟩ := hf 14 _ rfl
    have g14 : Rdg enc W m 42 [c26, c27, c28, c29, c30, c31] y14 := (congrArg (fun q => DataW.trod enc Tryz.prog W 0 (fun _ => true) true m 42 q) (show ([c0, c1, c2, c3, c4, c5, c6, c7, c8, c9, c10, c11, c12, c13, c14, c15, c16, c17, c18, c19, c20, c21, c22, c23, c24, c25, c26, c27, c28, c29, c30, c31, c32, c33].drop 26).take (Tryz.prog.cellsOf 42) = [c26, c27, c28, c29, c30, c31] from by rw [show Tryz.prog.cellsOf 42 = 6 from by kernel_rfl]; rfl)).symm.trans g14
    obtain ⟨k0, k1, k2, k3, k4, k5, f14, u0, u1, u2, u3, u4⟩ := open_command g14 s14
    obtain ⟨y15, g15, s15⟩ := hf 15 _ rfl
    have g15 : Rdg enc W m 43 [c32] y15 := (congrArg (fun q => DataW.trod enc Tryz.prog W 0 (fun _ => true) true m 43 q) (show ([c0, c1, c2, c3, c4, c5, c6, c7, c8, c9, c10, c11, c12, c13, c14, c15, c16, c17, c18, c19, c20, c21, c22, c23, c24, c25, c26, c27, c28, c29, c30, c31, c32, c33].drop 32).take (Tryz.prog.cellsOf 43) = [c32] from by rw [show Tryz.prog.cellsOf 43 = 1 from by kernel_rfl]; rfl)).symm.trans g15
    obtain ⟨ops, hops, wops⟩ := open_ops g15 s15
    obtain ⟨y16, g16, s16⟩ := hf 16 _ rfl
    have g16 : Rdg enc W m 44 [c33] y16 := (congrArg (fun q => DataW.trod enc Tryz.prog W 0 (fun _ => true) true m 44 q) (show ([c0, c1, c2, c3, c4, c5, c6, c7, c8, c9, c10, c11, c12, c13, c14, c15, c16, c17, c18, c19, c20, c21, c22, c23, c24, c25, c26, c27, c28, c29, c30, c31, c32, c33].drop 33).take (Tryz.prog.cellsOf 44) = [c33] from by rw [show Tryz.prog.cellsOf 44 = 1 from by kernel_rfl]; rfl)).symm.trans g16
    obtain ⟨incs, hincs, wincs⟩ := open_incs g16 s16
    subst e0 e1 e2 e3 e4 e5 e6 e7 e8 e9 e10 e11
    unfold OpD.cells at f12
    simp only [List.cons.injEq, and_true] at f12 f13 f14
    obtain ⟨rfl, rfl, rfl, rfl, rfl, rfl, rfl, rfl, rfl, rfl⟩ := f12
    obtain ⟨rfl, rfl, rfl, rfl⟩ := f13
    obtain ⟨rfl, rfl, rfl, rfl, rfl, rfl⟩ := f14
    exact ⟨⟨a0, a1, a2, a3, a4, a5, a6, a7, a8, a9, a10, a11, op, r0, r1, r2, r3, k0, k1, k2, k3, k4, k5, ops, incs⟩, _, c32, c33, rfl, ⟨st, hops, hincs⟩, w0, w1, w2, w3, w4, w5, w6, w7, w8, wop, v0, v1, v2, v3, u0, u1, u2, u3, u4, wops, wincs⟩
theorem arg_msg {cs : Array Value} {d : DataW H} {p : List MemPlace} (h : DataW.Trod enc Tryz.prog W 0 (fun _ => true) true 46 (.agg cs) d p) (hs : Sm 46 d) : ∃ (m : MsgD) (s o i : Value), cs = (m.cells s o i).toArray ∧ Lists (· < W.heap.size) W m s o i ∧ m.wf := by
  obtain ⟨fuel, hf⟩ := h
  obtain ⟨m, s, o, i, e, hl, wf⟩ := open_msg (n := fuel) (x := (d, p)) hf hs
  refine ⟨m, s, o, i, ?_, hl, wf⟩
  have e2 : cs.toList = m.cells s o i := e
  rw [← e2]
end
end Go.Proofs.YtdkiopajilakcaaGreat
namespace Go.Proofs.YtdkiopajilakcaaGreat
open Go.ChangeShapes Go.WideShapes Go.ChangeAt Go.RowKit

theorem outboxViews_lawKnobs : ownKnob Tryz.prog.godebug = none := by kernel_rfl
theorem outboxViews_allLaid : laidOutB Tryz.prog = true := by kernel_rfl

set_option maxRecDepth 100000 in
set_option maxHeartbeats 1000000 in
theorem outboxViews_lifted (os : Os) (started : os.Started) (H : Type) (enc : TypeId × Value → H) :
    ReturnsInHanded {} Tryz.checked os 7 .any (Rows.outboxViewsSpec.pre6 enc Tryz.prog Tryz.f7 Rows.outboxViewsRow.domain false) (Rows.outboxViewsSpec.post enc Tryz.prog Tryz.f7 false true false false) := by
  refine returnsInHanded_of_change_sized (C := Tryz.checked) outboxViews_lawKnobs started (by kernel_rfl) Tryz.func7
    (ChangeSpec.witness6 (enc := enc) (C := Tryz.checked) false ⟨#[], #[.slice none 0 0, .int .u64 0], []⟩ 8 (by kernel_rfl) (by kernel_rfl) (by kernel_rfl) (by kernel_rfl)) ?_
  intro W base args ds gs before hval0 hW hcnd hsz _
  have hval : ∀ (j : Nat) t v, Tryz.f7.params[j]? = some t → args[j]? = some v → Value.okWide Tryz.prog W .any base t v := hval0
  have hW' := hW
  obtain ⟨p, q, hA0, hV, rfl, _, _⟩ := hW
  have hA : DataW.TrodAll enc Tryz.prog W 0 (fun _ => true) true Tryz.f7.params.toList args.toList ds p := hA0
  rw [Tryz.params7] at hA hval
  obtain ⟨v0, vs0, d0, ds0, p0, q0, hargs, rfl, rfl, h0, r0⟩ := trodAll_cons hA
  obtain ⟨v1, vs1, d1, ds1, p1, q1, rfl, rfl, rfl, h1, r1⟩ := trodAll_cons r0
  obtain ⟨rfl, rfl, rfl⟩ := trodAll_nil r1
  obtain rfl : args = #[v0, v1] := by cases args; simp_all
  obtain ⟨rfl, rfl⟩ := trodVars_none hV
  have k0 := h0
  have lt0 : ∀ x ∈ p0, x.block < W.heap.size := by obtain ⟨m, hm⟩ := k0; exact DataW.trod_lt m _ _ _ hm
  have s0 : Sm 43 d0 := sm_of hsz (j := 0) rfl rfl
  obtain ⟨A0, len0, cap0, rfl⟩ := okWide_slice Tryz.underlying43 (hval 0 43 v0 rfl rfl)
  obtain ⟨l0, hl0, wf0⟩ := arg_ops h0 s0
  have k1 := h1
  obtain ⟨a1, rfl, rfl, rfl, w1⟩ := open_int Tryz.underlying54 (hval 1 54 v1 rfl rfl) h1
  have b1 := bounds_u64 w1
  obtain ⟨V1, rfl⟩ := Int.eq_ofNat_of_zero_le b1.1
  clear hA0 hval0
  refine (law_viewsW (.slice A0 len0 cap0) l0 V1 W hl0 wf0 (by omega)).mono fun e W' ⟨he, bel⟩ => ?_
  subst he
  exact ⟨_, rfl, _, _, _, [], _, [], hW', trodAll_mk1 (shut_bool Tryz.underlying4 _), (trodAll_cons_mk (Below.trod outboxViews_allLaid (by kernel_rfl) (of_decide_eq_true (by kernel_rfl)) k0 bel lt0) (trodAll_cons_mk (shut_int Tryz.underlying54 w1) trodAll_mk0)), rfl, bel.frame _, fun h => by cases h⟩

theorem outboxViews_over : Rows.outboxViewsRow.holds Tryz.pinned (OpenSpec.ofChange Rows.outboxViewsSpec) :=
  OpenClaim.holds_of_wide 7 Tryz.f7 rfl rfl rfl rfl rfl rfl rfl ⟨rfl, rfl, rfl, rfl, rfl⟩ rfl rfl rfl rfl rfl (by kernel_rfl) Tryz.func7 (by kernel_rfl)
    (of_decide_eq_true (by kernel_rfl)) (by unfold Func.isWrapper; first | (rw [if_pos (by decide +kernel)]; kernel_rfl) | (rw [if_neg (by decide +kernel)]; exact ⟨rfl, rfl⟩))
    (fun os started H enc _ => outboxViews_lifted os started H enc)

theorem outboxViews_holds : Rows.OutboxViewsSaid := outboxViews_over
#print axioms outboxViews_holds
end Go.Proofs.YtdkiopajilakcaaGreat
