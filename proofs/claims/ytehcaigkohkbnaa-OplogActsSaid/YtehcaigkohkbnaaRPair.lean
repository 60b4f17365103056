/- The document's log: At, Commit, Replace, Add; the code's log and the document's side by side. -/
import Derived.Test.YtehcaigkohkbnaaRCut
import Derived.Test.YtehcaigkohkbnaaOrderV2
import Derived.IntWalk
import Derived.Test.YtehcaigkohkbnaaSameOps
import Derived.Test.YtehcaigkohkbnaaSameOp
namespace Go.Proofs.Ytehcaigkohkbnaa
open Go.RowKit
/- The document's log: At, Commit. -/

/-- What the document's At tells. -/
def RAtTells (F : Nat → Prop) : Option OpD → Ending → World → Prop
  | none, e, _ => NoOp e
  | some o, e, w' => ∃ s, e = .returned (.tuple #[.agg (o.cells s).toArray, .bool true]) ∧ StepsAt F w' s o.steps
theorem put_op (x : OpD) (s : Value) : putAt zOp 0 (x.cells s) = (x.cells s).toArray := by simp [zOp, OpD.cells, putAt]
set_option maxHeartbeats 2000000 in
set_option maxRecDepth 100000 in
theorem refat_any {F : Nat → Prop} {r c : Nat} {L : List OpD} (n : Int) (w : World) (h : RAt F w r L c) (hn64 : I64 n) :
    Calls Try.prog 40 #[.pointer (some ⟨r, 0, none⟩), .int .i64 n] w fun e w' => RAtTells F (atR L n) e w' ∧ Below w.heap.size w w' := by
  obtain ⟨v, ps, h⟩ := h
  obtain ⟨A, cp, rfl, hn1, hn2⟩ := h.shape
  have hlen := h.len
  have hcom := h.com
  have hpl : ps.length = L.length := by rw [← h.says, List.length_map]
  obtain ⟨n0, hn0⟩ : ∃ n0, L.length = n0 := ⟨_, rfl⟩
  rw [hn0] at h hn1 hlen hcom hpl
  obtain ⟨c0, c1, f0, f1⟩ := h.cells
  have hr := h.lt
  have H := hide h
  have HN := hide hn0
  have HPL := hide hpl
  unfold maxLen at hn2
  clear h hn0 hpl
  obtain ⟨hi1, hi2⟩ := hn64
  by_cases h1 : n < 1
  · have HR : Hid (atR L n = none) := by show _ = _; unfold atR; rw [if_pos h1]
    have h1' : decide (n < 1) = true := by simpa using h1
    go_enter Try.func40, Try.ntmps40
    go_wp2_with (refine wpList_store_box (by rfl) 33 _ _ (by rfl) w.heap.size 0 zOp (by rfl) (by rfl) 33 zOp (heap_alloc_new w _) (by kernel_rfl) (by exact Nat.le_refl 10) (by simp [zOp, OpD.cells, OpD.zero, Value.oneCell']) ?_; intro w2 hb2 hg2)
    have hb4 : w2.heap[w.heap.size]? = some (.cells zOp 33 (0, 0)) := by simpa [putAt, zOp, OpD.cells] using hb2
    refine bodyPost_ret (results_box2 Try.results40 _ _ w.heap.size 33 _ _ (by rfl) hb4 Try.underlying33 (by rfl) (by kernel_rfl) _ (by rfl)) (by rfl) ?_
    rw [HR.out]
    exact ⟨rfl, ((Below.refl _ _).alloc (Nat.le_refl _) _).grown hg2 (by simp) (fun k hk => by have := Option.some.inj hk; omega)⟩
  obtain ⟨m, rfl⟩ : ∃ m : Nat, n = (m : Int) + 1 := ⟨n.toNat - 1, by omega⟩
  have h1' : decide ((m : Int) + 1 < 1) = false := by simp; omega
  have HAT : Hid (atR L ((m : Int) + 1) = L[m]?) := by
    show _ = _
    unfold atR
    rw [if_neg h1, show ((m : Int) + 1).toNat - 1 = m from by omega]
  clear h1 hi1 hi2
  by_cases hm : n0 ≤ m
  · have HR : Hid (atR L ((m : Int) + 1) = none) := by show _ = _; rw [HAT.out]; exact List.getElem?_eq_none (by have := HN.out; omega)
    have hm' : decide ((n0 : Int) < (m : Int) + 1) = true := by simp; omega
    clear HAT
    go_enter Try.func40, Try.ntmps40
    go_wp2_with (refine wpList_store_box (by rfl) 33 _ _ (by rfl) w.heap.size 0 zOp (by rfl) (by rfl) 33 zOp (heap_alloc_new w _) (by kernel_rfl) (by exact Nat.le_refl 10) (by simp [zOp, OpD.cells, OpD.zero, Value.oneCell']) ?_; intro w2 hb2 hg2)
    have hb4 : w2.heap[w.heap.size]? = some (.cells zOp 33 (0, 0)) := by simpa [putAt, zOp, OpD.cells] using hb2
    refine bodyPost_ret (results_box2 Try.results40 _ _ w.heap.size 33 _ _ (by rfl) hb4 Try.underlying33 (by rfl) (by kernel_rfl) _ (by rfl)) (by rfl) ?_
    rw [HR.out]
    exact ⟨rfl, ((Below.refl _ _).alloc (Nat.le_refl _) _).grown hg2 (by simp) (fun k hk => by have := Option.some.inj hk; omega)⟩
  · have hmn : m < n0 := by omega
    obtain ⟨o, s, b, off, c9, hx, hv, _, _, hbl, hr9, hst⟩ := H.out.ops.at_ (i := m) (by have := HPL.out; omega)
    rw [HPL.out] at hv
    obtain ⟨rfl, rfl⟩ : A = some ⟨b, off, none⟩ ∧ cp = c9 := by injection hv with e1 _ e3; exact ⟨e1, e3⟩
    have HR : Hid (atR L ((m : Int) + 1) = some o) := by
      show _ = _
      rw [HAT.out, ← H.out.says, List.getElem?_map, hx]
      rfl
    have hm' : decide ((n0 : Int) < (m : Int) + 1) = false := by simp; omega
    have RX : Hid ((w.alloc (.cells zOp 33 (0, 0))).rangeAt b (off + m * 10) (o.cells s)) := fun j u hj => (World.cell?_of_block (heap_alloc_old _ _ hbl)).trans (hr9 j u hj)
    have HST := hide hst
    clear hx hv hr9 hst HAT hm
    go_enter Try.func40, Try.ntmps40
    go_wp2_with (first
      | (refine wpList_load_mid (by rfl) 33 _ (by rfl) b (off + m * 10) (by first | rfl | simp) _ _ RX.out Try.underlying33 (by rfl) (by kernel_rfl) ?_)
      | (refine wpList_store_box (by rfl) 33 _ _ (by rfl) w.heap.size 0 (o.cells s).toArray (by rfl) (by rfl) 33 zOp (heap_alloc_new w _) (by kernel_rfl) (by exact Nat.le_refl 10) (by exact o.one (FlatAt.oneCell HST.out)) ?_; intro w2 hb2 hg2))
    have hb4 : w2.heap[w.heap.size]? = some (.cells (o.cells s).toArray 33 (0, 0)) := by simpa [putAt, zOp, OpD.cells] using hb2
    have hbe : Below w.heap.size w w2 := ((Below.refl _ _).alloc (Nat.le_refl _) _).grown hg2 (by simp) (fun k hk => by have := Option.some.inj hk; omega)
    refine bodyPost_ret (results_box2 Try.results40 _ _ w.heap.size 33 _ _ (by rfl) hb4 Try.underlying33 (by rfl) (by kernel_rfl) _ (by rfl)) (by rfl) ?_
    rw [HR.out]
    exact ⟨⟨s, rfl, HST.out.kept (Kept.of_below hbe _)⟩, hbe⟩

/- The document's log: Commit, Replace. -/

theorem exec_part2 {op : Oper} {a : Act} {w : World} (x y z : Operand) (ho : op.op = .slice 39 x (some y) (some z) none) (A : Option Addr) (n c lo hi : Nat) (v : Value) (hv : sliced A lo hi c 10 = v) (hx : a.eval x = .slice A n c) (hy : a.eval y = .int .i64 (lo : Int)) (hz : a.eval z = .int .i64 (hi : Int)) (h1 : lo ≤ hi) (h2 : hi ≤ c) :
    (execOp a.eval op).run Try.prog w = .ok (.value v) w := by
  rw [← hv]
  exact exec_part x y z ho A n c lo hi hx hy hz h1 h2
theorem pre_keptL (F : Nat → Prop) : Pre (fun a b => Kept F a b) := ⟨fun w => Kept.refl F w, fun h k => h.trans k⟩
theorem RLog.cellsK {F : Nat → Prop} {w w' : World} {r c N : Nat} {L : List OpD} {v : Value} {ps : List (OpD × Value)} (h : RLog F w r L c v ps) (hk : Kept (fun i => i < N) w w') (hr : r < N) :
    w'.cell? ⟨r, 0, none⟩ = some v ∧ w'.cell? ⟨r, 1, none⟩ = some (.int .i64 (c : Int)) := by
  have hb := hk.2 r h.lt hr
  exact ⟨(World.cell?_of_block hb).trans h.cells.1, (World.cell?_of_block hb).trans h.cells.2.1⟩
theorem emp_grown {N g : Nat} {w w' : World} (hg : w.grownBy w' (Value.ownBlock (.slice (some ⟨g, 0, none⟩) 0 0))) (h : N ≤ g) : Kept (fun i => i < N) w w' :=
  Kept.of_grown hg (fun q e hq => by
    have e2 : g = q := by simpa [Value.ownBlock] using e
    have : q < N := hq
    omega)

set_option maxHeartbeats 4000000 in
set_option maxRecDepth 100000 in
theorem refcommit_any {F : Nat → Prop} {r c : Nat} {L : List OpD} (n : Int) (w : World) (h : RAt F w r L c) :
    Calls Try.prog 32 #[.pointer (some ⟨r, 0, none⟩), .int .i64 n] w fun e w' => RTells F ((L.take (comTo c L.length n)).drop c) e w' ∧ RAt F w' r L (comTo c L.length n) ∧ w.grownBy w' (some r) := by
  obtain ⟨v, ps, h⟩ := h
  obtain ⟨A, cp, rfl, hn1, hn2⟩ := h.shape
  have hlen := h.len
  have hcom := h.com
  have hpl : ps.length = L.length := by rw [← h.says, List.length_map]
  obtain ⟨n0, hn0⟩ : ∃ n0, L.length = n0 := ⟨_, rfl⟩
  rw [hn0] at h hn1 hlen hcom hpl
  obtain ⟨c0, c1, f0, f1⟩ := h.cells
  have hr := h.lt
  have H := hide h
  have HN := hide hn0
  have HPL := hide hpl
  unfold maxLen at hn2
  clear h hn0 hpl
  rw [HN.out]
  by_cases hbig : (n0 : Int) < n
  · have hbig' : decide ((n0 : Int) < n) = true := by simpa using hbig
    have HF : Hid (comTo c n0 n = n0) := by show _ = _; unfold comTo; omega
    clear hbig
    by_cases hc : n0 ≤ c
    · have hc' : decide (n0 ≤ c) = true := by simpa using hc
      have hcc : c = n0 := by omega
      subst hcc
      go_enter Try.func32, Try.ntmps32
      go_wp2
      go_ret
      rw [HF.out, List.drop_eq_nil_of_le (by simp; omega)]
      exact ⟨rtells_nil, ⟨_, _, H.out⟩, World.grownBy.refl w _⟩
    · have hc' : decide (n0 ≤ c) = false := by simpa using hc
      have ht1 : c ≤ n0 := by omega
      clear hc
      have HD := hide (H.out.later (Below.refl w.heap.size w).drew)
      obtain ⟨vs, hvs⟩ : ∃ vs, sliced A c n0 cp 10 = vs := ⟨_, rfl⟩
      obtain ⟨qs, hqs⟩ : ∃ qs, qs = (ps.take n0).drop c := ⟨_, rfl⟩
      have HQ : Hid (∀ w', Below w.heap.size w w' → OpsIn F w' vs qs) := fun w' hb => by
        have h1 := OpsIn.part (H.out.later hb).ops (lo := c) (hi := n0) (by omega) (by have := HPL.out; omega)
        rw [hvs, ← hqs] at h1
        exact h1
      have HQS := hide hqs
      have HQL : Hid (qs.length ≤ 2000) := by show _ ≤ _; rw [hqs, List.length_drop, List.length_take, HPL.out]; omega
      have HVS := hide hvs
      clear hvs hqs
      go_enter Try.func32, Try.ntmps32
      go_wp2
      refine wp_region_R (R := fun a b => Kept (fun i => i < w.heap.size) a b) (by kernel_rfl) ?_
      refine wpAnyR_take (pre_keptL (fun i => i < w.heap.size)) (i := 1) (d := some 25) (v := ?vaca1) rfl rfl (by kernel_rfl) (by kernel_rfl) (by kernel_rfl) (fun _ _ _ h => h) (by rfl) ?yaca1 ?_
      case yaca1 => (intro w' hw'; go_simp; try (with_reducible rfl))
      simp only [Act.put]; try simp only [List.setIfInBounds_toArray]; try simp only [List.set_cons_zero, List.set_cons_succ]
      refine wpAnyR_take (pre_keptL (fun i => i < w.heap.size)) (i := 2) (d := some 26) (v := ?vaca2) rfl rfl (by kernel_rfl) (by kernel_rfl) (by kernel_rfl) (fun _ _ _ h => h) (by rfl) ?yaca2 ?_
      case yaca2 => (intro w' hw'; go_simp; try (with_reducible rfl))
      simp only [Act.put]; try simp only [List.setIfInBounds_toArray]; try simp only [List.set_cons_zero, List.set_cons_succ]
      refine wpAnyR_take (pre_keptL (fun i => i < w.heap.size)) (i := 3) (d := some 27) (v := ?vaca3) rfl rfl (by kernel_rfl) (by kernel_rfl) (by kernel_rfl) (fun _ _ _ h => h) (by rfl) ?yaca3 ?_
      case yaca3 => (intro w' hw'; go_simp; try (with_reducible rfl))
      simp only [Act.put]; try simp only [List.setIfInBounds_toArray]; try simp only [List.set_cons_zero, List.set_cons_succ]
      refine wpAnyR_take (pre_keptL (fun i => i < w.heap.size)) (i := 4) (d := some 28) (v := .slice A n0 cp) rfl rfl (by kernel_rfl) (by kernel_rfl) (by kernel_rfl) (fun _ _ _ h => h) (by rfl) ?yaca4 ?_
      case yaca4 => (intro w' hw'; obtain ⟨d0, d1⟩ := HD.out.cellsK hw' hr; go_simp; try (with_reducible rfl))
      simp only [Act.put]; try simp only [List.setIfInBounds_toArray]; try simp only [List.set_cons_zero, List.set_cons_succ]
      refine wpAnyR_take (pre_keptL (fun i => i < w.heap.size)) (i := 5) (d := some 29) (v := ?vaca5) rfl rfl (by kernel_rfl) (by kernel_rfl) (by kernel_rfl) (fun _ _ _ h => h) (by rfl) ?yaca5 ?_
      case yaca5 => (intro w' hw'; go_simp; try (with_reducible rfl))
      simp only [Act.put]; try simp only [List.setIfInBounds_toArray]; try simp only [List.set_cons_zero, List.set_cons_succ]
      refine wpAnyR_take (pre_keptL (fun i => i < w.heap.size)) (i := 6) (d := some 30) (v := ?vaca6) rfl rfl (by kernel_rfl) (by kernel_rfl) (by kernel_rfl) (fun _ _ _ h => h) (by rfl) ?yaca6 ?_
      case yaca6 => (intro w' hw'; go_simp; try (with_reducible rfl))
      simp only [Act.put]; try simp only [List.setIfInBounds_toArray]; try simp only [List.set_cons_zero, List.set_cons_succ]
      refine wpAnyR_take (pre_keptL (fun i => i < w.heap.size)) (i := 7) (d := some 31) (v := ?vaca7) rfl rfl (by kernel_rfl) (by kernel_rfl) (by kernel_rfl) (fun _ _ _ h => h) (by rfl) ?yaca7 ?_
      case yaca7 => (intro w' hw'; go_simp; try (with_reducible rfl))
      simp only [Act.put]; try simp only [List.setIfInBounds_toArray]; try simp only [List.set_cons_zero, List.set_cons_succ]
      refine wpAnyR_take (pre_keptL (fun i => i < w.heap.size)) (i := 8) (d := some 32) (v := .int .i64 (c : Int)) rfl rfl (by kernel_rfl) (by kernel_rfl) (by kernel_rfl) (fun _ _ _ h => h) (by rfl) ?yaca8 ?_
      case yaca8 => (intro w' hw'; obtain ⟨d0, d1⟩ := HD.out.cellsK hw' hr; go_simp; try (with_reducible rfl))
      simp only [Act.put]; try simp only [List.setIfInBounds_toArray]; try simp only [List.set_cons_zero, List.set_cons_succ]
      refine wpAnyR_take (pre_keptL (fun i => i < w.heap.size)) (i := 9) (d := some 33) (v := ?vaca9) rfl rfl (by kernel_rfl) (by kernel_rfl) (by kernel_rfl) (fun _ _ _ h => h) (by rfl) ?yaca9 ?_
      case yaca9 => (intro w' hw'; go_simp; try (with_reducible rfl))
      simp only [Act.put]; try simp only [List.setIfInBounds_toArray]; try simp only [List.set_cons_zero, List.set_cons_succ]
      refine wpAnyR_take (pre_keptL (fun i => i < w.heap.size)) (i := 10) (d := some 34) (v := vs) rfl rfl (by kernel_rfl) (by kernel_rfl) (by kernel_rfl) (fun _ _ _ h => h) (by rfl) ?yaca10 ?_
      case yaca10 => (intro w' hw'; exact exec_part2 _ _ _ (by rfl) A n0 cp c n0 vs HVS.out (by rfl) (by rfl) (by rfl) (by omega) (by omega))
      simp only [Act.put]; try simp only [List.setIfInBounds_toArray]; try simp only [List.set_cons_zero, List.set_cons_succ]
      refine wpAnyR_only (i := 0) rfl (by kernel_rfl) (by rfl) fun K hK => ?_
      refine wp_empty (by rfl) ?_
      intro w1 he
      have HE := hide he
      have HB1 : Hid (Below w.heap.size w w1) := (Below.refl _ _).drew.trans he.2.1
      refine hK.out _ _ (Kept.of_below he.2.1 _) ?_
      clear he
      clear hK K
      try (simp only [Act.put]; try simp only [List.setIfInBounds_toArray]; try simp only [List.set_cons_zero, List.set_cons_succ])
      refine wpAnyR_only (i := 11) rfl (by kernel_rfl) (by rfl) fun K hK => ?_
      refine wp_append_ops (B := w.heap.size) (qs := []) (rs := qs) (F := F) (G := F) _ _ (by rfl) (by rfl) HE.out.1 (by simp) (by rfl) (HQ.out _ HB1.out) (by have := HQL.out; simp; omega) HB1.out.size ?_
      intro ts2 A2 cp2 w2 e2 ho2 hg2 hc2
      have HO2 := hide ho2
      have HB2 : Hid (Below w.heap.size w w2) := own_grown HB1.out HE.out.1 hg2
      have hk2 : Kept (fun i => i < w.heap.size) w1 w2 := emp_grown hg2 (Nat.le_refl _)
      refine hK.out _ _ hk2 ?_
      clear ho2 hg2 hk2
      clear hK K
      try (simp only [Act.put]; try simp only [List.setIfInBounds_toArray]; try simp only [List.set_cons_zero, List.set_cons_succ])
      refine wpAnyR_take (pre_keptL (fun i => i < w.heap.size)) (i := 12) (d := some 5) (v := ?vaca12) rfl rfl (by kernel_rfl) (by kernel_rfl) (by kernel_rfl) (fun _ _ _ h => h) (by rfl) ?yaca12 ?_
      case yaca12 => (intro w' hw'; go_simp; try (with_reducible rfl))
      simp only [Act.put]; try simp only [List.setIfInBounds_toArray]; try simp only [List.set_cons_zero, List.set_cons_succ]
      refine wpAnyR_done (by kernel_rfl) ?_ _
      obtain ⟨c0, c1, f0, f1⟩ := (H.out.later HB2.out).cells
      go_wp2
      go_ret
      rw [HF.out]
      obtain ⟨k1, k2⟩ := H.out.count HB2.out (d := n0) (by have := HN.out; omega)
      refine ⟨?_, ⟨_, _, k1⟩, k2⟩
      have hkr : Kept F w2 (w2.setCell ⟨r, 1, none⟩ (.int .i64 (n0 : Int))) := Kept.of_grown (grown_set w2 r 1 _) (fun g e hf => H.out.off (by rw [Option.some.inj e]; exact hf))
      have ho3 : OpsIn F (w2.setCell ⟨r, 1, none⟩ (.int .i64 (n0 : Int))) (.slice A2 ts2.length cp2) ts2 := (own_ops HO2.out H.out.new (fun p hp => by
        rw [e2.out, List.nil_append] at hp
        exact (HQ.out _ HB2.out).2 p hp)).kept hkr
      have hM : ts2.map (·.1) = (L.take n0).drop c := by rw [e2.out, List.nil_append, HQS.out, List.map_drop, List.map_take, H.out.says]
      rw [← hM]
      exact ⟨A2, cp2, by rw [List.length_map]; rfl, ts2, rfl, by rw [List.length_map]; exact ho3⟩
  · have hbig' : decide ((n0 : Int) < n) = false := by simpa using hbig
    by_cases hc : n ≤ (c : Int)
    · have hc' : decide (n ≤ (c : Int)) = true := by simpa using hc
      have HF : Hid (comTo c n0 n = c) := by show _ = _; unfold comTo; omega
      clear hbig hc
      go_enter Try.func32, Try.ntmps32
      go_wp2
      go_ret
      rw [HF.out, List.drop_eq_nil_of_le (by simp; omega)]
      exact ⟨rtells_nil, ⟨_, _, H.out⟩, World.grownBy.refl w _⟩
    · obtain ⟨t0, rfl⟩ : ∃ t0 : Nat, n = (t0 : Int) := ⟨n.toNat, by omega⟩
      have hb2 : decide (n0 < t0) = false := by simp; omega
      have hc2 : decide (t0 ≤ c) = false := by simp; omega
      have ht1 : c ≤ t0 := by omega
      have ht2 : t0 ≤ n0 := by omega
      have HF : Hid (comTo c n0 (t0 : Int) = t0) := by show _ = _; unfold comTo; omega
      clear hbig hbig' hc
      have HD := hide (H.out.later (Below.refl w.heap.size w).drew)
      obtain ⟨vs, hvs⟩ : ∃ vs, sliced A c t0 cp 10 = vs := ⟨_, rfl⟩
      obtain ⟨qs, hqs⟩ : ∃ qs, qs = (ps.take t0).drop c := ⟨_, rfl⟩
      have HQ : Hid (∀ w', Below w.heap.size w w' → OpsIn F w' vs qs) := fun w' hb => by
        have h1 := OpsIn.part (H.out.later hb).ops (lo := c) (hi := t0) (by omega) (by have := HPL.out; omega)
        rw [hvs, ← hqs] at h1
        exact h1
      have HQS := hide hqs
      have HQL : Hid (qs.length ≤ 2000) := by show _ ≤ _; rw [hqs, List.length_drop, List.length_take, HPL.out]; omega
      have HVS := hide hvs
      clear hvs hqs
      go_enter Try.func32, Try.ntmps32
      go_wp2
      refine wp_region_R (R := fun a b => Kept (fun i => i < w.heap.size) a b) (by kernel_rfl) ?_
      refine wpAnyR_take (pre_keptL (fun i => i < w.heap.size)) (i := 1) (d := some 25) (v := ?vacb1) rfl rfl (by kernel_rfl) (by kernel_rfl) (by kernel_rfl) (fun _ _ _ h => h) (by rfl) ?yacb1 ?_
      case yacb1 => (intro w' hw'; go_simp; try (with_reducible rfl))
      simp only [Act.put]; try simp only [List.setIfInBounds_toArray]; try simp only [List.set_cons_zero, List.set_cons_succ]
      refine wpAnyR_take (pre_keptL (fun i => i < w.heap.size)) (i := 2) (d := some 26) (v := ?vacb2) rfl rfl (by kernel_rfl) (by kernel_rfl) (by kernel_rfl) (fun _ _ _ h => h) (by rfl) ?yacb2 ?_
      case yacb2 => (intro w' hw'; go_simp; try (with_reducible rfl))
      simp only [Act.put]; try simp only [List.setIfInBounds_toArray]; try simp only [List.set_cons_zero, List.set_cons_succ]
      refine wpAnyR_take (pre_keptL (fun i => i < w.heap.size)) (i := 3) (d := some 27) (v := ?vacb3) rfl rfl (by kernel_rfl) (by kernel_rfl) (by kernel_rfl) (fun _ _ _ h => h) (by rfl) ?yacb3 ?_
      case yacb3 => (intro w' hw'; go_simp; try (with_reducible rfl))
      simp only [Act.put]; try simp only [List.setIfInBounds_toArray]; try simp only [List.set_cons_zero, List.set_cons_succ]
      refine wpAnyR_take (pre_keptL (fun i => i < w.heap.size)) (i := 4) (d := some 28) (v := .slice A n0 cp) rfl rfl (by kernel_rfl) (by kernel_rfl) (by kernel_rfl) (fun _ _ _ h => h) (by rfl) ?yacb4 ?_
      case yacb4 => (intro w' hw'; obtain ⟨d0, d1⟩ := HD.out.cellsK hw' hr; go_simp; try (with_reducible rfl))
      simp only [Act.put]; try simp only [List.setIfInBounds_toArray]; try simp only [List.set_cons_zero, List.set_cons_succ]
      refine wpAnyR_take (pre_keptL (fun i => i < w.heap.size)) (i := 5) (d := some 29) (v := ?vacb5) rfl rfl (by kernel_rfl) (by kernel_rfl) (by kernel_rfl) (fun _ _ _ h => h) (by rfl) ?yacb5 ?_
      case yacb5 => (intro w' hw'; go_simp; try (with_reducible rfl))
      simp only [Act.put]; try simp only [List.setIfInBounds_toArray]; try simp only [List.set_cons_zero, List.set_cons_succ]
      refine wpAnyR_take (pre_keptL (fun i => i < w.heap.size)) (i := 6) (d := some 30) (v := ?vacb6) rfl rfl (by kernel_rfl) (by kernel_rfl) (by kernel_rfl) (fun _ _ _ h => h) (by rfl) ?yacb6 ?_
      case yacb6 => (intro w' hw'; go_simp; try (with_reducible rfl))
      simp only [Act.put]; try simp only [List.setIfInBounds_toArray]; try simp only [List.set_cons_zero, List.set_cons_succ]
      refine wpAnyR_take (pre_keptL (fun i => i < w.heap.size)) (i := 7) (d := some 31) (v := ?vacb7) rfl rfl (by kernel_rfl) (by kernel_rfl) (by kernel_rfl) (fun _ _ _ h => h) (by rfl) ?yacb7 ?_
      case yacb7 => (intro w' hw'; go_simp; try (with_reducible rfl))
      simp only [Act.put]; try simp only [List.setIfInBounds_toArray]; try simp only [List.set_cons_zero, List.set_cons_succ]
      refine wpAnyR_take (pre_keptL (fun i => i < w.heap.size)) (i := 8) (d := some 32) (v := .int .i64 (c : Int)) rfl rfl (by kernel_rfl) (by kernel_rfl) (by kernel_rfl) (fun _ _ _ h => h) (by rfl) ?yacb8 ?_
      case yacb8 => (intro w' hw'; obtain ⟨d0, d1⟩ := HD.out.cellsK hw' hr; go_simp; try (with_reducible rfl))
      simp only [Act.put]; try simp only [List.setIfInBounds_toArray]; try simp only [List.set_cons_zero, List.set_cons_succ]
      refine wpAnyR_take (pre_keptL (fun i => i < w.heap.size)) (i := 9) (d := some 33) (v := ?vacb9) rfl rfl (by kernel_rfl) (by kernel_rfl) (by kernel_rfl) (fun _ _ _ h => h) (by rfl) ?yacb9 ?_
      case yacb9 => (intro w' hw'; go_simp; try (with_reducible rfl))
      simp only [Act.put]; try simp only [List.setIfInBounds_toArray]; try simp only [List.set_cons_zero, List.set_cons_succ]
      refine wpAnyR_take (pre_keptL (fun i => i < w.heap.size)) (i := 10) (d := some 34) (v := vs) rfl rfl (by kernel_rfl) (by kernel_rfl) (by kernel_rfl) (fun _ _ _ h => h) (by rfl) ?yacb10 ?_
      case yacb10 => (intro w' hw'; exact exec_part2 _ _ _ (by rfl) A n0 cp c t0 vs HVS.out (by rfl) (by rfl) (by rfl) (by omega) (by omega))
      simp only [Act.put]; try simp only [List.setIfInBounds_toArray]; try simp only [List.set_cons_zero, List.set_cons_succ]
      refine wpAnyR_only (i := 0) rfl (by kernel_rfl) (by rfl) fun K hK => ?_
      refine wp_empty (by rfl) ?_
      intro w1 he
      have HE := hide he
      have HB1 : Hid (Below w.heap.size w w1) := (Below.refl _ _).drew.trans he.2.1
      refine hK.out _ _ (Kept.of_below he.2.1 _) ?_
      clear he
      clear hK K
      try (simp only [Act.put]; try simp only [List.setIfInBounds_toArray]; try simp only [List.set_cons_zero, List.set_cons_succ])
      refine wpAnyR_only (i := 11) rfl (by kernel_rfl) (by rfl) fun K hK => ?_
      refine wp_append_ops (B := w.heap.size) (qs := []) (rs := qs) (F := F) (G := F) _ _ (by rfl) (by rfl) HE.out.1 (by simp) (by rfl) (HQ.out _ HB1.out) (by have := HQL.out; simp; omega) HB1.out.size ?_
      intro ts2 A2 cp2 w2 e2 ho2 hg2 hc2
      have HO2 := hide ho2
      have HB2 : Hid (Below w.heap.size w w2) := own_grown HB1.out HE.out.1 hg2
      have hk2 : Kept (fun i => i < w.heap.size) w1 w2 := emp_grown hg2 (Nat.le_refl _)
      refine hK.out _ _ hk2 ?_
      clear ho2 hg2 hk2
      clear hK K
      try (simp only [Act.put]; try simp only [List.setIfInBounds_toArray]; try simp only [List.set_cons_zero, List.set_cons_succ])
      refine wpAnyR_take (pre_keptL (fun i => i < w.heap.size)) (i := 12) (d := some 5) (v := ?vacb12) rfl rfl (by kernel_rfl) (by kernel_rfl) (by kernel_rfl) (fun _ _ _ h => h) (by rfl) ?yacb12 ?_
      case yacb12 => (intro w' hw'; go_simp; try (with_reducible rfl))
      simp only [Act.put]; try simp only [List.setIfInBounds_toArray]; try simp only [List.set_cons_zero, List.set_cons_succ]
      refine wpAnyR_done (by kernel_rfl) ?_ _
      obtain ⟨c0, c1, f0, f1⟩ := (H.out.later HB2.out).cells
      go_wp2
      go_ret
      rw [HF.out]
      obtain ⟨k1, k2⟩ := H.out.count HB2.out (d := t0) (by have := HN.out; omega)
      refine ⟨?_, ⟨_, _, k1⟩, k2⟩
      have hkr : Kept F w2 (w2.setCell ⟨r, 1, none⟩ (.int .i64 (t0 : Int))) := Kept.of_grown (grown_set w2 r 1 _) (fun g e hf => H.out.off (by rw [Option.some.inj e]; exact hf))
      have ho3 : OpsIn F (w2.setCell ⟨r, 1, none⟩ (.int .i64 (t0 : Int))) (.slice A2 ts2.length cp2) ts2 := (own_ops HO2.out H.out.new (fun p hp => by
        rw [e2.out, List.nil_append] at hp
        exact (HQ.out _ HB2.out).2 p hp)).kept hkr
      have hM : ts2.map (·.1) = (L.take t0).drop c := by rw [e2.out, List.nil_append, HQS.out, List.map_drop, List.map_take, H.out.says]
      rw [← hM]
      exact ⟨A2, cp2, by rw [List.length_map]; rfl, ts2, rfl, by rw [List.length_map]; exact ho3⟩

/- The document's log: Replace, Add. -/

theorem pre_less (L M : List OpD) {c : Nat} (hc : c ≤ L.length) : (pre (L.take c) M < c) ↔ M.take c ≠ L.take c := by
  have h := @pre_whole (L.take c) M
  rw [List.length_take, Nat.min_eq_left hc] at h
  rw [← Nat.not_le, h]

/-- What Replace of the document's says and leaves. -/
def LeftR (F : Nat → Prop) (r : Nat) (x : List OpD × Nat × Int) (w : World) (e : Ending) (w' : World) : Prop := e = .returned (.int .i64 x.2.2) ∧ RAt F w' r x.1 x.2.1 ∧ w.grownBy w' (some r)
set_option maxHeartbeats 4000000 in
set_option maxRecDepth 100000 in
theorem refreplace_any {F : Nat → Prop} {r c : Nat} {L : List OpD} (n : Int) (v2 : Value) (M : List OpD) (w : World) (h : RAt F w r L c) (hM : OpsAt F w v2 M) :
    Calls Try.prog 38 #[.pointer (some ⟨r, 0, none⟩), v2, .int .i64 n] w (LeftR F r (replR L c M n) w) := by
  obtain ⟨v, ps, h⟩ := h
  obtain ⟨A, cp, rfl, hn1, hn2⟩ := h.shape
  have hlen := h.len
  have hcom := h.com
  have hpl : ps.length = L.length := by rw [← h.says, List.length_map]
  obtain ⟨n0, hn0⟩ : ∃ n0, L.length = n0 := ⟨_, rfl⟩
  rw [hn0] at h hn1 hlen hcom hpl
  obtain ⟨c0, c1, f0, f1⟩ := h.cells
  have hr := h.lt
  have H := hide h
  have HN := hide hn0
  have HPL := hide hpl
  unfold maxLen at hn2
  clear h hn0 hpl
  obtain ⟨ms, hms, hMo⟩ := hM
  obtain ⟨A9, cp9, rfl, hk1, hk2, _⟩ := FlatAt.shape hMo.1
  obtain ⟨k0, hk0⟩ : ∃ k0, ms.length = k0 := ⟨_, rfl⟩
  have hML : M.length = k0 := by rw [← hms, List.length_map, hk0]
  rw [hk0] at hk1 hMo ⊢
  have HM : Hid (∀ w', Below w.heap.size w w' → OpsIn F w' (.slice A9 k0 cp9) ms) := fun w' hb => hMo.kept (Kept.of_below hb _)
  have HMA : Hid (∀ w', Below w.heap.size w w' → OpsAt F w' (.slice A9 k0 cp9) M) := fun w' hb => ⟨ms, hms, HM.out w' hb⟩
  have HLC : Hid (∀ w', Below w.heap.size w w' → OpsAt F w' (.slice A c cp) (L.take c)) := fun w' hb => ⟨ps.take c, by rw [List.map_take, H.out.says], OpsIn.first (H.out.later hb).ops (by have := HPL.out; omega)⟩
  obtain ⟨p0, hp0⟩ : ∃ p0, pre (L.take c) M = p0 := ⟨_, rfl⟩
  have HPRE := hide hp0
  have hpl0 : p0 < c ↔ M.take c ≠ L.take c := by rw [← hp0]; exact pre_less L M (by have := HN.out; omega)
  have HK0 := hide hk0
  have HMS := hide hms
  have HML := hide hML
  clear hMo hk0 hms hML hk2 hp0
  have hj : replR L c M n = if 2000 < k0 then (L, c, 7) else if (n < c ∨ (k0 : Int) < n) ∨ M.take c ≠ L.take c then (L, c, 2) else (M, n.toNat, 0) := by unfold replR; rw [HML.out]
  have HJ := hide hj
  have HPL0 := hide hpl0
  clear hj hpl0
  by_cases hf : 2000 < k0
  · have HR : Hid (replR L c M n = (L, c, 7)) := by show _ = _; rw [HJ.out, if_pos hf]
    have hf' : decide (2000 < k0) = true := by simpa using hf
    have hf2 : decide ((2000 : Int) < (k0 : Int)) = true := by simp; omega
    clear HJ
    go_enter Try.func38, Try.ntmps38
    go_wp2
    go_ret
    unfold LeftR
    rw [HR.out]
    exact ⟨rfl, ⟨_, _, H.out⟩, World.grownBy.refl w _⟩
  have hf2 : decide ((2000 : Int) < (k0 : Int)) = false := by simp; omega
  have hk20 : k0 ≤ 2000 := by omega
  by_cases hlo : n < (c : Int)
  · have HR : Hid (replR L c M n = (L, c, 2)) := by show _ = _; rw [HJ.out, if_neg hf, if_pos (.inl (.inl hlo))]
    have DLO : Hid (decide (n < (c : Int)) = true) := by show _ = _; simpa using hlo
    clear HJ hf hlo
    go_enter Try.func38, Try.ntmps38
    go_wp2
    refine wp_region_L (by kernel_rfl) ?_
    refine wpAnyL_take (i := 0) (d := some 12) (v := ?vapa0) rfl rfl (by kernel_rfl) (by kernel_rfl) (by kernel_rfl) (fun _ _ _ h => h) (by rfl) ?yapa0 ?_
    case yapa0 => (intro w' hw'; go_simp; try (with_reducible rfl))
    simp only [Act.put]; try simp only [List.setIfInBounds_toArray]; try simp only [List.set_cons_zero, List.set_cons_succ]
    refine wpAnyL_take (i := 1) (d := some 13) (v := ?vapa1) rfl rfl (by kernel_rfl) (by kernel_rfl) (by kernel_rfl) (fun _ _ _ h => h) (by rfl) ?yapa1 ?_
    case yapa1 => (intro w' hw'; go_simp; try (with_reducible rfl))
    simp only [Act.put]; try simp only [List.setIfInBounds_toArray]; try simp only [List.set_cons_zero, List.set_cons_succ]
    refine wpAnyL_take (i := 2) (d := some 14) (v := ?vapa2) rfl rfl (by kernel_rfl) (by kernel_rfl) (by kernel_rfl) (fun _ _ _ h => h) (by rfl) ?yapa2 ?_
    case yapa2 => (intro w' hw'; go_simp; try (with_reducible rfl))
    simp only [Act.put]; try simp only [List.setIfInBounds_toArray]; try simp only [List.set_cons_zero, List.set_cons_succ]
    refine wpAnyL_take (i := 3) (d := some 15) (v := ?vapa3) rfl rfl (by kernel_rfl) (by kernel_rfl) (by kernel_rfl) (fun _ _ _ h => h) (by rfl) ?yapa3 ?_
    case yapa3 => (intro w' hw'; go_simp; try (with_reducible rfl))
    simp only [Act.put]; try simp only [List.setIfInBounds_toArray]; try simp only [List.set_cons_zero, List.set_cons_succ]
    refine wpAnyL_take (i := 4) (d := some 16) (v := ?vapa4) rfl rfl (by kernel_rfl) (by kernel_rfl) (by kernel_rfl) (fun _ _ _ h => h) (by rfl) ?yapa4 ?_
    case yapa4 => (intro w' hw'; obtain ⟨c0, c1, f0, f1⟩ := (H.out.later ((Below.refl w.heap.size w).drew.trans hw')).cells; go_simp; try (with_reducible rfl))
    simp only [Act.put]; try simp only [List.setIfInBounds_toArray]; try simp only [List.set_cons_zero, List.set_cons_succ]
    refine wpAnyL_take (i := 5) (d := some 17) (v := .bool true) rfl rfl (by kernel_rfl) (by kernel_rfl) (by kernel_rfl) (fun _ _ _ h => h) (by rfl) ?yapa5 ?_
    case yapa5 => (intro w' hw'; have hb := DLO.out; go_simp; try (with_reducible rfl))
    simp only [Act.put]; try simp only [List.setIfInBounds_toArray]; try simp only [List.set_cons_zero, List.set_cons_succ]
    refine wpAnyL_take (i := 6) (d := some 18) (v := ?vapa6) rfl rfl (by kernel_rfl) (by kernel_rfl) (by kernel_rfl) (fun _ _ _ h => h) (by rfl) ?yapa6 ?_
    case yapa6 => (intro w' hw'; go_simp; try (with_reducible rfl))
    simp only [Act.put]; try simp only [List.setIfInBounds_toArray]; try simp only [List.set_cons_zero, List.set_cons_succ]
    refine wpAnyL_pass (i := 7) (d := some 19) rfl rfl (by kernel_rfl) (by kernel_rfl) (by kernel_rfl) (fun _ _ _ h => h) (by rfl) ?_
    try (simp only [Act.put]; try simp only [List.setIfInBounds_toArray]; try simp only [List.set_cons_zero, List.set_cons_succ])
    refine wpAnyL_pass (i := 8) (d := some 20) rfl rfl (by kernel_rfl) (by kernel_rfl) (by kernel_rfl) (fun _ _ _ h => h) (by rfl) ?_
    try (simp only [Act.put]; try simp only [List.setIfInBounds_toArray]; try simp only [List.set_cons_zero, List.set_cons_succ])
    refine wpAnyL_pass (i := 9) (d := some 21) rfl rfl (by kernel_rfl) (by kernel_rfl) (by kernel_rfl) (fun _ _ _ h => h) (by rfl) ?_
    try (simp only [Act.put]; try simp only [List.setIfInBounds_toArray]; try simp only [List.set_cons_zero, List.set_cons_succ])
    refine wpAnyL_pass (i := 10) (d := some 22) rfl rfl (by kernel_rfl) (by kernel_rfl) (by kernel_rfl) (fun _ _ _ h => h) (by rfl) ?_
    try (simp only [Act.put]; try simp only [List.setIfInBounds_toArray]; try simp only [List.set_cons_zero, List.set_cons_succ])
    refine wpAnyL_take (i := 11) (d := some 23) (v := ?vapa11) rfl rfl (by kernel_rfl) (by kernel_rfl) (by kernel_rfl) (fun _ _ _ h => h) (by rfl) ?yapa11 ?_
    case yapa11 => (intro w' hw'; go_simp; try (with_reducible rfl))
    simp only [Act.put]; try simp only [List.setIfInBounds_toArray]; try simp only [List.set_cons_zero, List.set_cons_succ]
    refine wpAnyL_take (i := 12) (d := some 24) (v := ?vapa12) rfl rfl (by kernel_rfl) (by kernel_rfl) (by kernel_rfl) (fun _ _ _ h => h) (by rfl) ?yapa12 ?_
    case yapa12 => (intro w' hw'; go_simp; try (with_reducible rfl))
    simp only [Act.put]; try simp only [List.setIfInBounds_toArray]; try simp only [List.set_cons_zero, List.set_cons_succ]
    refine wpAnyL_pass (i := 13) (d := some 25) rfl rfl (by kernel_rfl) (by kernel_rfl) (by kernel_rfl) (fun _ _ _ h => h) (by rfl) ?_
    try (simp only [Act.put]; try simp only [List.setIfInBounds_toArray]; try simp only [List.set_cons_zero, List.set_cons_succ])
    refine wpAnyL_pass (i := 14) (d := some 26) rfl rfl (by kernel_rfl) (by kernel_rfl) (by kernel_rfl) (fun _ _ _ h => h) (by rfl) ?_
    try (simp only [Act.put]; try simp only [List.setIfInBounds_toArray]; try simp only [List.set_cons_zero, List.set_cons_succ])
    refine wpAnyL_pass (i := 15) (d := some 27) rfl rfl (by kernel_rfl) (by kernel_rfl) (by kernel_rfl) (fun _ _ _ h => h) (by rfl) ?_
    try (simp only [Act.put]; try simp only [List.setIfInBounds_toArray]; try simp only [List.set_cons_zero, List.set_cons_succ])
    refine wpAnyL_pass (i := 16) (d := some 28) rfl rfl (by kernel_rfl) (by kernel_rfl) (by kernel_rfl) (fun _ _ _ h => h) (by rfl) ?_
    try (simp only [Act.put]; try simp only [List.setIfInBounds_toArray]; try simp only [List.set_cons_zero, List.set_cons_succ])
    refine wpAnyL_pass (i := 17) (d := some 29) rfl rfl (by kernel_rfl) (by kernel_rfl) (by kernel_rfl) (fun _ _ _ h => h) (by rfl) ?_
    try (simp only [Act.put]; try simp only [List.setIfInBounds_toArray]; try simp only [List.set_cons_zero, List.set_cons_succ])
    refine wpAnyL_pass (i := 18) (d := some 30) rfl rfl (by kernel_rfl) (by kernel_rfl) (by kernel_rfl) (fun _ _ _ h => h) (by rfl) ?_
    try (simp only [Act.put]; try simp only [List.setIfInBounds_toArray]; try simp only [List.set_cons_zero, List.set_cons_succ])
    refine wpAnyL_pass (i := 19) (d := some 31) rfl rfl (by kernel_rfl) (by kernel_rfl) (by kernel_rfl) (fun _ _ _ h => h) (by rfl) ?_
    try (simp only [Act.put]; try simp only [List.setIfInBounds_toArray]; try simp only [List.set_cons_zero, List.set_cons_succ])
    refine wpAnyL_pass (i := 20) (d := some 32) rfl rfl (by kernel_rfl) (by kernel_rfl) (by kernel_rfl) (fun _ _ _ h => h) (by rfl) ?_
    try (simp only [Act.put]; try simp only [List.setIfInBounds_toArray]; try simp only [List.set_cons_zero, List.set_cons_succ])
    refine wpAnyL_pass (i := 21) (d := some 33) rfl rfl (by kernel_rfl) (by kernel_rfl) (by kernel_rfl) (fun _ _ _ h => h) (by rfl) ?_
    try (simp only [Act.put]; try simp only [List.setIfInBounds_toArray]; try simp only [List.set_cons_zero, List.set_cons_succ])
    refine wpAnyL_pass (i := 22) (d := some 34) rfl rfl (by kernel_rfl) (by kernel_rfl) (by kernel_rfl) (fun _ _ _ h => h) (by rfl) ?_
    try (simp only [Act.put]; try simp only [List.setIfInBounds_toArray]; try simp only [List.set_cons_zero, List.set_cons_succ])
    refine wpAnyL_pass (i := 24) (d := some 36) rfl rfl (by kernel_rfl) (by kernel_rfl) (by kernel_rfl) (fun _ _ _ h => h) (by rfl) ?_
    try (simp only [Act.put]; try simp only [List.setIfInBounds_toArray]; try simp only [List.set_cons_zero, List.set_cons_succ])
    refine wpAnyL_pass (i := 25) (d := some 37) rfl rfl (by kernel_rfl) (by kernel_rfl) (by kernel_rfl) (fun _ _ _ h => h) (by rfl) ?_
    try (simp only [Act.put]; try simp only [List.setIfInBounds_toArray]; try simp only [List.set_cons_zero, List.set_cons_succ])
    refine wpAnyL_pass (i := 26) (d := some 38) rfl rfl (by kernel_rfl) (by kernel_rfl) (by kernel_rfl) (fun _ _ _ h => h) (by rfl) ?_
    try (simp only [Act.put]; try simp only [List.setIfInBounds_toArray]; try simp only [List.set_cons_zero, List.set_cons_succ])
    refine wpAnyL_pass (i := 27) (d := some 39) rfl rfl (by kernel_rfl) (by kernel_rfl) (by kernel_rfl) (fun _ _ _ h => h) (by rfl) ?_
    try (simp only [Act.put]; try simp only [List.setIfInBounds_toArray]; try simp only [List.set_cons_zero, List.set_cons_succ])
    refine wpAnyL_pass (i := 23) (d := some 35) rfl rfl (by kernel_rfl) (by kernel_rfl) (by kernel_rfl) (fun _ _ _ h => h) (by rfl) ?_
    try (simp only [Act.put]; try simp only [List.setIfInBounds_toArray]; try simp only [List.set_cons_zero, List.set_cons_succ])
    refine wpAnyL_pass (i := 28) (d := some 40) rfl rfl (by kernel_rfl) (by kernel_rfl) (by kernel_rfl) (fun _ _ _ h => h) (by rfl) ?_
    try (simp only [Act.put]; try simp only [List.setIfInBounds_toArray]; try simp only [List.set_cons_zero, List.set_cons_succ])
    refine wpAnyL_take (i := 29) (d := some 41) (v := ?vapa29) rfl rfl (by kernel_rfl) (by kernel_rfl) (by kernel_rfl) (fun _ _ _ h => h) (by rfl) ?yapa29 ?_
    case yapa29 => (intro w' hw'; go_simp; try (with_reducible rfl))
    simp only [Act.put]; try simp only [List.setIfInBounds_toArray]; try simp only [List.set_cons_zero, List.set_cons_succ]
    refine wpAnyL_take (i := 30) (d := some 11) (v := ?vapa30) rfl rfl (by kernel_rfl) (by kernel_rfl) (by kernel_rfl) (fun _ _ _ h => h) (by rfl) ?yapa30 ?_
    case yapa30 => (intro w' hw'; go_simp; try (with_reducible rfl))
    simp only [Act.put]; try simp only [List.setIfInBounds_toArray]; try simp only [List.set_cons_zero, List.set_cons_succ]
    refine wpAnyL_done (by kernel_rfl) ?_ _

    go_wp2
    go_ret
    unfold LeftR
    rw [HR.out]
    exact ⟨rfl, ⟨_, _, H.out.later ((Below.refl w.heap.size w).drew)⟩, grown_later ((Below.refl w.heap.size w).drew) _⟩
  have DLO : Hid (decide (n < (c : Int)) = false) := by show _ = _; simpa using hlo
  by_cases hhi : (k0 : Int) < n
  · have HR : Hid (replR L c M n = (L, c, 2)) := by show _ = _; rw [HJ.out, if_neg hf, if_pos (.inl (.inr hhi))]
    have DHI : Hid (decide ((k0 : Int) < n) = true) := by show _ = _; simpa using hhi
    clear HJ hf hlo hhi
    go_enter Try.func38, Try.ntmps38
    go_wp2
    refine wp_region_L (by kernel_rfl) ?_
    refine wpAnyL_take (i := 0) (d := some 12) (v := ?vapb0) rfl rfl (by kernel_rfl) (by kernel_rfl) (by kernel_rfl) (fun _ _ _ h => h) (by rfl) ?yapb0 ?_
    case yapb0 => (intro w' hw'; go_simp; try (with_reducible rfl))
    simp only [Act.put]; try simp only [List.setIfInBounds_toArray]; try simp only [List.set_cons_zero, List.set_cons_succ]
    refine wpAnyL_take (i := 1) (d := some 13) (v := ?vapb1) rfl rfl (by kernel_rfl) (by kernel_rfl) (by kernel_rfl) (fun _ _ _ h => h) (by rfl) ?yapb1 ?_
    case yapb1 => (intro w' hw'; go_simp; try (with_reducible rfl))
    simp only [Act.put]; try simp only [List.setIfInBounds_toArray]; try simp only [List.set_cons_zero, List.set_cons_succ]
    refine wpAnyL_take (i := 2) (d := some 14) (v := ?vapb2) rfl rfl (by kernel_rfl) (by kernel_rfl) (by kernel_rfl) (fun _ _ _ h => h) (by rfl) ?yapb2 ?_
    case yapb2 => (intro w' hw'; go_simp; try (with_reducible rfl))
    simp only [Act.put]; try simp only [List.setIfInBounds_toArray]; try simp only [List.set_cons_zero, List.set_cons_succ]
    refine wpAnyL_take (i := 3) (d := some 15) (v := ?vapb3) rfl rfl (by kernel_rfl) (by kernel_rfl) (by kernel_rfl) (fun _ _ _ h => h) (by rfl) ?yapb3 ?_
    case yapb3 => (intro w' hw'; go_simp; try (with_reducible rfl))
    simp only [Act.put]; try simp only [List.setIfInBounds_toArray]; try simp only [List.set_cons_zero, List.set_cons_succ]
    refine wpAnyL_take (i := 4) (d := some 16) (v := ?vapb4) rfl rfl (by kernel_rfl) (by kernel_rfl) (by kernel_rfl) (fun _ _ _ h => h) (by rfl) ?yapb4 ?_
    case yapb4 => (intro w' hw'; obtain ⟨c0, c1, f0, f1⟩ := (H.out.later ((Below.refl w.heap.size w).drew.trans hw')).cells; go_simp; try (with_reducible rfl))
    simp only [Act.put]; try simp only [List.setIfInBounds_toArray]; try simp only [List.set_cons_zero, List.set_cons_succ]
    refine wpAnyL_take (i := 5) (d := some 17) (v := .bool false) rfl rfl (by kernel_rfl) (by kernel_rfl) (by kernel_rfl) (fun _ _ _ h => h) (by rfl) ?yapb5 ?_
    case yapb5 => (intro w' hw'; have hb := DLO.out; go_simp; try (with_reducible rfl))
    simp only [Act.put]; try simp only [List.setIfInBounds_toArray]; try simp only [List.set_cons_zero, List.set_cons_succ]
    refine wpAnyL_take (i := 6) (d := some 18) (v := ?vapb6) rfl rfl (by kernel_rfl) (by kernel_rfl) (by kernel_rfl) (fun _ _ _ h => h) (by rfl) ?yapb6 ?_
    case yapb6 => (intro w' hw'; go_simp; try (with_reducible rfl))
    simp only [Act.put]; try simp only [List.setIfInBounds_toArray]; try simp only [List.set_cons_zero, List.set_cons_succ]
    refine wpAnyL_take (i := 7) (d := some 19) (v := ?vapb7) rfl rfl (by kernel_rfl) (by kernel_rfl) (by kernel_rfl) (fun _ _ _ h => h) (by rfl) ?yapb7 ?_
    case yapb7 => (intro w' hw'; go_simp; try (with_reducible rfl))
    simp only [Act.put]; try simp only [List.setIfInBounds_toArray]; try simp only [List.set_cons_zero, List.set_cons_succ]
    refine wpAnyL_take (i := 8) (d := some 20) (v := ?vapb8) rfl rfl (by kernel_rfl) (by kernel_rfl) (by kernel_rfl) (fun _ _ _ h => h) (by rfl) ?yapb8 ?_
    case yapb8 => (intro w' hw'; go_simp; try (with_reducible rfl))
    simp only [Act.put]; try simp only [List.setIfInBounds_toArray]; try simp only [List.set_cons_zero, List.set_cons_succ]
    refine wpAnyL_take (i := 9) (d := some 21) (v := ?vapb9) rfl rfl (by kernel_rfl) (by kernel_rfl) (by kernel_rfl) (fun _ _ _ h => h) (by rfl) ?yapb9 ?_
    case yapb9 => (intro w' hw'; go_simp; try (with_reducible rfl))
    simp only [Act.put]; try simp only [List.setIfInBounds_toArray]; try simp only [List.set_cons_zero, List.set_cons_succ]
    refine wpAnyL_take (i := 10) (d := some 22) (v := .bool true) rfl rfl (by kernel_rfl) (by kernel_rfl) (by kernel_rfl) (fun _ _ _ h => h) (by rfl) ?yapb10 ?_
    case yapb10 => (intro w' hw'; have hb := DHI.out; go_simp; try (with_reducible rfl))
    simp only [Act.put]; try simp only [List.setIfInBounds_toArray]; try simp only [List.set_cons_zero, List.set_cons_succ]
    refine wpAnyL_take (i := 11) (d := some 23) (v := ?vapb11) rfl rfl (by kernel_rfl) (by kernel_rfl) (by kernel_rfl) (fun _ _ _ h => h) (by rfl) ?yapb11 ?_
    case yapb11 => (intro w' hw'; go_simp; try (with_reducible rfl))
    simp only [Act.put]; try simp only [List.setIfInBounds_toArray]; try simp only [List.set_cons_zero, List.set_cons_succ]
    refine wpAnyL_take (i := 12) (d := some 24) (v := ?vapb12) rfl rfl (by kernel_rfl) (by kernel_rfl) (by kernel_rfl) (fun _ _ _ h => h) (by rfl) ?yapb12 ?_
    case yapb12 => (intro w' hw'; go_simp; try (with_reducible rfl))
    simp only [Act.put]; try simp only [List.setIfInBounds_toArray]; try simp only [List.set_cons_zero, List.set_cons_succ]
    refine wpAnyL_pass (i := 13) (d := some 25) rfl rfl (by kernel_rfl) (by kernel_rfl) (by kernel_rfl) (fun _ _ _ h => h) (by rfl) ?_
    try (simp only [Act.put]; try simp only [List.setIfInBounds_toArray]; try simp only [List.set_cons_zero, List.set_cons_succ])
    refine wpAnyL_pass (i := 14) (d := some 26) rfl rfl (by kernel_rfl) (by kernel_rfl) (by kernel_rfl) (fun _ _ _ h => h) (by rfl) ?_
    try (simp only [Act.put]; try simp only [List.setIfInBounds_toArray]; try simp only [List.set_cons_zero, List.set_cons_succ])
    refine wpAnyL_pass (i := 15) (d := some 27) rfl rfl (by kernel_rfl) (by kernel_rfl) (by kernel_rfl) (fun _ _ _ h => h) (by rfl) ?_
    try (simp only [Act.put]; try simp only [List.setIfInBounds_toArray]; try simp only [List.set_cons_zero, List.set_cons_succ])
    refine wpAnyL_pass (i := 16) (d := some 28) rfl rfl (by kernel_rfl) (by kernel_rfl) (by kernel_rfl) (fun _ _ _ h => h) (by rfl) ?_
    try (simp only [Act.put]; try simp only [List.setIfInBounds_toArray]; try simp only [List.set_cons_zero, List.set_cons_succ])
    refine wpAnyL_pass (i := 17) (d := some 29) rfl rfl (by kernel_rfl) (by kernel_rfl) (by kernel_rfl) (fun _ _ _ h => h) (by rfl) ?_
    try (simp only [Act.put]; try simp only [List.setIfInBounds_toArray]; try simp only [List.set_cons_zero, List.set_cons_succ])
    refine wpAnyL_pass (i := 18) (d := some 30) rfl rfl (by kernel_rfl) (by kernel_rfl) (by kernel_rfl) (fun _ _ _ h => h) (by rfl) ?_
    try (simp only [Act.put]; try simp only [List.setIfInBounds_toArray]; try simp only [List.set_cons_zero, List.set_cons_succ])
    refine wpAnyL_pass (i := 19) (d := some 31) rfl rfl (by kernel_rfl) (by kernel_rfl) (by kernel_rfl) (fun _ _ _ h => h) (by rfl) ?_
    try (simp only [Act.put]; try simp only [List.setIfInBounds_toArray]; try simp only [List.set_cons_zero, List.set_cons_succ])
    refine wpAnyL_pass (i := 20) (d := some 32) rfl rfl (by kernel_rfl) (by kernel_rfl) (by kernel_rfl) (fun _ _ _ h => h) (by rfl) ?_
    try (simp only [Act.put]; try simp only [List.setIfInBounds_toArray]; try simp only [List.set_cons_zero, List.set_cons_succ])
    refine wpAnyL_pass (i := 21) (d := some 33) rfl rfl (by kernel_rfl) (by kernel_rfl) (by kernel_rfl) (fun _ _ _ h => h) (by rfl) ?_
    try (simp only [Act.put]; try simp only [List.setIfInBounds_toArray]; try simp only [List.set_cons_zero, List.set_cons_succ])
    refine wpAnyL_pass (i := 22) (d := some 34) rfl rfl (by kernel_rfl) (by kernel_rfl) (by kernel_rfl) (fun _ _ _ h => h) (by rfl) ?_
    try (simp only [Act.put]; try simp only [List.setIfInBounds_toArray]; try simp only [List.set_cons_zero, List.set_cons_succ])
    refine wpAnyL_pass (i := 24) (d := some 36) rfl rfl (by kernel_rfl) (by kernel_rfl) (by kernel_rfl) (fun _ _ _ h => h) (by rfl) ?_
    try (simp only [Act.put]; try simp only [List.setIfInBounds_toArray]; try simp only [List.set_cons_zero, List.set_cons_succ])
    refine wpAnyL_pass (i := 25) (d := some 37) rfl rfl (by kernel_rfl) (by kernel_rfl) (by kernel_rfl) (fun _ _ _ h => h) (by rfl) ?_
    try (simp only [Act.put]; try simp only [List.setIfInBounds_toArray]; try simp only [List.set_cons_zero, List.set_cons_succ])
    refine wpAnyL_pass (i := 26) (d := some 38) rfl rfl (by kernel_rfl) (by kernel_rfl) (by kernel_rfl) (fun _ _ _ h => h) (by rfl) ?_
    try (simp only [Act.put]; try simp only [List.setIfInBounds_toArray]; try simp only [List.set_cons_zero, List.set_cons_succ])
    refine wpAnyL_pass (i := 27) (d := some 39) rfl rfl (by kernel_rfl) (by kernel_rfl) (by kernel_rfl) (fun _ _ _ h => h) (by rfl) ?_
    try (simp only [Act.put]; try simp only [List.setIfInBounds_toArray]; try simp only [List.set_cons_zero, List.set_cons_succ])
    refine wpAnyL_pass (i := 23) (d := some 35) rfl rfl (by kernel_rfl) (by kernel_rfl) (by kernel_rfl) (fun _ _ _ h => h) (by rfl) ?_
    try (simp only [Act.put]; try simp only [List.setIfInBounds_toArray]; try simp only [List.set_cons_zero, List.set_cons_succ])
    refine wpAnyL_pass (i := 28) (d := some 40) rfl rfl (by kernel_rfl) (by kernel_rfl) (by kernel_rfl) (fun _ _ _ h => h) (by rfl) ?_
    try (simp only [Act.put]; try simp only [List.setIfInBounds_toArray]; try simp only [List.set_cons_zero, List.set_cons_succ])
    refine wpAnyL_take (i := 29) (d := some 41) (v := ?vapb29) rfl rfl (by kernel_rfl) (by kernel_rfl) (by kernel_rfl) (fun _ _ _ h => h) (by rfl) ?yapb29 ?_
    case yapb29 => (intro w' hw'; go_simp; try (with_reducible rfl))
    simp only [Act.put]; try simp only [List.setIfInBounds_toArray]; try simp only [List.set_cons_zero, List.set_cons_succ]
    refine wpAnyL_take (i := 30) (d := some 11) (v := ?vapb30) rfl rfl (by kernel_rfl) (by kernel_rfl) (by kernel_rfl) (fun _ _ _ h => h) (by rfl) ?yapb30 ?_
    case yapb30 => (intro w' hw'; go_simp; try (with_reducible rfl))
    simp only [Act.put]; try simp only [List.setIfInBounds_toArray]; try simp only [List.set_cons_zero, List.set_cons_succ]
    refine wpAnyL_done (by kernel_rfl) ?_ _

    go_wp2
    go_ret
    unfold LeftR
    rw [HR.out]
    exact ⟨rfl, ⟨_, _, H.out.later ((Below.refl w.heap.size w).drew)⟩, grown_later ((Below.refl w.heap.size w).drew) _⟩
  have DHI : Hid (decide ((k0 : Int) < n) = false) := by show _ = _; simpa using hhi
  by_cases hp : p0 < c
  · have HR : Hid (replR L c M n = (L, c, 2)) := by show _ = _; rw [HJ.out, if_neg hf, if_pos (.inr (HPL0.out.1 hp))]
    have DPR : Hid (decide (p0 < c) = true) := by show _ = _; simpa using hp
    clear HJ hf hlo hhi hp
    go_enter Try.func38, Try.ntmps38
    go_wp2
    refine wp_region_L (by kernel_rfl) ?_
    refine wpAnyL_take (i := 0) (d := some 12) (v := ?vapc0) rfl rfl (by kernel_rfl) (by kernel_rfl) (by kernel_rfl) (fun _ _ _ h => h) (by rfl) ?yapc0 ?_
    case yapc0 => (intro w' hw'; go_simp; try (with_reducible rfl))
    simp only [Act.put]; try simp only [List.setIfInBounds_toArray]; try simp only [List.set_cons_zero, List.set_cons_succ]
    refine wpAnyL_take (i := 1) (d := some 13) (v := ?vapc1) rfl rfl (by kernel_rfl) (by kernel_rfl) (by kernel_rfl) (fun _ _ _ h => h) (by rfl) ?yapc1 ?_
    case yapc1 => (intro w' hw'; go_simp; try (with_reducible rfl))
    simp only [Act.put]; try simp only [List.setIfInBounds_toArray]; try simp only [List.set_cons_zero, List.set_cons_succ]
    refine wpAnyL_take (i := 2) (d := some 14) (v := ?vapc2) rfl rfl (by kernel_rfl) (by kernel_rfl) (by kernel_rfl) (fun _ _ _ h => h) (by rfl) ?yapc2 ?_
    case yapc2 => (intro w' hw'; go_simp; try (with_reducible rfl))
    simp only [Act.put]; try simp only [List.setIfInBounds_toArray]; try simp only [List.set_cons_zero, List.set_cons_succ]
    refine wpAnyL_take (i := 3) (d := some 15) (v := ?vapc3) rfl rfl (by kernel_rfl) (by kernel_rfl) (by kernel_rfl) (fun _ _ _ h => h) (by rfl) ?yapc3 ?_
    case yapc3 => (intro w' hw'; go_simp; try (with_reducible rfl))
    simp only [Act.put]; try simp only [List.setIfInBounds_toArray]; try simp only [List.set_cons_zero, List.set_cons_succ]
    refine wpAnyL_take (i := 4) (d := some 16) (v := ?vapc4) rfl rfl (by kernel_rfl) (by kernel_rfl) (by kernel_rfl) (fun _ _ _ h => h) (by rfl) ?yapc4 ?_
    case yapc4 => (intro w' hw'; obtain ⟨c0, c1, f0, f1⟩ := (H.out.later ((Below.refl w.heap.size w).drew.trans hw')).cells; go_simp; try (with_reducible rfl))
    simp only [Act.put]; try simp only [List.setIfInBounds_toArray]; try simp only [List.set_cons_zero, List.set_cons_succ]
    refine wpAnyL_take (i := 5) (d := some 17) (v := .bool false) rfl rfl (by kernel_rfl) (by kernel_rfl) (by kernel_rfl) (fun _ _ _ h => h) (by rfl) ?yapc5 ?_
    case yapc5 => (intro w' hw'; have hb := DLO.out; go_simp; try (with_reducible rfl))
    simp only [Act.put]; try simp only [List.setIfInBounds_toArray]; try simp only [List.set_cons_zero, List.set_cons_succ]
    refine wpAnyL_take (i := 6) (d := some 18) (v := ?vapc6) rfl rfl (by kernel_rfl) (by kernel_rfl) (by kernel_rfl) (fun _ _ _ h => h) (by rfl) ?yapc6 ?_
    case yapc6 => (intro w' hw'; go_simp; try (with_reducible rfl))
    simp only [Act.put]; try simp only [List.setIfInBounds_toArray]; try simp only [List.set_cons_zero, List.set_cons_succ]
    refine wpAnyL_take (i := 7) (d := some 19) (v := ?vapc7) rfl rfl (by kernel_rfl) (by kernel_rfl) (by kernel_rfl) (fun _ _ _ h => h) (by rfl) ?yapc7 ?_
    case yapc7 => (intro w' hw'; go_simp; try (with_reducible rfl))
    simp only [Act.put]; try simp only [List.setIfInBounds_toArray]; try simp only [List.set_cons_zero, List.set_cons_succ]
    refine wpAnyL_take (i := 8) (d := some 20) (v := ?vapc8) rfl rfl (by kernel_rfl) (by kernel_rfl) (by kernel_rfl) (fun _ _ _ h => h) (by rfl) ?yapc8 ?_
    case yapc8 => (intro w' hw'; go_simp; try (with_reducible rfl))
    simp only [Act.put]; try simp only [List.setIfInBounds_toArray]; try simp only [List.set_cons_zero, List.set_cons_succ]
    refine wpAnyL_take (i := 9) (d := some 21) (v := ?vapc9) rfl rfl (by kernel_rfl) (by kernel_rfl) (by kernel_rfl) (fun _ _ _ h => h) (by rfl) ?yapc9 ?_
    case yapc9 => (intro w' hw'; go_simp; try (with_reducible rfl))
    simp only [Act.put]; try simp only [List.setIfInBounds_toArray]; try simp only [List.set_cons_zero, List.set_cons_succ]
    refine wpAnyL_take (i := 10) (d := some 22) (v := .bool false) rfl rfl (by kernel_rfl) (by kernel_rfl) (by kernel_rfl) (fun _ _ _ h => h) (by rfl) ?yapc10 ?_
    case yapc10 => (intro w' hw'; have hb := DHI.out; go_simp; try (with_reducible rfl))
    simp only [Act.put]; try simp only [List.setIfInBounds_toArray]; try simp only [List.set_cons_zero, List.set_cons_succ]
    refine wpAnyL_take (i := 11) (d := some 23) (v := ?vapc11) rfl rfl (by kernel_rfl) (by kernel_rfl) (by kernel_rfl) (fun _ _ _ h => h) (by rfl) ?yapc11 ?_
    case yapc11 => (intro w' hw'; go_simp; try (with_reducible rfl))
    simp only [Act.put]; try simp only [List.setIfInBounds_toArray]; try simp only [List.set_cons_zero, List.set_cons_succ]
    refine wpAnyL_take (i := 12) (d := some 24) (v := ?vapc12) rfl rfl (by kernel_rfl) (by kernel_rfl) (by kernel_rfl) (fun _ _ _ h => h) (by rfl) ?yapc12 ?_
    case yapc12 => (intro w' hw'; go_simp; try (with_reducible rfl))
    simp only [Act.put]; try simp only [List.setIfInBounds_toArray]; try simp only [List.set_cons_zero, List.set_cons_succ]
    refine wpAnyL_take (i := 13) (d := some 25) (v := ?vapc13) rfl rfl (by kernel_rfl) (by kernel_rfl) (by kernel_rfl) (fun _ _ _ h => h) (by rfl) ?yapc13 ?_
    case yapc13 => (intro w' hw'; go_simp; try (with_reducible rfl))
    simp only [Act.put]; try simp only [List.setIfInBounds_toArray]; try simp only [List.set_cons_zero, List.set_cons_succ]
    refine wpAnyL_take (i := 14) (d := some 26) (v := ?vapc14) rfl rfl (by kernel_rfl) (by kernel_rfl) (by kernel_rfl) (fun _ _ _ h => h) (by rfl) ?yapc14 ?_
    case yapc14 => (intro w' hw'; go_simp; try (with_reducible rfl))
    simp only [Act.put]; try simp only [List.setIfInBounds_toArray]; try simp only [List.set_cons_zero, List.set_cons_succ]
    refine wpAnyL_take (i := 15) (d := some 27) (v := ?vapc15) rfl rfl (by kernel_rfl) (by kernel_rfl) (by kernel_rfl) (fun _ _ _ h => h) (by rfl) ?yapc15 ?_
    case yapc15 => (intro w' hw'; go_simp; try (with_reducible rfl))
    simp only [Act.put]; try simp only [List.setIfInBounds_toArray]; try simp only [List.set_cons_zero, List.set_cons_succ]
    refine wpAnyL_take (i := 16) (d := some 28) (v := ?vapc16) rfl rfl (by kernel_rfl) (by kernel_rfl) (by kernel_rfl) (fun _ _ _ h => h) (by rfl) ?yapc16 ?_
    case yapc16 => (intro w' hw'; obtain ⟨c0, c1, f0, f1⟩ := (H.out.later ((Below.refl w.heap.size w).drew.trans hw')).cells; go_simp; try (with_reducible rfl))
    simp only [Act.put]; try simp only [List.setIfInBounds_toArray]; try simp only [List.set_cons_zero, List.set_cons_succ]
    refine wpAnyL_take (i := 17) (d := some 29) (v := ?vapc17) rfl rfl (by kernel_rfl) (by kernel_rfl) (by kernel_rfl) (fun _ _ _ h => h) (by rfl) ?yapc17 ?_
    case yapc17 => (intro w' hw'; go_simp; try (with_reducible rfl))
    simp only [Act.put]; try simp only [List.setIfInBounds_toArray]; try simp only [List.set_cons_zero, List.set_cons_succ]
    refine wpAnyL_take (i := 18) (d := some 30) (v := ?vapc18) rfl rfl (by kernel_rfl) (by kernel_rfl) (by kernel_rfl) (fun _ _ _ h => h) (by rfl) ?yapc18 ?_
    case yapc18 => (intro w' hw'; go_simp; try (with_reducible rfl))
    simp only [Act.put]; try simp only [List.setIfInBounds_toArray]; try simp only [List.set_cons_zero, List.set_cons_succ]
    refine wpAnyL_take (i := 19) (d := some 31) (v := ?vapc19) rfl rfl (by kernel_rfl) (by kernel_rfl) (by kernel_rfl) (fun _ _ _ h => h) (by rfl) ?yapc19 ?_
    case yapc19 => (intro w' hw'; go_simp; try (with_reducible rfl))
    simp only [Act.put]; try simp only [List.setIfInBounds_toArray]; try simp only [List.set_cons_zero, List.set_cons_succ]
    refine wpAnyL_take (i := 20) (d := some 32) (v := ?vapc20) rfl rfl (by kernel_rfl) (by kernel_rfl) (by kernel_rfl) (fun _ _ _ h => h) (by rfl) ?yapc20 ?_
    case yapc20 => (intro w' hw'; obtain ⟨c0, c1, f0, f1⟩ := (H.out.later ((Below.refl w.heap.size w).drew.trans hw')).cells; go_simp; try (with_reducible rfl))
    simp only [Act.put]; try simp only [List.setIfInBounds_toArray]; try simp only [List.set_cons_zero, List.set_cons_succ]
    refine wpAnyL_take (i := 21) (d := some 33) (v := .slice A c cp) rfl rfl (by kernel_rfl) (by kernel_rfl) (by kernel_rfl) (fun _ _ _ h => h) (by rfl) ?yapc21 ?_
    case yapc21 => (intro w' hw'; exact exec_to _ _ (by rfl) A n0 cp c (by rfl) (by rfl) (by omega) (by omega))
    simp only [Act.put]; try simp only [List.setIfInBounds_toArray]; try simp only [List.set_cons_zero, List.set_cons_succ]
    refine wpAnyL_take (i := 22) (d := some 34) (v := ?vapc22) rfl rfl (by kernel_rfl) (by kernel_rfl) (by kernel_rfl) (fun _ _ _ h => h) (by rfl) ?yapc22 ?_
    case yapc22 => (intro w' hw'; go_simp; try (with_reducible rfl))
    simp only [Act.put]; try simp only [List.setIfInBounds_toArray]; try simp only [List.set_cons_zero, List.set_cons_succ]
    refine wpAnyL_take (i := 24) (d := some 36) (v := ?vapc24) rfl rfl (by kernel_rfl) (by kernel_rfl) (by kernel_rfl) (fun _ _ _ h => h) (by rfl) ?yapc24 ?_
    case yapc24 => (intro w' hw'; go_simp; try (with_reducible rfl))
    simp only [Act.put]; try simp only [List.setIfInBounds_toArray]; try simp only [List.set_cons_zero, List.set_cons_succ]
    refine wpAnyL_take (i := 25) (d := some 37) (v := ?vapc25) rfl rfl (by kernel_rfl) (by kernel_rfl) (by kernel_rfl) (fun _ _ _ h => h) (by rfl) ?yapc25 ?_
    case yapc25 => (intro w' hw'; go_simp; try (with_reducible rfl))
    simp only [Act.put]; try simp only [List.setIfInBounds_toArray]; try simp only [List.set_cons_zero, List.set_cons_succ]
    refine wpAnyL_take (i := 26) (d := some 38) (v := ?vapc26) rfl rfl (by kernel_rfl) (by kernel_rfl) (by kernel_rfl) (fun _ _ _ h => h) (by rfl) ?yapc26 ?_
    case yapc26 => (intro w' hw'; go_simp; try (with_reducible rfl))
    simp only [Act.put]; try simp only [List.setIfInBounds_toArray]; try simp only [List.set_cons_zero, List.set_cons_succ]
    refine wpAnyL_take (i := 27) (d := some 39) (v := ?vapc27) rfl rfl (by kernel_rfl) (by kernel_rfl) (by kernel_rfl) (fun _ _ _ h => h) (by rfl) ?yapc27 ?_
    case yapc27 => (intro w' hw'; obtain ⟨c0, c1, f0, f1⟩ := (H.out.later ((Below.refl w.heap.size w).drew.trans hw')).cells; go_simp; try (with_reducible rfl))
    simp only [Act.put]; try simp only [List.setIfInBounds_toArray]; try simp only [List.set_cons_zero, List.set_cons_succ]
    refine wpAnyL_only (i := 23) rfl (by kernel_rfl) (by rfl) fun K hK => ?_
    go_simp
    refine (refprefix_any F F _ _ (L.take c) M _ (HLC.out _ (Below.refl w.heap.size w).drew) (HMA.out _ (Below.refl w.heap.size w).drew)).mono ?_
    rw [HPRE.out]
    rintro e w1 ⟨rfl, hb1⟩
    have HB1 : Hid (Below w.heap.size w w1) := (Below.refl w.heap.size w).drew.trans hb1
    refine hK.out _ _ hb1 ?_
    clear hb1
    clear hK K
    try (simp only [Act.put]; try simp only [List.setIfInBounds_toArray]; try simp only [List.set_cons_zero, List.set_cons_succ])
    refine wpAnyL_take (i := 28) (d := some 40) (v := .bool true) rfl rfl (by kernel_rfl) (by kernel_rfl) (by kernel_rfl) (fun _ _ _ h => h) (by rfl) ?yapc28 ?_
    case yapc28 => (intro w' hw'; have hb := DPR.out; go_simp; try (with_reducible rfl))
    simp only [Act.put]; try simp only [List.setIfInBounds_toArray]; try simp only [List.set_cons_zero, List.set_cons_succ]
    refine wpAnyL_take (i := 29) (d := some 41) (v := ?vapc29) rfl rfl (by kernel_rfl) (by kernel_rfl) (by kernel_rfl) (fun _ _ _ h => h) (by rfl) ?yapc29 ?_
    case yapc29 => (intro w' hw'; go_simp; try (with_reducible rfl))
    simp only [Act.put]; try simp only [List.setIfInBounds_toArray]; try simp only [List.set_cons_zero, List.set_cons_succ]
    refine wpAnyL_take (i := 30) (d := some 11) (v := ?vapc30) rfl rfl (by kernel_rfl) (by kernel_rfl) (by kernel_rfl) (fun _ _ _ h => h) (by rfl) ?yapc30 ?_
    case yapc30 => (intro w' hw'; go_simp; try (with_reducible rfl))
    simp only [Act.put]; try simp only [List.setIfInBounds_toArray]; try simp only [List.set_cons_zero, List.set_cons_succ]
    refine wpAnyL_done (by kernel_rfl) ?_ _

    go_wp2
    go_ret
    unfold LeftR
    rw [HR.out]
    exact ⟨rfl, ⟨_, _, H.out.later (HB1.out)⟩, grown_later (HB1.out) _⟩
  · have HR : Hid (replR L c M n = (M, n.toNat, 0)) := by
      show _ = _
      rw [HJ.out, if_neg hf, if_neg (fun e => e.elim (fun e => e.elim hlo hhi) fun e => hp (HPL0.out.2 e))]
    have DPR : Hid (decide (p0 < c) = false) := by show _ = _; simpa using hp
    obtain ⟨m, hm⟩ : ∃ m : Nat, n = (m : Int) := ⟨n.toNat, by omega⟩
    have hmk : m ≤ k0 := by omega
    have HMM := hide hm
    clear HJ hf hlo hhi hp hm
    go_enter Try.func38, Try.ntmps38
    go_wp2
    refine wp_region_L (by kernel_rfl) ?_
    refine wpAnyL_take (i := 0) (d := some 12) (v := ?vapd0) rfl rfl (by kernel_rfl) (by kernel_rfl) (by kernel_rfl) (fun _ _ _ h => h) (by rfl) ?yapd0 ?_
    case yapd0 => (intro w' hw'; go_simp; try (with_reducible rfl))
    simp only [Act.put]; try simp only [List.setIfInBounds_toArray]; try simp only [List.set_cons_zero, List.set_cons_succ]
    refine wpAnyL_take (i := 1) (d := some 13) (v := ?vapd1) rfl rfl (by kernel_rfl) (by kernel_rfl) (by kernel_rfl) (fun _ _ _ h => h) (by rfl) ?yapd1 ?_
    case yapd1 => (intro w' hw'; go_simp; try (with_reducible rfl))
    simp only [Act.put]; try simp only [List.setIfInBounds_toArray]; try simp only [List.set_cons_zero, List.set_cons_succ]
    refine wpAnyL_take (i := 2) (d := some 14) (v := ?vapd2) rfl rfl (by kernel_rfl) (by kernel_rfl) (by kernel_rfl) (fun _ _ _ h => h) (by rfl) ?yapd2 ?_
    case yapd2 => (intro w' hw'; go_simp; try (with_reducible rfl))
    simp only [Act.put]; try simp only [List.setIfInBounds_toArray]; try simp only [List.set_cons_zero, List.set_cons_succ]
    refine wpAnyL_take (i := 3) (d := some 15) (v := ?vapd3) rfl rfl (by kernel_rfl) (by kernel_rfl) (by kernel_rfl) (fun _ _ _ h => h) (by rfl) ?yapd3 ?_
    case yapd3 => (intro w' hw'; go_simp; try (with_reducible rfl))
    simp only [Act.put]; try simp only [List.setIfInBounds_toArray]; try simp only [List.set_cons_zero, List.set_cons_succ]
    refine wpAnyL_take (i := 4) (d := some 16) (v := ?vapd4) rfl rfl (by kernel_rfl) (by kernel_rfl) (by kernel_rfl) (fun _ _ _ h => h) (by rfl) ?yapd4 ?_
    case yapd4 => (intro w' hw'; obtain ⟨c0, c1, f0, f1⟩ := (H.out.later ((Below.refl w.heap.size w).drew.trans hw')).cells; go_simp; try (with_reducible rfl))
    simp only [Act.put]; try simp only [List.setIfInBounds_toArray]; try simp only [List.set_cons_zero, List.set_cons_succ]
    refine wpAnyL_take (i := 5) (d := some 17) (v := .bool false) rfl rfl (by kernel_rfl) (by kernel_rfl) (by kernel_rfl) (fun _ _ _ h => h) (by rfl) ?yapd5 ?_
    case yapd5 => (intro w' hw'; have hb := DLO.out; go_simp; try (with_reducible rfl))
    simp only [Act.put]; try simp only [List.setIfInBounds_toArray]; try simp only [List.set_cons_zero, List.set_cons_succ]
    refine wpAnyL_take (i := 6) (d := some 18) (v := ?vapd6) rfl rfl (by kernel_rfl) (by kernel_rfl) (by kernel_rfl) (fun _ _ _ h => h) (by rfl) ?yapd6 ?_
    case yapd6 => (intro w' hw'; go_simp; try (with_reducible rfl))
    simp only [Act.put]; try simp only [List.setIfInBounds_toArray]; try simp only [List.set_cons_zero, List.set_cons_succ]
    refine wpAnyL_take (i := 7) (d := some 19) (v := ?vapd7) rfl rfl (by kernel_rfl) (by kernel_rfl) (by kernel_rfl) (fun _ _ _ h => h) (by rfl) ?yapd7 ?_
    case yapd7 => (intro w' hw'; go_simp; try (with_reducible rfl))
    simp only [Act.put]; try simp only [List.setIfInBounds_toArray]; try simp only [List.set_cons_zero, List.set_cons_succ]
    refine wpAnyL_take (i := 8) (d := some 20) (v := ?vapd8) rfl rfl (by kernel_rfl) (by kernel_rfl) (by kernel_rfl) (fun _ _ _ h => h) (by rfl) ?yapd8 ?_
    case yapd8 => (intro w' hw'; go_simp; try (with_reducible rfl))
    simp only [Act.put]; try simp only [List.setIfInBounds_toArray]; try simp only [List.set_cons_zero, List.set_cons_succ]
    refine wpAnyL_take (i := 9) (d := some 21) (v := ?vapd9) rfl rfl (by kernel_rfl) (by kernel_rfl) (by kernel_rfl) (fun _ _ _ h => h) (by rfl) ?yapd9 ?_
    case yapd9 => (intro w' hw'; go_simp; try (with_reducible rfl))
    simp only [Act.put]; try simp only [List.setIfInBounds_toArray]; try simp only [List.set_cons_zero, List.set_cons_succ]
    refine wpAnyL_take (i := 10) (d := some 22) (v := .bool false) rfl rfl (by kernel_rfl) (by kernel_rfl) (by kernel_rfl) (fun _ _ _ h => h) (by rfl) ?yapd10 ?_
    case yapd10 => (intro w' hw'; have hb := DHI.out; go_simp; try (with_reducible rfl))
    simp only [Act.put]; try simp only [List.setIfInBounds_toArray]; try simp only [List.set_cons_zero, List.set_cons_succ]
    refine wpAnyL_take (i := 11) (d := some 23) (v := ?vapd11) rfl rfl (by kernel_rfl) (by kernel_rfl) (by kernel_rfl) (fun _ _ _ h => h) (by rfl) ?yapd11 ?_
    case yapd11 => (intro w' hw'; go_simp; try (with_reducible rfl))
    simp only [Act.put]; try simp only [List.setIfInBounds_toArray]; try simp only [List.set_cons_zero, List.set_cons_succ]
    refine wpAnyL_take (i := 12) (d := some 24) (v := ?vapd12) rfl rfl (by kernel_rfl) (by kernel_rfl) (by kernel_rfl) (fun _ _ _ h => h) (by rfl) ?yapd12 ?_
    case yapd12 => (intro w' hw'; go_simp; try (with_reducible rfl))
    simp only [Act.put]; try simp only [List.setIfInBounds_toArray]; try simp only [List.set_cons_zero, List.set_cons_succ]
    refine wpAnyL_take (i := 13) (d := some 25) (v := ?vapd13) rfl rfl (by kernel_rfl) (by kernel_rfl) (by kernel_rfl) (fun _ _ _ h => h) (by rfl) ?yapd13 ?_
    case yapd13 => (intro w' hw'; go_simp; try (with_reducible rfl))
    simp only [Act.put]; try simp only [List.setIfInBounds_toArray]; try simp only [List.set_cons_zero, List.set_cons_succ]
    refine wpAnyL_take (i := 14) (d := some 26) (v := ?vapd14) rfl rfl (by kernel_rfl) (by kernel_rfl) (by kernel_rfl) (fun _ _ _ h => h) (by rfl) ?yapd14 ?_
    case yapd14 => (intro w' hw'; go_simp; try (with_reducible rfl))
    simp only [Act.put]; try simp only [List.setIfInBounds_toArray]; try simp only [List.set_cons_zero, List.set_cons_succ]
    refine wpAnyL_take (i := 15) (d := some 27) (v := ?vapd15) rfl rfl (by kernel_rfl) (by kernel_rfl) (by kernel_rfl) (fun _ _ _ h => h) (by rfl) ?yapd15 ?_
    case yapd15 => (intro w' hw'; go_simp; try (with_reducible rfl))
    simp only [Act.put]; try simp only [List.setIfInBounds_toArray]; try simp only [List.set_cons_zero, List.set_cons_succ]
    refine wpAnyL_take (i := 16) (d := some 28) (v := ?vapd16) rfl rfl (by kernel_rfl) (by kernel_rfl) (by kernel_rfl) (fun _ _ _ h => h) (by rfl) ?yapd16 ?_
    case yapd16 => (intro w' hw'; obtain ⟨c0, c1, f0, f1⟩ := (H.out.later ((Below.refl w.heap.size w).drew.trans hw')).cells; go_simp; try (with_reducible rfl))
    simp only [Act.put]; try simp only [List.setIfInBounds_toArray]; try simp only [List.set_cons_zero, List.set_cons_succ]
    refine wpAnyL_take (i := 17) (d := some 29) (v := ?vapd17) rfl rfl (by kernel_rfl) (by kernel_rfl) (by kernel_rfl) (fun _ _ _ h => h) (by rfl) ?yapd17 ?_
    case yapd17 => (intro w' hw'; go_simp; try (with_reducible rfl))
    simp only [Act.put]; try simp only [List.setIfInBounds_toArray]; try simp only [List.set_cons_zero, List.set_cons_succ]
    refine wpAnyL_take (i := 18) (d := some 30) (v := ?vapd18) rfl rfl (by kernel_rfl) (by kernel_rfl) (by kernel_rfl) (fun _ _ _ h => h) (by rfl) ?yapd18 ?_
    case yapd18 => (intro w' hw'; go_simp; try (with_reducible rfl))
    simp only [Act.put]; try simp only [List.setIfInBounds_toArray]; try simp only [List.set_cons_zero, List.set_cons_succ]
    refine wpAnyL_take (i := 19) (d := some 31) (v := ?vapd19) rfl rfl (by kernel_rfl) (by kernel_rfl) (by kernel_rfl) (fun _ _ _ h => h) (by rfl) ?yapd19 ?_
    case yapd19 => (intro w' hw'; go_simp; try (with_reducible rfl))
    simp only [Act.put]; try simp only [List.setIfInBounds_toArray]; try simp only [List.set_cons_zero, List.set_cons_succ]
    refine wpAnyL_take (i := 20) (d := some 32) (v := ?vapd20) rfl rfl (by kernel_rfl) (by kernel_rfl) (by kernel_rfl) (fun _ _ _ h => h) (by rfl) ?yapd20 ?_
    case yapd20 => (intro w' hw'; obtain ⟨c0, c1, f0, f1⟩ := (H.out.later ((Below.refl w.heap.size w).drew.trans hw')).cells; go_simp; try (with_reducible rfl))
    simp only [Act.put]; try simp only [List.setIfInBounds_toArray]; try simp only [List.set_cons_zero, List.set_cons_succ]
    refine wpAnyL_take (i := 21) (d := some 33) (v := .slice A c cp) rfl rfl (by kernel_rfl) (by kernel_rfl) (by kernel_rfl) (fun _ _ _ h => h) (by rfl) ?yapd21 ?_
    case yapd21 => (intro w' hw'; exact exec_to _ _ (by rfl) A n0 cp c (by rfl) (by rfl) (by omega) (by omega))
    simp only [Act.put]; try simp only [List.setIfInBounds_toArray]; try simp only [List.set_cons_zero, List.set_cons_succ]
    refine wpAnyL_take (i := 22) (d := some 34) (v := ?vapd22) rfl rfl (by kernel_rfl) (by kernel_rfl) (by kernel_rfl) (fun _ _ _ h => h) (by rfl) ?yapd22 ?_
    case yapd22 => (intro w' hw'; go_simp; try (with_reducible rfl))
    simp only [Act.put]; try simp only [List.setIfInBounds_toArray]; try simp only [List.set_cons_zero, List.set_cons_succ]
    refine wpAnyL_take (i := 24) (d := some 36) (v := ?vapd24) rfl rfl (by kernel_rfl) (by kernel_rfl) (by kernel_rfl) (fun _ _ _ h => h) (by rfl) ?yapd24 ?_
    case yapd24 => (intro w' hw'; go_simp; try (with_reducible rfl))
    simp only [Act.put]; try simp only [List.setIfInBounds_toArray]; try simp only [List.set_cons_zero, List.set_cons_succ]
    refine wpAnyL_take (i := 25) (d := some 37) (v := ?vapd25) rfl rfl (by kernel_rfl) (by kernel_rfl) (by kernel_rfl) (fun _ _ _ h => h) (by rfl) ?yapd25 ?_
    case yapd25 => (intro w' hw'; go_simp; try (with_reducible rfl))
    simp only [Act.put]; try simp only [List.setIfInBounds_toArray]; try simp only [List.set_cons_zero, List.set_cons_succ]
    refine wpAnyL_take (i := 26) (d := some 38) (v := ?vapd26) rfl rfl (by kernel_rfl) (by kernel_rfl) (by kernel_rfl) (fun _ _ _ h => h) (by rfl) ?yapd26 ?_
    case yapd26 => (intro w' hw'; go_simp; try (with_reducible rfl))
    simp only [Act.put]; try simp only [List.setIfInBounds_toArray]; try simp only [List.set_cons_zero, List.set_cons_succ]
    refine wpAnyL_take (i := 27) (d := some 39) (v := ?vapd27) rfl rfl (by kernel_rfl) (by kernel_rfl) (by kernel_rfl) (fun _ _ _ h => h) (by rfl) ?yapd27 ?_
    case yapd27 => (intro w' hw'; obtain ⟨c0, c1, f0, f1⟩ := (H.out.later ((Below.refl w.heap.size w).drew.trans hw')).cells; go_simp; try (with_reducible rfl))
    simp only [Act.put]; try simp only [List.setIfInBounds_toArray]; try simp only [List.set_cons_zero, List.set_cons_succ]
    refine wpAnyL_only (i := 23) rfl (by kernel_rfl) (by rfl) fun K hK => ?_
    go_simp
    refine (refprefix_any F F _ _ (L.take c) M _ (HLC.out _ (Below.refl w.heap.size w).drew) (HMA.out _ (Below.refl w.heap.size w).drew)).mono ?_
    rw [HPRE.out]
    rintro e w1 ⟨rfl, hb1⟩
    have HB1 : Hid (Below w.heap.size w w1) := (Below.refl w.heap.size w).drew.trans hb1
    refine hK.out _ _ hb1 ?_
    clear hb1
    clear hK K
    try (simp only [Act.put]; try simp only [List.setIfInBounds_toArray]; try simp only [List.set_cons_zero, List.set_cons_succ])
    refine wpAnyL_take (i := 28) (d := some 40) (v := .bool false) rfl rfl (by kernel_rfl) (by kernel_rfl) (by kernel_rfl) (fun _ _ _ h => h) (by rfl) ?yapd28 ?_
    case yapd28 => (intro w' hw'; have hb := DPR.out; go_simp; try (with_reducible rfl))
    simp only [Act.put]; try simp only [List.setIfInBounds_toArray]; try simp only [List.set_cons_zero, List.set_cons_succ]
    refine wpAnyL_take (i := 29) (d := some 41) (v := ?vapd29) rfl rfl (by kernel_rfl) (by kernel_rfl) (by kernel_rfl) (fun _ _ _ h => h) (by rfl) ?yapd29 ?_
    case yapd29 => (intro w' hw'; go_simp; try (with_reducible rfl))
    simp only [Act.put]; try simp only [List.setIfInBounds_toArray]; try simp only [List.set_cons_zero, List.set_cons_succ]
    refine wpAnyL_take (i := 30) (d := some 11) (v := ?vapd30) rfl rfl (by kernel_rfl) (by kernel_rfl) (by kernel_rfl) (fun _ _ _ h => h) (by rfl) ?yapd30 ?_
    case yapd30 => (intro w' hw'; go_simp; try (with_reducible rfl))
    simp only [Act.put]; try simp only [List.setIfInBounds_toArray]; try simp only [List.set_cons_zero, List.set_cons_succ]
    refine wpAnyL_done (by kernel_rfl) ?_ _
    obtain ⟨c0, c1, f0, f1⟩ := (H.out.later HB1.out).cells
    have hr1 : r < w1.heap.size := Nat.lt_of_lt_of_le hr HB1.out.size
    go_wp2_with (first
      | (refine wpList_empty (by rfl) (by rfl) ?_; intro w2 he; have HE := hide he; have HB2 : Hid (Below w.heap.size w w2) := HB1.out.trans (he.2.1.mono HB1.out.size); obtain ⟨c0, c1, f0, f1⟩ := (H.out.later HB2.out).cells; have hr2 : r < w2.heap.size := Nat.lt_of_lt_of_le hr HB2.out.size; clear he)
      | (refine wpList_append_ops (by rfl) (B := w1.heap.size) (qs := []) (rs := ms) (F := F) (G := F) _ _ (by rfl) (by rfl) HE.out.1 (by simp) (by rfl) (HM.out _ HB2.out) (by have := HK0.out; simp; omega) (by have := HE.out.2.1.size; omega) ?_; intro ts3 A3 cp3 w3 e3 ho3 hg3 hc3; have HO3 := hide ho3; have HB3 : Hid (Below w.heap.size w w3) := HB1.out.trans ((own_grown HE.out.2.1 HE.out.1 hg3).mono HB1.out.size); obtain ⟨c0, c1, f0, f1⟩ := (H.out.later HB3.out).cells; have hr3 : r < w3.heap.size := Nat.lt_of_lt_of_le hr HB3.out.size; clear ho3 hg3))
    go_ret
    unfold LeftR
    rw [HR.out]
    have hst : ∀ p ∈ ts3, StepsAt F w3 p.2 p.1.steps := fun p hp => by
      rw [e3.out, List.nil_append] at hp
      exact (HM.out _ HB3.out).2 p hp
    have hl3 : ts3.length ≤ 2000 := by rw [e3.out, List.nil_append, HK0.out]; exact hk20
    have hM3 : ts3.map (·.1) = M := by rw [e3.out, List.nil_append, HMS.out]
    have hck : c ≤ ts3.length := by
      rw [e3.out, List.nil_append, HK0.out]
      have h1 := HMM.out
      have h2 := DLO.out
      simp at h2
      omega
    obtain ⟨k1, k2⟩ := H.out.put HB3.out (own_ops HO3.out (fun i hi => H.out.new i (Nat.le_trans HB1.out.size hi)) hst) hl3 hck
    obtain ⟨k3, k4⟩ := k1.count (Below.refl _ _) (d := m) (by rw [hM3, HML.out]; exact hmk)
    rw [hM3] at k3
    rw [HMM.out]
    exact ⟨rfl, ⟨_, _, k3⟩, k2.trans k4⟩

/- The document's log: Add. -/

theorem own_base {w' : World} {B B' : Nat} {v : Value} {n : Nat} {xs : List Value} (h : w'.ownsRow B 33 10 v n xs) (hb : B' ≤ B) : w'.ownsRow B' 33 10 v n xs := by
  refine ⟨h.1, ?_⟩
  rcases h.2 with h0 | ⟨g, cap, cur, hv, h1, h2⟩
  · exact .inl h0
  · exact .inr ⟨g, cap, cur, hv, Nat.le_trans hb h1, h2⟩
theorem own_lit {g q : Nat} (e : Value.ownBlock (.slice (some ⟨g, 0, none⟩) 0 0) = some q) : g = q := by simpa [Value.ownBlock] using e
/-- A list of one operation, in a new block. -/
theorem one_here {W : World} (w : World) (o : OpD) (s : Value) (hs : StepsAt (· < W.heap.size) W s o.steps) (hb : Below W.heap.size W w) :
    OpsIn (fun i => i = w.heap.size ∨ i < W.heap.size) (w.alloc (.cells (o.cells s).toArray 33 (0, 0))) (.slice (some ⟨w.heap.size, 0, none⟩) 1 1) [(o, s)] := by
  refine ⟨?_, fun p hp => ?_⟩
  · have h := flat_one w 33 10 (o.cells s).toArray (by rfl) (fun u hu => o.one (FlatAt.oneCell hs) u (by simpa using hu)) (fun i => i = w.heap.size ∨ i < W.heap.size) (.inl rfl)
    simpa using h
  · obtain rfl : p = (o, s) := by simpa using hp
    exact ((hs.kept (Kept.of_below hb _)).kept (Kept.of_below ((Below.refl _ _).alloc (Nat.le_refl _) _) _)).mono fun i _ hi => .inr hi
/-- What Add of the document's says and leaves. -/
def AddsR (F : Nat → Prop) (r c : Nat) (x : List OpD × Int × Int) (w : World) (e : Ending) (w' : World) : Prop := e = .returned (.tuple #[.int .i64 x.2.1, .int .i64 x.2.2]) ∧ RAt F w' r x.1 c ∧ w.grownBy w' (some r)
set_option maxHeartbeats 40000000 in
set_option maxRecDepth 100000 in
theorem refadd_any {F : Nat → Prop} {r c : Nat} {L : List OpD} (o : OpD) (s : Value) (w : World) (h : RAt F w r L c) (hs : StepsAt F w s o.steps) :
    Calls Try.prog 29 #[.pointer (some ⟨r, 0, none⟩), .agg (o.cells s).toArray] w (AddsR F r c (addR L o) w) := by
  obtain ⟨i0, hi, hz0, hz1, hz2⟩ := info_parts Try.infoOp
  obtain ⟨v, ps, h⟩ := h
  obtain ⟨A, cp, rfl, hn1, hn2⟩ := h.shape
  have hlen := h.len
  have hcom := h.com
  have hpl : ps.length = L.length := by rw [← h.says, List.length_map]
  obtain ⟨n0, hn0⟩ : ∃ n0, L.length = n0 := ⟨_, rfl⟩
  rw [hn0] at h hn1 hlen hcom hpl
  obtain ⟨c0, c1, f0, f1⟩ := h.cells
  have hr := h.lt
  have H := hide h
  have HN := hide hn0
  have HPL := hide hpl
  unfold maxLen at hn2
  clear h hn0 hpl
  have HSF := hide hs
  obtain ⟨W, hW⟩ : ∃ W, W = w.alloc (.cells (o.cells s).toArray 33 (0, 0)) := ⟨_, rfl⟩
  have HBW : Hid (Below w.heap.size w W) := by rw [hW]; exact (Below.refl _ _).alloc (Nat.le_refl _) _
  have HX : Hid (W.heap[w.heap.size]? = some (.cells (o.cells s).toArray 33 (0, 0))) := by rw [hW]; exact heap_alloc_new _ _
  have HW := hide (H.out.later HBW.out)
  have HS : Hid (StepsAt (· < W.heap.size) W s o.steps) := (hs.kept (Kept.of_below HBW.out _)).mono fun i hi _ => hi
  have HWE := hide hW
  clear hs hW
  have ha : addR L o = if n0 < 2000 then (L ++ [o], ((n0 + 1 : Nat) : Int), 0) else (L, 0, 7) := by unfold addR; rw [HN.out]
  have HA := hide ha
  clear ha
  by_cases hf : n0 < 2000
  · have HR : Hid (addR L o = (L ++ [o], ((n0 + 1 : Nat) : Int), 0)) := by show _ = _; rw [HA.out, if_pos hf]
    have hf1 : decide ((2000 : Int) ≤ (n0 : Int)) = false := by simp; omega
    have hf2 : decide (2000 ≤ n0) = false := by simp; omega
    have HWD := hide (HW.out.later (Below.refl W.heap.size W).drew)
    have HPS : Hid (∀ w', Below W.heap.size W w' → OpsIn F w' (.slice A n0 cp) ps) := fun w' hb => (HW.out.later hb).ops
    have HB0 : Hid (Below W.heap.size W W.drew) := (Below.refl _ _).drew
    have hr : r < W.heap.size := HW.out.lt
    clear HA
    go_enter Try.func29, Try.ntmps29
    go_wp2
    rw [← HWE.out]
    clear c0 c1 f0 f1
    refine wp_region_V (fun a b => Kept (fun i => i < W.heap.size) a b) (fun j => j == 12) (by kernel_rfl) ?_
    refine wpAnyV_take (pre_keptL (fun i => i < W.heap.size)) (i := 0) (d := some 12) (v := ?vaad0) rfl rfl (by kernel_rfl) (by kernel_rfl) (by kernel_rfl) (by kernel_rfl) (by kernel_rfl) (fun _ _ _ h => h) (by rfl) ?yaad0 ?_
    case yaad0 => (intro w' hw'; go_simp; try (with_reducible rfl))
    simp only [Act.put]; try simp only [List.setIfInBounds_toArray]; try simp only [List.set_cons_zero, List.set_cons_succ]
    refine wpAnyV_take (pre_keptL (fun i => i < W.heap.size)) (i := 2) (d := some 14) (v := ?vaad2) rfl rfl (by kernel_rfl) (by kernel_rfl) (by kernel_rfl) (by kernel_rfl) (by kernel_rfl) (fun _ _ _ h => h) (by rfl) ?yaad2 ?_
    case yaad2 => (intro w' hw'; go_simp; try (with_reducible rfl))
    simp only [Act.put]; try simp only [List.setIfInBounds_toArray]; try simp only [List.set_cons_zero, List.set_cons_succ]
    refine wpAnyV_take (pre_keptL (fun i => i < W.heap.size)) (i := 3) (d := some 15) (v := ?vaad3) rfl rfl (by kernel_rfl) (by kernel_rfl) (by kernel_rfl) (by kernel_rfl) (by kernel_rfl) (fun _ _ _ h => h) (by rfl) ?yaad3 ?_
    case yaad3 => (intro w' hw'; go_simp; try (with_reducible rfl))
    simp only [Act.put]; try simp only [List.setIfInBounds_toArray]; try simp only [List.set_cons_zero, List.set_cons_succ]
    refine wpAnyV_take (pre_keptL (fun i => i < W.heap.size)) (i := 4) (d := some 16) (v := ?vaad4) rfl rfl (by kernel_rfl) (by kernel_rfl) (by kernel_rfl) (by kernel_rfl) (by kernel_rfl) (fun _ _ _ h => h) (by rfl) ?yaad4 ?_
    case yaad4 => (intro w' hw'; go_simp; try (with_reducible rfl))
    simp only [Act.put]; try simp only [List.setIfInBounds_toArray]; try simp only [List.set_cons_zero, List.set_cons_succ]
    refine wpAnyV_take (pre_keptL (fun i => i < W.heap.size)) (i := 5) (d := some 17) (v := .slice A n0 cp) rfl rfl (by kernel_rfl) (by kernel_rfl) (by kernel_rfl) (by kernel_rfl) (by kernel_rfl) (fun _ _ _ h => h) (by rfl) ?yaad5 ?_
    case yaad5 => (intro w' hw'; obtain ⟨d0, d1⟩ := HWD.out.cellsK hw' hr; go_simp; try (with_reducible rfl))
    simp only [Act.put]; try simp only [List.setIfInBounds_toArray]; try simp only [List.set_cons_zero, List.set_cons_succ]
    refine wpAnyV_take (pre_keptL (fun i => i < W.heap.size)) (i := 7) (d := some 19) (v := .agg (o.cells s).toArray) rfl rfl (by kernel_rfl) (by kernel_rfl) (by kernel_rfl) (by kernel_rfl) (by kernel_rfl) (fun _ _ _ h => h) (by rfl) ?yaad7 ?_
    case yaad7 => (intro w' hw'; have hx7 := (hw'.2 w.heap.size (by have := lt_of_block HX.out; exact this) (by have := lt_of_block HX.out; exact this)).trans HX.out; exact exec_load_box 33 _ (by rfl) w.heap.size 0 (by rfl) 33 _ hx7 10 _ Try.underlying33 (by rfl) (by kernel_rfl) (o.cells s) (by rfl) (by rfl))
    simp only [Act.put]; try simp only [List.setIfInBounds_toArray]; try simp only [List.set_cons_zero, List.set_cons_succ]
    refine wpAnyV_two (i := 1) (j := 8) rfl rfl (by kernel_rfl) (by rfl) (by rfl) (fun K hK => ?_) (fun K hK => ?_)
    · skip
      refine wp_empty (by rfl) ?_
      intro wa he
      have HBa : Hid (Below W.heap.size W wa) := HB0.out.trans (he.2.1.mono HB0.out.size)
      have HE : Hid (wa.ownsRow W.heap.size 33 10 (.slice (some ⟨W.drew.heap.size, 0, none⟩) 0 0) ([] : List (OpD × Value)).length (opcells [])) := own_base he.1 HB0.out.size
      have HG : Hid (W.heap.size ≤ W.drew.heap.size) := HB0.out.size
      refine hK.out _ _ (Kept.of_below he.2.1 _) ?_
      clear he
      clear hK K
      try (simp only [Act.put]; try simp only [List.setIfInBounds_toArray]; try simp only [List.set_cons_zero, List.set_cons_succ])
      refine wpAnyV_two (i := 6) (j := 8) rfl rfl (by kernel_rfl) (by rfl) (by rfl) (fun K hK => ?_) (fun K hK => ?_)
      · skip
        refine wp_append_ops (B := W.heap.size) (qs := []) (rs := ps) (F := F) (G := F) _ _ (by rfl) (by rfl) HE.out (by simp) (by rfl) (HPS.out _ HBa.out) (by have := HPL.out; simp; omega) HBa.out.size ?_
        intro ts6 A6 cp6 wc e6 ho6 hg6 hc6
        have HO := hide ho6
        have HBc : Hid (Below W.heap.size W wc) := own_grown HBa.out HE.out hg6
        have hk6 : Kept (fun i => i < W.heap.size) wa wc := emp_grown hg6 HG.out
        refine hK.out _ _ hk6 ?_
        clear ho6 hg6 hk6
        clear hK K
        try (simp only [Act.put]; try simp only [List.setIfInBounds_toArray]; try simp only [List.set_cons_zero, List.set_cons_succ])
        refine wpAnyV_only (pre_keptL (fun i => i < W.heap.size)) (i := 8) rfl (by kernel_rfl) (by rfl) fun K hK => ?_
        refine wp_buildSlice_one 39 33 _ (by rfl) i0 _ 10 Try.underlying39 hi hz0 hz1 (by decide) (by decide) (o.cells s).toArray (by rfl) (by rfl) ?_
        obtain ⟨wb, hwb⟩ : ∃ wb, wb = wc.alloc (.cells (o.cells s).toArray 33 (0, 0)) := ⟨_, rfl⟩
        have hbb : Below wc.heap.size wc wb := by rw [hwb]; exact (Below.refl _ _).alloc (Nat.le_refl _) _
        have HBb : Hid (Below W.heap.size W wb) := HBc.out.trans (hbb.mono HBc.out.size)
        obtain ⟨b9, hb9⟩ : ∃ b9, b9 = wc.heap.size := ⟨_, rfl⟩
        have F9 : Hid (OpsIn (fun i => i = b9 ∨ i < W.heap.size) wb (.slice (some ⟨b9, 0, none⟩) 1 1) [(o, s)]) := by rw [hb9, hwb]; exact one_here wc o s HS.out HBc.out
        have HB9 : Hid (b9 < wb.heap.size) := by rw [hb9, hwb]; show _ < _; simp
        have hl9 : wc.heap.size ≤ b9 := Nat.le_of_eq hb9.symm
        rw [← hb9]
        rw [← hwb]
        have HOb := hide (own_kept HO.out (fun q hq => hbb.block q (own_in HO.out q hq)))
        refine hK.out _ _ (Kept.of_below hbb _) ?_
        clear hbb hwb hb9 hl9
        clear hK K
        try (simp only [Act.put]; try simp only [List.setIfInBounds_toArray]; try simp only [List.set_cons_zero, List.set_cons_succ])
        refine wpAnyV_only (pre_keptL (fun i => i < W.heap.size)) (i := 9) rfl (by kernel_rfl) (by rfl) fun K hK => ?_
        refine wp_append_ops (B := W.heap.size) (qs := ts6) (rs := [(o, s)]) (F := fun i => i = b9 ∨ i < W.heap.size) (G := F) _ _ (by rfl) (by rfl) HOb.out (fun p hp => (by rw [e6.out, List.nil_append] at hp; exact (HPS.out _ HBb.out).2 p hp)) (by rfl) F9.out (by have h1 := HPL.out; rw [e6.out]; simp; omega) HBb.out.size ?_
        intro ts9 A9 cp9 wd e9 ho9 hg9 hc9
        have HO9 := hide ho9
        have HBd : Hid (Below W.heap.size W wd) := own_grown HBb.out HOb.out hg9
        have hk9 : Kept (fun i => i < W.heap.size) wb wd := Kept.of_grown hg9 (fun q e hq => by have h1 := (HOb.out.lt q e).1; have h2 : q < W.heap.size := hq; omega)
        refine hK.out _ _ hk9 ?_
        clear ho9 hg9 hk9
        clear hK K
        try (simp only [Act.put]; try simp only [List.setIfInBounds_toArray]; try simp only [List.set_cons_zero, List.set_cons_succ])
        refine wpAnyV_take (pre_keptL (fun i => i < W.heap.size)) (i := 10) (d := some 22) (v := .pointer (some ⟨r, 0, none⟩)) rfl rfl (by kernel_rfl) (by kernel_rfl) (by kernel_rfl) (by kernel_rfl) (by kernel_rfl) (fun _ _ _ h => h) (by rfl) ?yaadxx10 ?_
        case yaadxx10 => (intro w' hw'; go_simp; try (with_reducible rfl))
        simp only [Act.put]; try simp only [List.setIfInBounds_toArray]; try simp only [List.set_cons_zero, List.set_cons_succ]
        refine wpAnyV_take (pre_keptL (fun i => i < W.heap.size)) (i := 11) (d := some 23) (v := .pointer (some ⟨r, 0, none⟩)) rfl rfl (by kernel_rfl) (by kernel_rfl) (by kernel_rfl) (by kernel_rfl) (by kernel_rfl) (fun _ _ _ h => h) (by rfl) ?yaadxx11 ?_
        case yaadxx11 => (intro w' hw'; go_simp; try (with_reducible rfl))
        simp only [Act.put]; try simp only [List.setIfInBounds_toArray]; try simp only [List.set_cons_zero, List.set_cons_succ]
        refine wpAnyV_write (i := 12) rfl rfl (by kernel_rfl) (by rfl) fun K hK => ?_
        have hcs := (HW.out.later HBd.out).cells
        have c0 := hcs.1
        have f0 := hcs.2.2.1
        clear hcs
        go_simp
        refine hK.out _ _ ?_
        clear c0 f0
        clear hK K
        try simp only [Act.put]
        refine wpAnyV_done (by kernel_rfl) ?_ _
        have hst : ∀ p ∈ ts9, StepsAt F wd p.2 p.1.steps := fun p hp => by
          rw [e9.out, e6.out, List.nil_append] at hp
          rcases List.mem_append.1 hp with hp | hp
          · exact (HPS.out _ HBd.out).2 p hp
          · obtain rfl : p = (o, s) := by simpa using hp
            exact HSF.out.kept (Kept.of_below (HBW.out.trans (HBd.out.mono HBW.out.size)) _)
        have hl9 : ts9.length = n0 + 1 := by rw [e9.out, e6.out, List.nil_append, List.length_append, HPL.out]; rfl
        have hM9 : ts9.map (·.1) = L ++ [o] := by rw [e9.out, e6.out, List.nil_append, List.map_append, HW.out.says]; rfl
        obtain ⟨q1, q2⟩ := HW.out.put HBd.out (own_ops HO9.out HW.out.new hst) (by rw [hl9]; omega) (by rw [hl9]; omega)
        rw [hM9] at q1
        have HQ1 := hide q1
        have HQ2 := hide q2
        obtain ⟨d0, d1, _, _⟩ := q1.cells
        clear q1 q2 hst hM9
        have HL9 := hide hl9
        clear hl9
        go_wp2
        go_ret2
        unfold AddsR
        rw [HR.out]
        refine ⟨?_, ⟨_, _, HQ1.out⟩, (grown_later HBW.out _).trans HQ2.out⟩
        simp only [HL9.out]
        rfl
      · skip
        refine wp_buildSlice_one 39 33 _ (by rfl) i0 _ 10 Try.underlying39 hi hz0 hz1 (by decide) (by decide) (o.cells s).toArray (by rfl) (by rfl) ?_
        obtain ⟨wb, hwb⟩ : ∃ wb, wb = wa.alloc (.cells (o.cells s).toArray 33 (0, 0)) := ⟨_, rfl⟩
        have hbb : Below wa.heap.size wa wb := by rw [hwb]; exact (Below.refl _ _).alloc (Nat.le_refl _) _
        have HBb : Hid (Below W.heap.size W wb) := HBa.out.trans (hbb.mono HBa.out.size)
        obtain ⟨b9, hb9⟩ : ∃ b9, b9 = wa.heap.size := ⟨_, rfl⟩
        have F9 : Hid (OpsIn (fun i => i = b9 ∨ i < W.heap.size) wb (.slice (some ⟨b9, 0, none⟩) 1 1) [(o, s)]) := by rw [hb9, hwb]; exact one_here wa o s HS.out HBa.out
        have HB9 : Hid (b9 < wb.heap.size) := by rw [hb9, hwb]; show _ < _; simp
        have hl9 : wa.heap.size ≤ b9 := Nat.le_of_eq hb9.symm
        rw [← hb9]
        rw [← hwb]
        have HEb := hide (own_kept HE.out (fun q hq => hbb.block q (own_in HE.out q hq)))
        have HNE : Hid (b9 ≠ W.drew.heap.size) := (by have h1 : W.drew.heap.size < wa.heap.size := own_in HE.out _ rfl; show _ ≠ _; omega)
        refine hK.out _ _ (Kept.of_below hbb _) ?_
        clear hbb hwb hb9 hl9
        clear hK K
        try (simp only [Act.put]; try simp only [List.setIfInBounds_toArray]; try simp only [List.set_cons_zero, List.set_cons_succ])
        refine wpAnyV_only (pre_keptL (fun i => i < W.heap.size)) (i := 6) rfl (by kernel_rfl) (by rfl) fun K hK => ?_
        refine wp_append_ops (B := W.heap.size) (qs := []) (rs := ps) (F := F) (G := F) _ _ (by rfl) (by rfl) HEb.out (by simp) (by rfl) (HPS.out _ HBb.out) (by have := HPL.out; simp; omega) HBb.out.size ?_
        intro ts6 A6 cp6 wc e6 ho6 hg6 hc6
        have HO := hide ho6
        have HBc : Hid (Below W.heap.size W wc) := own_grown HBb.out HEb.out hg6
        have hk6 : Kept (fun i => i < W.heap.size) wb wc := emp_grown hg6 HG.out
        have F9c : Hid (OpsIn (fun i => i = b9 ∨ i < W.heap.size) wc (.slice (some ⟨b9, 0, none⟩) 1 1) [(o, s)]) := F9.out.kept (Kept.of_grown hg6 (fun q e hq => by
          have e2 := own_lit e
          have h1 := HNE.out
          have h2 := HG.out
          rcases hq with hq | hq
          · exact h1 (hq.symm.trans e2.symm)
          · omega))
        refine hK.out _ _ hk6 ?_
        clear ho6 hg6 hk6
        clear hK K
        try (simp only [Act.put]; try simp only [List.setIfInBounds_toArray]; try simp only [List.set_cons_zero, List.set_cons_succ])
        refine wpAnyV_only (pre_keptL (fun i => i < W.heap.size)) (i := 9) rfl (by kernel_rfl) (by rfl) fun K hK => ?_
        refine wp_append_ops (B := W.heap.size) (qs := ts6) (rs := [(o, s)]) (F := fun i => i = b9 ∨ i < W.heap.size) (G := F) _ _ (by rfl) (by rfl) HO.out (fun p hp => (by rw [e6.out, List.nil_append] at hp; exact (HPS.out _ HBc.out).2 p hp)) (by rfl) F9c.out (by have h1 := HPL.out; rw [e6.out]; simp; omega) HBc.out.size ?_
        intro ts9 A9 cp9 wd e9 ho9 hg9 hc9
        have HO9 := hide ho9
        have HBd : Hid (Below W.heap.size W wd) := own_grown HBc.out HO.out hg9
        have hk9 : Kept (fun i => i < W.heap.size) wc wd := Kept.of_grown hg9 (fun q e hq => by have h1 := (HO.out.lt q e).1; have h2 : q < W.heap.size := hq; omega)
        refine hK.out _ _ hk9 ?_
        clear ho9 hg9 hk9
        clear hK K
        try (simp only [Act.put]; try simp only [List.setIfInBounds_toArray]; try simp only [List.set_cons_zero, List.set_cons_succ])
        refine wpAnyV_take (pre_keptL (fun i => i < W.heap.size)) (i := 10) (d := some 22) (v := .pointer (some ⟨r, 0, none⟩)) rfl rfl (by kernel_rfl) (by kernel_rfl) (by kernel_rfl) (by kernel_rfl) (by kernel_rfl) (fun _ _ _ h => h) (by rfl) ?yaadxy10 ?_
        case yaadxy10 => (intro w' hw'; go_simp; try (with_reducible rfl))
        simp only [Act.put]; try simp only [List.setIfInBounds_toArray]; try simp only [List.set_cons_zero, List.set_cons_succ]
        refine wpAnyV_take (pre_keptL (fun i => i < W.heap.size)) (i := 11) (d := some 23) (v := .pointer (some ⟨r, 0, none⟩)) rfl rfl (by kernel_rfl) (by kernel_rfl) (by kernel_rfl) (by kernel_rfl) (by kernel_rfl) (fun _ _ _ h => h) (by rfl) ?yaadxy11 ?_
        case yaadxy11 => (intro w' hw'; go_simp; try (with_reducible rfl))
        simp only [Act.put]; try simp only [List.setIfInBounds_toArray]; try simp only [List.set_cons_zero, List.set_cons_succ]
        refine wpAnyV_write (i := 12) rfl rfl (by kernel_rfl) (by rfl) fun K hK => ?_
        have hcs := (HW.out.later HBd.out).cells
        have c0 := hcs.1
        have f0 := hcs.2.2.1
        clear hcs
        go_simp
        refine hK.out _ _ ?_
        clear c0 f0
        clear hK K
        try simp only [Act.put]
        refine wpAnyV_done (by kernel_rfl) ?_ _
        have hst : ∀ p ∈ ts9, StepsAt F wd p.2 p.1.steps := fun p hp => by
          rw [e9.out, e6.out, List.nil_append] at hp
          rcases List.mem_append.1 hp with hp | hp
          · exact (HPS.out _ HBd.out).2 p hp
          · obtain rfl : p = (o, s) := by simpa using hp
            exact HSF.out.kept (Kept.of_below (HBW.out.trans (HBd.out.mono HBW.out.size)) _)
        have hl9 : ts9.length = n0 + 1 := by rw [e9.out, e6.out, List.nil_append, List.length_append, HPL.out]; rfl
        have hM9 : ts9.map (·.1) = L ++ [o] := by rw [e9.out, e6.out, List.nil_append, List.map_append, HW.out.says]; rfl
        obtain ⟨q1, q2⟩ := HW.out.put HBd.out (own_ops HO9.out HW.out.new hst) (by rw [hl9]; omega) (by rw [hl9]; omega)
        rw [hM9] at q1
        have HQ1 := hide q1
        have HQ2 := hide q2
        obtain ⟨d0, d1, _, _⟩ := q1.cells
        clear q1 q2 hst hM9
        have HL9 := hide hl9
        clear hl9
        go_wp2
        go_ret2
        unfold AddsR
        rw [HR.out]
        refine ⟨?_, ⟨_, _, HQ1.out⟩, (grown_later HBW.out _).trans HQ2.out⟩
        simp only [HL9.out]
        rfl
    · skip
      refine wp_buildSlice_one 39 33 _ (by rfl) i0 _ 10 Try.underlying39 hi hz0 hz1 (by decide) (by decide) (o.cells s).toArray (by rfl) (by rfl) ?_
      obtain ⟨wb, hwb⟩ : ∃ wb, wb = W.drew.alloc (.cells (o.cells s).toArray 33 (0, 0)) := ⟨_, rfl⟩
      have hbb : Below W.drew.heap.size W.drew wb := by rw [hwb]; exact (Below.refl _ _).alloc (Nat.le_refl _) _
      have HBb : Hid (Below W.heap.size W wb) := HB0.out.trans (hbb.mono HB0.out.size)
      obtain ⟨b9, hb9⟩ : ∃ b9, b9 = W.drew.heap.size := ⟨_, rfl⟩
      have F9 : Hid (OpsIn (fun i => i = b9 ∨ i < W.heap.size) wb (.slice (some ⟨b9, 0, none⟩) 1 1) [(o, s)]) := by rw [hb9, hwb]; exact one_here W.drew o s HS.out HB0.out
      have HB9 : Hid (b9 < wb.heap.size) := by rw [hb9, hwb]; show _ < _; simp
      have hl9 : W.drew.heap.size ≤ b9 := Nat.le_of_eq hb9.symm
      rw [← hb9]
      rw [← hwb]
      refine hK.out _ _ (Kept.of_below hbb _) ?_
      clear hbb hwb hb9 hl9
      clear hK K
      try (simp only [Act.put]; try simp only [List.setIfInBounds_toArray]; try simp only [List.set_cons_zero, List.set_cons_succ])
      refine wpAnyV_only (pre_keptL (fun i => i < W.heap.size)) (i := 1) rfl (by kernel_rfl) (by rfl) fun K hK => ?_
      refine wp_empty (by rfl) ?_
      intro wa he
      have HBa : Hid (Below W.heap.size W wa) := HBb.out.trans (he.2.1.mono HBb.out.size)
      have HE : Hid (wa.ownsRow W.heap.size 33 10 (.slice (some ⟨wb.heap.size, 0, none⟩) 0 0) ([] : List (OpD × Value)).length (opcells [])) := own_base he.1 HBb.out.size
      have HG : Hid (W.heap.size ≤ wb.heap.size) := HBb.out.size
      have F9a : Hid (OpsIn (fun i => i = b9 ∨ i < W.heap.size) wa (.slice (some ⟨b9, 0, none⟩) 1 1) [(o, s)]) := F9.out.kept (Kept.of_below he.2.1 _)
      have HNE : Hid (b9 ≠ wb.heap.size) := (by have := HB9.out; show _ ≠ _; omega)
      refine hK.out _ _ (Kept.of_below he.2.1 _) ?_
      clear he
      clear hK K
      try (simp only [Act.put]; try simp only [List.setIfInBounds_toArray]; try simp only [List.set_cons_zero, List.set_cons_succ])
      refine wpAnyV_only (pre_keptL (fun i => i < W.heap.size)) (i := 6) rfl (by kernel_rfl) (by rfl) fun K hK => ?_
      refine wp_append_ops (B := W.heap.size) (qs := []) (rs := ps) (F := F) (G := F) _ _ (by rfl) (by rfl) HE.out (by simp) (by rfl) (HPS.out _ HBa.out) (by have := HPL.out; simp; omega) HBa.out.size ?_
      intro ts6 A6 cp6 wc e6 ho6 hg6 hc6
      have HO := hide ho6
      have HBc : Hid (Below W.heap.size W wc) := own_grown HBa.out HE.out hg6
      have hk6 : Kept (fun i => i < W.heap.size) wa wc := emp_grown hg6 HG.out
      have F9c : Hid (OpsIn (fun i => i = b9 ∨ i < W.heap.size) wc (.slice (some ⟨b9, 0, none⟩) 1 1) [(o, s)]) := F9a.out.kept (Kept.of_grown hg6 (fun q e hq => by
        have e2 := own_lit e
        have h1 := HNE.out
        have h2 := HG.out
        rcases hq with hq | hq
        · exact h1 (hq.symm.trans e2.symm)
        · omega))
      refine hK.out _ _ hk6 ?_
      clear ho6 hg6 hk6
      clear hK K
      try (simp only [Act.put]; try simp only [List.setIfInBounds_toArray]; try simp only [List.set_cons_zero, List.set_cons_succ])
      refine wpAnyV_only (pre_keptL (fun i => i < W.heap.size)) (i := 9) rfl (by kernel_rfl) (by rfl) fun K hK => ?_
      refine wp_append_ops (B := W.heap.size) (qs := ts6) (rs := [(o, s)]) (F := fun i => i = b9 ∨ i < W.heap.size) (G := F) _ _ (by rfl) (by rfl) HO.out (fun p hp => (by rw [e6.out, List.nil_append] at hp; exact (HPS.out _ HBc.out).2 p hp)) (by rfl) F9c.out (by have h1 := HPL.out; rw [e6.out]; simp; omega) HBc.out.size ?_
      intro ts9 A9 cp9 wd e9 ho9 hg9 hc9
      have HO9 := hide ho9
      have HBd : Hid (Below W.heap.size W wd) := own_grown HBc.out HO.out hg9
      have hk9 : Kept (fun i => i < W.heap.size) wc wd := Kept.of_grown hg9 (fun q e hq => by have h1 := (HO.out.lt q e).1; have h2 : q < W.heap.size := hq; omega)
      refine hK.out _ _ hk9 ?_
      clear ho9 hg9 hk9
      clear hK K
      try (simp only [Act.put]; try simp only [List.setIfInBounds_toArray]; try simp only [List.set_cons_zero, List.set_cons_succ])
      refine wpAnyV_take (pre_keptL (fun i => i < W.heap.size)) (i := 10) (d := some 22) (v := .pointer (some ⟨r, 0, none⟩)) rfl rfl (by kernel_rfl) (by kernel_rfl) (by kernel_rfl) (by kernel_rfl) (by kernel_rfl) (fun _ _ _ h => h) (by rfl) ?yaady10 ?_
      case yaady10 => (intro w' hw'; go_simp; try (with_reducible rfl))
      simp only [Act.put]; try simp only [List.setIfInBounds_toArray]; try simp only [List.set_cons_zero, List.set_cons_succ]
      refine wpAnyV_take (pre_keptL (fun i => i < W.heap.size)) (i := 11) (d := some 23) (v := .pointer (some ⟨r, 0, none⟩)) rfl rfl (by kernel_rfl) (by kernel_rfl) (by kernel_rfl) (by kernel_rfl) (by kernel_rfl) (fun _ _ _ h => h) (by rfl) ?yaady11 ?_
      case yaady11 => (intro w' hw'; go_simp; try (with_reducible rfl))
      simp only [Act.put]; try simp only [List.setIfInBounds_toArray]; try simp only [List.set_cons_zero, List.set_cons_succ]
      refine wpAnyV_write (i := 12) rfl rfl (by kernel_rfl) (by rfl) fun K hK => ?_
      have hcs := (HW.out.later HBd.out).cells
      have c0 := hcs.1
      have f0 := hcs.2.2.1
      clear hcs
      go_simp
      refine hK.out _ _ ?_
      clear c0 f0
      clear hK K
      try simp only [Act.put]
      refine wpAnyV_done (by kernel_rfl) ?_ _
      have hst : ∀ p ∈ ts9, StepsAt F wd p.2 p.1.steps := fun p hp => by
        rw [e9.out, e6.out, List.nil_append] at hp
        rcases List.mem_append.1 hp with hp | hp
        · exact (HPS.out _ HBd.out).2 p hp
        · obtain rfl : p = (o, s) := by simpa using hp
          exact HSF.out.kept (Kept.of_below (HBW.out.trans (HBd.out.mono HBW.out.size)) _)
      have hl9 : ts9.length = n0 + 1 := by rw [e9.out, e6.out, List.nil_append, List.length_append, HPL.out]; rfl
      have hM9 : ts9.map (·.1) = L ++ [o] := by rw [e9.out, e6.out, List.nil_append, List.map_append, HW.out.says]; rfl
      obtain ⟨q1, q2⟩ := HW.out.put HBd.out (own_ops HO9.out HW.out.new hst) (by rw [hl9]; omega) (by rw [hl9]; omega)
      rw [hM9] at q1
      have HQ1 := hide q1
      have HQ2 := hide q2
      obtain ⟨d0, d1, _, _⟩ := q1.cells
      clear q1 q2 hst hM9
      have HL9 := hide hl9
      clear hl9
      go_wp2
      go_ret2
      unfold AddsR
      rw [HR.out]
      refine ⟨?_, ⟨_, _, HQ1.out⟩, (grown_later HBW.out _).trans HQ2.out⟩
      simp only [HL9.out]
      rfl
  · have HR : Hid (addR L o = (L, 0, 7)) := by show _ = _; rw [HA.out, if_neg hf]
    have hf1 : decide ((2000 : Int) ≤ (n0 : Int)) = true := by simp; omega
    have hf2 : decide (2000 ≤ n0) = true := by simp; omega
    clear HA
    go_enter Try.func29, Try.ntmps29
    go_wp2
    go_ret2
    unfold AddsR
    rw [HR.out, ← HWE.out]
    exact ⟨rfl, ⟨_, _, HW.out⟩, grown_later HBW.out _⟩

/- The code's log and the document's side by side: what is done to both. -/

/-- The code's log says L, the document's L2; the list v of M lies apart from both, and so does the block bx. -/
def PL (B : Nat) (w : World) (l r : Nat) (L : List OpD) (c : Nat) (L2 : List OpD) (c2 : Nat) (bx : Nat) (v : Value) (M : List OpD) : Prop :=
  ∃ S : Nat → Prop, Lg B S w l L c ∧ RAt (fun i => ¬ S i ∧ i ≠ r) w r L2 c2 ∧ OpsAt (fun i => ¬ S i ∧ i ≠ r) w v M ∧ ¬ S r ∧ ¬ S bx ∧ bx ≠ r ∧ bx < w.heap.size ∧ B ≤ r
/-- What stays as it is: the block bx, and what was there ahead of B. -/
def Stay (B bx : Nat) (w w' : World) : Prop := Kept (fun i => i = bx ∨ i < B) w w' ∧ Below B w w'
section
variable {B l r c c1 c2 bx : Nat} {w w' : World} {L L1 L2 M : List OpD} {v : Value}
theorem Stay.of_below (h : Below w.heap.size w w') (hB : B ≤ w.heap.size) : Stay B bx w w' := ⟨Kept.of_below h _, h.mono hB⟩
theorem Stay.kb (h : Stay B bx w w') : Kept (fun i => i = bx) w w' := h.1.mono fun _ _ e => .inl e
theorem PL.base (h : PL B w l r L c L2 c2 bx v M) : B ≤ w.heap.size := let ⟨_, h1, _⟩ := h; h1.base
theorem PL.blt (h : PL B w l r L c L2 c2 bx v M) : bx < w.heap.size := let ⟨_, _, _, _, _, _, _, h1, _⟩ := h; h1
theorem PL.list (h : PL B w l r L c L2 c2 bx v M) : OpsAt (fun _ => True) w v M := let ⟨_, _, _, h1, _⟩ := h; h1.mono fun _ _ _ => trivial
theorem PL.len (h : PL B w l r L c L2 c2 bx v M) : L.length ≤ 2000 := let ⟨_, h1, _⟩ := h; h1.len
theorem PL.mild (h : PL B w l r L c L2 c2 bx v M) : Mild L := let ⟨_, h1, _⟩ := h; h1.mild
theorem PL.later (h : PL B w l r L c L2 c2 bx v M) (hb : Below w.heap.size w w') : PL B w' l r L c L2 c2 bx v M := by
  obtain ⟨S, h1, h2, h3, h4, h5, h6, h7, h8⟩ := h
  exact ⟨S, h1.below hb, h2.later hb, h3.kept (Kept.of_below hb _), h4, h5, h6, Nat.lt_of_lt_of_le h7 hb.size, h8⟩
/-- Another list stands beside them. -/
theorem PL.with (h : PL B w l r L c L2 c2 bx v M) {v' : Value} {M' : List OpD} {N : Nat} (hv : OpsAt (fun i => i < B ∨ N ≤ i) w v' M') (hN : w.heap.size ≤ N ∨ (∀ S : Nat → Prop, Lg B S w l L c → ∀ i, N ≤ i → ¬ S i ∧ i ≠ r)) : PL B w l r L c L2 c2 bx v' M' := by
  obtain ⟨S, h1, h2, h3, h4, h5, h6, h7, h8⟩ := h
  refine ⟨S, h1, h2, hv.mono fun i hi hf => ?_, h4, h5, h6, h7, h8⟩
  rcases hf with hf | hf
  · exact ⟨fun hs => by have := (h1.1 i hs).1; omega, by omega⟩
  · rcases hN with hN | hN
    · omega
    · exact hN S h1 i hf
theorem rlt {F : Nat → Prop} (h : RAt F w r L c) : r < w.heap.size := h.elim fun _ h => h.elim fun _ h => h.lt
/-- The code's log is another one. -/
theorem PL.turn {S : Nat → Prop} (h1 : Lg B S w l L c) (h2 : RAt (fun i => ¬ S i ∧ i ≠ r) w r L2 c2) (h3 : OpsAt (fun i => ¬ S i ∧ i ≠ r) w v M) (h4 : ¬ S r) (h5 : ¬ S bx) (h6 : bx ≠ r) (h7 : bx < w.heap.size) (h8 : B ≤ r)
    (hn : LgNew B S w w' l L1 c1) : PL B w' l r L1 c1 L2 c2 bx v M ∧ Stay B bx w w' := by
  obtain ⟨S', g1, g2, g3⟩ := hn
  have hr := rlt h2
  have hk : Kept (fun i => ¬ S i) w w' := g3.kept fun i hi => hi
  have hm : ∀ i, i < w.heap.size → ¬ S i ∧ i ≠ r → (¬ S' i ∧ i ≠ r) ∧ ¬ S i := fun i hi hf => ⟨⟨fun hs => (g2 i hs).elim hf.1 (by omega), hf.2⟩, hf.1⟩
  refine ⟨⟨S', g1, ?_, ((h3.mono hm).kept (hk.mono fun _ _ e => e.2)).mono fun _ _ e => e.1, fun hs => (g2 r hs).elim h4 (by omega), fun hs => (g2 bx hs).elim h5 (by omega), h6, Nat.lt_of_lt_of_le h7 g3.size, h8⟩, g3.kept fun i hi => ?_, g3.below (fun i hi => (h1.1 i hi).1) h1.base⟩
  · obtain ⟨u, ps, q⟩ := h2
    exact ⟨u, ps, q.says, (g3.block r hr h4).trans q.cell, ((q.ops.mono hm).kept (hk.mono fun _ _ e => e.2)).mono fun _ _ e => e.1, fun e => e.2 rfl, fun i hi => ⟨fun hs => by have := (g1.1 i hs).2; omega, by have := g3.size; omega⟩, q.len, q.com⟩
  · rcases hi with rfl | hi
    · exact h5
    · exact fun hs => by have := (h1.1 i hs).1; omega
/-- The document's is another one. -/
theorem PL.left {S : Nat → Prop} {c3 : Nat} {L3 : List OpD} (h1 : Lg B S w l L c) (h3 : OpsAt (fun i => ¬ S i ∧ i ≠ r) w v M) (h4 : ¬ S r) (h5 : ¬ S bx) (h6 : bx ≠ r) (h7 : bx < w.heap.size) (h8 : B ≤ r)
    (hn : RAt (fun i => ¬ S i ∧ i ≠ r) w' r L3 c3) (hg : w.grownBy w' (some r)) : PL B w' l r L c L3 c3 bx v M ∧ Stay B bx w w' := by
  refine ⟨⟨S, h1.later (Kept.of_grown hg fun g e hs => h4 (by rw [Option.some.inj e]; exact hs)), hn, h3.kept (Kept.of_grown hg fun g e hf => hf.2 (Option.some.inj e).symm), h4, h5, h6, Nat.lt_of_lt_of_le h7 hg.size, h8⟩, Kept.of_grown hg fun g e hi => ?_, (Below.refl _ _).grown hg h1.base fun k hk => by have := Option.some.inj hk; omega⟩
  have := Option.some.inj e
  rcases hi with hi | hi <;> omega
theorem PL.args (h : PL B w l r L c L2 c2 bx v M) {v' : Value} {M' : List OpD} (hv : OpsAt (fun i => i < B) w v' M') : PL B w l r L c L2 c2 bx v' M' := h.with (N := w.heap.size) (hv.mono fun _ _ hi => .inl hi) (.inl (Nat.le_refl _))

theorem pl_add (o : OpD) (s : Value) (h : PL B w l r L c L2 c2 bx v M) (hs : StepsAt (fun i => i < B) w s o.steps) (ho : o.steps.length ≤ 1000000) :
    Calls Try.prog 28 #[.pointer (some ⟨l, 0, none⟩), .agg (o.cells s).toArray] w fun e w' => e = .returned (.tuple #[.int .i64 (addR L o).2.1, .int .i64 (addR L o).2.2]) ∧ PL B w' l r (addR L o).1 c L2 c2 bx v M ∧ Stay B bx w w' := by
  obtain ⟨S, h1, h2, h3, h4, h5, h6, h7, h8⟩ := h
  exact (lg_add o s h1 hs ho).mono fun _ _ ⟨he, hn⟩ => ⟨he, PL.turn h1 h2 h3 h4 h5 h6 h7 h8 hn⟩
theorem pl_refadd (o : OpD) (s : Value) (h : PL B w l r L c L2 c2 bx v M) (hs : StepsAt (fun i => i < B) w s o.steps) :
    Calls Try.prog 29 #[.pointer (some ⟨r, 0, none⟩), .agg (o.cells s).toArray] w fun e w' => e = .returned (.tuple #[.int .i64 (addR L2 o).2.1, .int .i64 (addR L2 o).2.2]) ∧ PL B w' l r L c (addR L2 o).1 c2 bx v M ∧ Stay B bx w w' := by
  obtain ⟨S, h1, h2, h3, h4, h5, h6, h7, h8⟩ := h
  exact (refadd_any o s w h2 (hs.mono fun i _ hi => ⟨fun hs => by have := (h1.1 i hs).1; omega, by omega⟩)).mono fun _ _ ⟨he, hn, hg⟩ => ⟨he, PL.left h1 h3 h4 h5 h6 h7 h8 hn hg⟩
theorem pl_cut (n : Int) (h : PL B w l r L c L2 c2 bx v M) :
    Calls Try.prog 33 #[.pointer (some ⟨l, 0, none⟩), .int .i64 n] w fun e w' => e = .returned (.int .i64 (cutR L c n).2) ∧ PL B w' l r (cutR L c n).1 c L2 c2 bx v M ∧ Stay B bx w w' := by
  obtain ⟨S, h1, h2, h3, h4, h5, h6, h7, h8⟩ := h
  exact (lg_cut n h1).mono fun _ _ ⟨he, hn⟩ => ⟨he, PL.turn h1 h2 h3 h4 h5 h6 h7 h8 hn⟩
theorem pl_refcut (n : Int) (h : PL B w l r L c L2 c2 bx v M) :
    Calls Try.prog 34 #[.pointer (some ⟨r, 0, none⟩), .int .i64 n] w fun e w' => e = .returned (.int .i64 (cutR L2 c2 n).2) ∧ PL B w' l r L c (cutR L2 c2 n).1 c2 bx v M ∧ Stay B bx w w' := by
  obtain ⟨S, h1, h2, h3, h4, h5, h6, h7, h8⟩ := h
  exact (refcut_any n w h2).mono fun _ _ ⟨he, hn, hg⟩ => ⟨he, PL.left h1 h3 h4 h5 h6 h7 h8 hn hg⟩
theorem pl_join (n : Int) (h : PL B w l r L c L2 c2 bx v M) (hm : Mild M) :
    Calls Try.prog 35 #[.pointer (some ⟨l, 0, none⟩), .int .i64 n, v] w fun e w' => e = .returned (.int .i64 (joinR L c n M).2) ∧ PL B w' l r (joinR L c n M).1 c L2 c2 bx v M ∧ Stay B bx w w' := by
  obtain ⟨S, h1, h2, h3, h4, h5, h6, h7, h8⟩ := h
  exact (lg_join n v M h1 h3 hm).mono fun _ _ ⟨he, hn⟩ => ⟨he, PL.turn h1 h2 h3 h4 h5 h6 h7 h8 hn⟩
theorem pl_refjoin (n : Int) (h : PL B w l r L c L2 c2 bx v M) (hm : M.length ≤ 100000) :
    Calls Try.prog 36 #[.pointer (some ⟨r, 0, none⟩), .int .i64 n, v] w fun e w' => e = .returned (.int .i64 (joinR L2 c2 n M).2) ∧ PL B w' l r L c (joinR L2 c2 n M).1 c2 bx v M ∧ Stay B bx w w' := by
  obtain ⟨S, h1, h2, h3, h4, h5, h6, h7, h8⟩ := h
  exact (refjoin_any n v M w h2 h3 hm).mono fun _ _ ⟨he, hn, hg⟩ => ⟨he, PL.left h1 h3 h4 h5 h6 h7 h8 hn hg⟩
theorem pl_replace (n : Int) (h : PL B w l r L c L2 c2 bx v M) (hm : Mild M) :
    Calls Try.prog 37 #[.pointer (some ⟨l, 0, none⟩), v, .int .i64 n] w fun e w' => e = .returned (.int .i64 (replR L c M n).2.2) ∧ PL B w' l r (replR L c M n).1 (replR L c M n).2.1 L2 c2 bx v M ∧ Stay B bx w w' := by
  obtain ⟨S, h1, h2, h3, h4, h5, h6, h7, h8⟩ := h
  exact (lg_replace n v M h1 h3 hm).mono fun _ _ ⟨he, hn⟩ => ⟨he, PL.turn h1 h2 h3 h4 h5 h6 h7 h8 hn⟩
theorem pl_refreplace (n : Int) (h : PL B w l r L c L2 c2 bx v M) :
    Calls Try.prog 38 #[.pointer (some ⟨r, 0, none⟩), v, .int .i64 n] w fun e w' => e = .returned (.int .i64 (replR L2 c2 M n).2.2) ∧ PL B w' l r L c (replR L2 c2 M n).1 (replR L2 c2 M n).2.1 bx v M ∧ Stay B bx w w' := by
  obtain ⟨S, h1, h2, h3, h4, h5, h6, h7, h8⟩ := h
  exact (refreplace_any n v M w h2 h3).mono fun _ _ ⟨he, hn, hg⟩ => ⟨he, PL.left h1 h3 h4 h5 h6 h7 h8 hn hg⟩
theorem pl_commit (n : Int) (h : PL B w l r L c L2 c2 bx v M) :
    Calls Try.prog 31 #[.pointer (some ⟨l, 0, none⟩), .int .i64 n] w fun e w' => ∃ u, e = .returned u ∧ PL B w' l r L (comTo c L.length n) L2 c2 bx u ((L.take (comTo c L.length n)).drop c) ∧ Stay B bx w w' := by
  obtain ⟨S, h1, h2, h3, h4, h5, h6, h7, h8⟩ := h
  refine (lg_commit n h1).mono fun _ w' ⟨ht, hl, hu⟩ => ?_
  obtain ⟨u, rs, he, hs, hf, _⟩ := ht
  obtain ⟨p, q⟩ := PL.turn h1 h2 h3 h4 h5 h6 h7 h8 ⟨S, hl, fun _ hi => .inl hi, hu⟩
  have hr := rlt h2
  obtain ⟨S', g1, g2, g3, g4⟩ := p
  refine ⟨u, he, ⟨S, hl, ?_, ⟨rs, hs, hf.ops.mono fun i _ hi => ⟨fun hs => by have := (h1.1 i hs).2; omega, by omega⟩⟩, h4, h5, h6, Nat.lt_of_lt_of_le h7 hu.size, h8⟩, q⟩
  obtain ⟨u2, ps, q2⟩ := h2
  have hk : Kept (fun i => ¬ S i) w w' := hu.kept fun i hi => hi
  exact ⟨u2, ps, q2.says, (hu.block r hr h4).trans q2.cell, q2.ops.kept (hk.mono fun _ _ e => e.1), q2.off, fun i hi => q2.new i (Nat.le_trans hu.size hi), q2.len, q2.com⟩
theorem pl_refcommit (n : Int) (h : PL B w l r L c L2 c2 bx v M) :
    Calls Try.prog 32 #[.pointer (some ⟨r, 0, none⟩), .int .i64 n] w fun e w' => ∃ u, e = .returned u ∧ OpsAt (fun _ => True) w' u ((L2.take (comTo c2 L2.length n)).drop c2) ∧ PL B w' l r L c L2 (comTo c2 L2.length n) bx v M ∧ Stay B bx w w' := by
  obtain ⟨S, h1, h2, h3, h4, h5, h6, h7, h8⟩ := h
  refine (refcommit_any n w h2).mono fun _ w' ⟨ht, hl, hg⟩ => ?_
  obtain ⟨A, cp, he, ho⟩ := ht
  obtain ⟨p, q⟩ := PL.left h1 h3 h4 h5 h6 h7 h8 hl hg
  exact ⟨_, he, ho.mono fun _ _ _ => trivial, p, q⟩
theorem pl_since (n : Int) (h : PL B w l r L c L2 c2 bx v M) :
    Calls Try.prog 44 #[.pointer (some ⟨l, 0, none⟩), .int .i64 n] w fun e w' => ∃ u, e = .returned u ∧ OpsAt (fun _ => True) w' u (L.drop (fromOf L.length n)) ∧ Below w.heap.size w w' := by
  obtain ⟨S, h1, _⟩ := h
  exact (lg_sinceB n h1).mono fun _ w' ⟨⟨u, rs, he, hs, hf, _⟩, hb⟩ => ⟨u, he, ⟨rs, hs, hf.ops.mono fun _ _ _ => trivial⟩, hb⟩
theorem pl_refsince (n : Int) (h : PL B w l r L c L2 c2 bx v M) :
    Calls Try.prog 45 #[.pointer (some ⟨r, 0, none⟩), .int .i64 n] w fun e w' => ∃ u, e = .returned u ∧ OpsAt (fun _ => True) w' u (L2.drop (fromOf L2.length n)) ∧ Below w.heap.size w w' := by
  obtain ⟨S, _, h2, _⟩ := h
  exact (refsince_any n w h2).mono fun _ w' ⟨⟨A, cp, he, ho⟩, hb⟩ => ⟨_, he, ho.mono fun _ _ _ => trivial, hb⟩
/-- What At tells, as an operation and whether there is one. -/
def atV : Option OpD → OpD × Bool
  | none => (.zero, false)
  | some o => (o, true)
theorem pl_at (n : Int) (h : PL B w l r L c L2 c2 bx v M) :
    Calls Try.prog 39 #[.pointer (some ⟨l, 0, none⟩), .int .i64 n] w fun e w' => ∃ s, e = .returned (.tuple #[.agg ((atV (atR L n)).1.cells s).toArray, .bool (atV (atR L n)).2]) ∧ StepsAt (fun _ => True) w' s (atV (atR L n)).1.steps ∧ Below w.heap.size w w' := by
  obtain ⟨S, h1, _⟩ := h
  refine (lg_at n h1).mono fun _ w' ⟨ht, hb⟩ => ?_
  cases ho : atR L n with
  | none =>
    rw [ho] at ht
    exact ⟨.slice none 0 0, ht, StepsAt.nil_ _ _, hb⟩
  | some o =>
    rw [ho] at ht
    obtain ⟨s, he, hs⟩ := ht
    exact ⟨s, he, hs.mono fun _ _ _ => trivial, hb⟩
theorem pl_refat (n : Int) (h : PL B w l r L c L2 c2 bx v M) (hn : I64 n) :
    Calls Try.prog 40 #[.pointer (some ⟨r, 0, none⟩), .int .i64 n] w fun e w' => ∃ s, e = .returned (.tuple #[.agg ((atV (atR L2 n)).1.cells s).toArray, .bool (atV (atR L2 n)).2]) ∧ StepsAt (fun _ => True) w' s (atV (atR L2 n)).1.steps ∧ Below w.heap.size w w' := by
  obtain ⟨S, _, h2, _⟩ := h
  refine (refat_any n w h2 hn).mono fun _ w' ⟨ht, hb⟩ => ?_
  cases ho : atR L2 n with
  | none =>
    rw [ho] at ht
    exact ⟨.slice none 0 0, ht, StepsAt.nil_ _ _, hb⟩
  | some o =>
    rw [ho] at ht
    obtain ⟨s, he, hs⟩ := ht
    exact ⟨s, he, hs.mono fun _ _ _ => trivial, hb⟩
theorem pl_last (h : PL B w l r L c L2 c2 bx v M) : Calls Try.prog 42 #[.pointer (some ⟨l, 0, none⟩)] w fun e w' => e = .returned (.int .i64 (L.length : Int)) ∧ w = w' := let ⟨_, h1, _⟩ := h; lg_last h1
theorem pl_committed (h : PL B w l r L c L2 c2 bx v M) : Calls Try.prog 43 #[.pointer (some ⟨l, 0, none⟩)] w fun e w' => e = .returned (.int .i64 (c : Int)) ∧ w = w' := let ⟨_, h1, _⟩ := h; lg_committed h1
/-- The document's log is read where it lies. -/
theorem pl_read (h : PL B w l r L c L2 c2 bx v M) : ∃ A n cp, n = L2.length ∧ n ≤ cp ∧ (∀ w', Below w.heap.size w w' → w'.cell? ⟨r, 0, none⟩ = some (.slice A n cp) ∧ w'.cell? ⟨r, 1, none⟩ = some (.int .i64 (c2 : Int)) ∧ OpsAt (fun _ => True) w' (.slice A n cp) L2) := by
  obtain ⟨S, _, ⟨u, ps, h2⟩, _⟩ := h
  obtain ⟨A, cp, rfl, hc, _⟩ := h2.shape
  exact ⟨A, L2.length, cp, rfl, hc, fun w' hb => ⟨(h2.later hb).cells.1, (h2.later hb).cells.2.1, (h2.later hb).at_.mono fun _ _ _ => trivial⟩⟩
/-- The document's log opened, and the pair shut again with another list beside it. -/
theorem PL.open_ (h : PL B w l r L c L2 c2 bx v M) : ∃ (F : Nat → Prop) (u : Value) (ps : List (OpD × Value)), RLog F w r L2 c2 u ps ∧ (∀ i, i < B → F i) ∧ ∀ w' x M', Below w.heap.size w w' → OpsAt F w' x M' → PL B w' l r L c L2 c2 bx x M' := by
  obtain ⟨S, h1, ⟨u, ps, h2⟩, h3, h4, h5, h6, h7, h8⟩ := h
  exact ⟨_, u, ps, h2, fun i hi => ⟨fun hs => by have := (h1.1 i hs).1; omega, by omega⟩, fun w' x M' hb hx => ⟨S, h1.below hb, ⟨u, ps, h2.later hb⟩, hx, h4, h5, h6, Nat.lt_of_lt_of_le h7 hb.size, h8⟩⟩
theorem same_self {F G : Nat → Prop} {v v2 : Value} {T : List OpD} (w : World) (hl : OpsAt F w v T) (hm : OpsAt G w v2 T) : Calls Try.prog 30 #[v, v2] w fun e w' => e = .returned (.bool true) ∧ Below w.heap.size w w' :=
  (same_ops F G v v2 T T w hl hm).mono fun _ _ ⟨a, b⟩ => ⟨by rw [a, decide_eq_true rfl], b⟩
theorem sameop_self {F G : Nat → Prop} {v v2 : Value} {x : OpD} (w : World) (hl : StepsAt F w v x.steps) (hm : StepsAt G w v2 x.steps) : Calls Try.prog 41 #[.agg (x.cells v).toArray, .agg (x.cells v2).toArray] w fun e w' => e = .returned (.bool true) ∧ Below w.heap.size w w' :=
  (same_op F G v v2 x x w hl hm).mono fun _ _ ⟨a, b⟩ => ⟨by rw [a, decide_eq_true rfl], b⟩
/-- Without a word of a block and of a list. -/
def PL0 (B : Nat) (w : World) (l r : Nat) (L : List OpD) (c : Nat) : Prop := ∃ S : Nat → Prop, Lg B S w l L c ∧ RAt (fun i => ¬ S i ∧ i ≠ r) w r L c ∧ ¬ S r ∧ B ≤ r
theorem PL.drop (h : PL B w l r L c L c bx v M) : PL0 B w l r L c := let ⟨S, h1, h2, _, h4, _, _, _, h8⟩ := h; ⟨S, h1, h2, h4, h8⟩
theorem PL0.later (h : PL0 B w l r L c) (hb : Below w.heap.size w w') : PL0 B w' l r L c := let ⟨S, h1, h2, h4, h8⟩ := h; ⟨S, h1.below hb, h2.later hb, h4, h8⟩
theorem PL0.start {S : Nat → Prop} (h : Lg B S w l [] 0) (hr : w'.heap[w.heap.size]? = some (.cells #[.slice none 0 0, .int .i64 0] 69 (0, 0))) (hb : Below w.heap.size w w') : PL0 B w' l w.heap.size [] 0 := by
  have hlt := lt_of_block hr
  have hB := h.base
  exact ⟨S, h.below hb, ⟨_, [], rfl, hr, ⟨FlatAt.nil_ _ _ _, by simp⟩, fun e => e.2 rfl, fun i hi => ⟨fun hs => by have := (h.1 i hs).2; have := hb.size; omega, by omega⟩, by simp, by simp⟩, fun hs => by have := (h.1 _ hs).2; omega, hB⟩
/-- An act's block, new in w'. -/
theorem PL0.box (h : PL0 B w l r L c) (hb : Below w.heap.size w w') (hx : w.heap.size < w'.heap.size) : PL B w' l r L c L c w.heap.size (.slice none 0 0) [] := by
  obtain ⟨S, h1, h2, h4, h8⟩ := h
  have hr := rlt h2
  exact ⟨S, h1.below hb, h2.later hb, OpsAt.nil_ _ _, h4, fun hs => by have := (h1.1 _ hs).2; omega, by omega, hx, h8⟩
end
end Go.Proofs.Ytehcaigkohkbnaa
