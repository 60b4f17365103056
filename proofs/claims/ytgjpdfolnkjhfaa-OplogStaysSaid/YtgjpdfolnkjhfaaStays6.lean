/- The walk over droverlaw06.OplogStays: what is committed stays at its number. -/
import Derived.Test.YtgjpdfolnkjhfaaStayK
import Derived.Test.YtgjpdfolnkjhfaaPrefix
import Derived.Test.YtgjpdfolnkjhfaaOrderP
import Derived.RegionTactic
import Derived.BigRegion
namespace Go.Proofs.Ytgjpdfolnkjhfaa
open Go.RowKit

section
variable {P : Program} {w : World}
theorem wpList_append_g {ops : Array Oper} {rest : List Oper} {o : Oper} {a : Act} {Q : Exit → Act → World → Prop} (hgd : o.guard = none) (s x : Operand) (t : TypeId)
    (ho : o.op = .call { callee := .builtin .append, args := #[s, x], argTypes := #[t, t] })
    (base : Nat) (e : TypeId) (i : TypeInfo) (z : Value) (k bytes : Nat) (ht : P.underlying t = some (.slice e)) (hi : P.info? e = some i) (hz : i.zero = some z)
    (hsize : i.size = k) (hby : i.bytes = bytes) (hzs : z.cells.size = k) (hk : 0 < k)
    (v : Value) (n : Nat) (xs : List Value) (hs : a.eval s = v) (hown : w.ownsRow base e k v n xs)
    (F : Nat → Prop) (A : Option Addr) (m c : Nat) (ys : List Value) (hx : a.eval x = .slice A m c) (hl : FlatAt F w k (.slice A m c) m ys) (hroom : n + m ≤ maxLen) (hbytes : (n + m) * bytes ≤ 140737488355328) (hbase : base ≤ w.heap.size)
    (h : ∀ v' w', w'.ownsRow base e k v' (n + m) (xs ++ ys) → w.grownBy w' v.ownBlock → (v'.ownBlock = v.ownBlock ∨ v'.ownBlock = some w.heap.size) → wpList P ops Q rest (a.put o.dst v') w') : wpList P ops Q (o :: rest) a w :=
  wpList_plain hgd fun _ hK => wp_append_gen s x t ho base e i z k bytes ht hi hz hsize hby hzs hk v n xs hs hown F A m c ys hx hl hroom hbytes hbase (fun v' w' h1 h2 h3 => hK _ _ (h v' w' h1 h2 h3))
end
theorem Tells.own2 {w w' : World} {M : List OpD} {e : Ending} (h : Tells w M e w') : ∃ A cp rs, e = .returned (.slice A rs.length cp) ∧ rs.map (·.1) = M ∧ rs.length = M.length ∧ OpsFree (w.heap.size ≤ ·) w' (.slice A rs.length cp) rs := by
  obtain ⟨A, cp, rs, he, _, hs, hl, hf, _⟩ := h.own
  rw [← hl] at he hf
  exact ⟨A, cp, rs, he, hs, hl, hf⟩

theorem exec_part2 {op : Oper} {a : Act} {w : World} (x y z : Operand) (ho : op.op = .slice 28 x (some y) (some z) none) (A : Option Addr) (n c lo hi : Nat) (v : Value) (hv : sliced A lo hi c 10 = v) (hx : a.eval x = .slice A n c) (hy : a.eval y = .int .i64 (lo : Int)) (hz : a.eval z = .int .i64 (hi : Int)) (h1 : lo ≤ hi) (h2 : hi ≤ c) :
    (execOp a.eval op).run Try.prog w = .ok (.value v) w := by
  rw [← hv]
  exact exec_part x y z ho A n c lo hi hx hy hz h1 h2
theorem Tells.own3 {w w' : World} {M : List OpD} {e : Ending} (h : Tells w M e w') : ∃ A cp rs, e = .returned (.slice A rs.length cp) ∧ rs.map (·.1) = M ∧ rs.length = M.length ∧ OpsFree (w.heap.size ≤ ·) w' (.slice A rs.length cp) rs ∧ w'.ownsRow w.heap.size 35 10 (.slice A rs.length cp) rs.length (opcells rs) := by
  obtain ⟨A, cp, rs, he, _, hs, hl, hf, ho⟩ := h.own
  rw [← hl] at he hf ho
  exact ⟨A, cp, rs, he, hs, hl, hf, ho⟩
theorem FlatAt.and {F G : Nat → Prop} {w : World} {k n : Nat} {v : Value} {xs : List Value} (h : FlatAt F w k v n xs) (h' : FlatAt G w k v n xs) : FlatAt (fun i => F i ∧ G i) w k v n xs := by
  obtain ⟨x1, x2, A, c, e, x3, x4, x5, x6⟩ := h
  obtain ⟨_, _, A', c', e', _, _, _, y6⟩ := h'
  obtain ⟨rfl, rfl⟩ : A = A' ∧ c = c' := by rw [e] at e'; injection e' with e1 _ e3; exact ⟨e1, e3⟩
  refine ⟨x1, x2, A, c, e, x3, x4, x5, fun hn => ?_⟩
  obtain ⟨b, off, hA, hf, hb, hr⟩ := x6 hn
  obtain ⟨b', off', hA', hf', _, _⟩ := y6 hn
  obtain ⟨rfl, rfl⟩ : b = b' ∧ off = off' := by rw [hA] at hA'; injection hA' with h1; injection h1 with h1 h2 _; exact ⟨h1, h2⟩
  exact ⟨b, off, hA, ⟨hf, hf'⟩, hb, hr⟩

set_option maxHeartbeats 8000000 in
set_option maxRecDepth 100000 in
theorem law_stays (F : Nat → Prop) (v : Value) (ps : List ActV) (w : World) (h : ActsIn F w v ps) (hw : ∀ p ∈ ps, p.a.wf) :
    Calls Try.prog 5 #[v] w fun e w' => e = .returned (.bool true) ∧ Below w.heap.size w w' := by
  obtain ⟨i0, hi, hz0, hz1, hz2⟩ := info_parts Try.infoOp
  have LG := hide (light_any F v ps w h hw)
  have LIVE : Hid (∀ w', Calls Try.prog 11 #[] w' fun e w'' => e = .returned (.bool true) ∧ Below w'.heap.size w' w'') := lives_any
  have H := hide (h.mono (G := (· < w.heap.size)) fun i hi _ => hi)
  obtain ⟨A, cp, rfl, h1, h2, _⟩ := FlatAt.shape h.1
  unfold maxLen at h2
  clear h hw
  go_enter Try.func5, Try.ntmps5
  go_wp2_with (fail)
  refine LG.out.mono ?_
  rintro e w1 ⟨bl, rfl, hok, hb1⟩
  have HBW := hide hb1
  have HOK := hide hok
  clear hb1 hok LG
  cases bl with
  | false =>
    go_wp2_with (fail)
    refine (LIVE.out _).mono ?_
    rintro e w2 ⟨rfl, hb2⟩
    have B2 := hide (HBW.out.trans (hb2.mono HBW.out.size))
    clear hb2
    go_wp2
    go_ret
    exact ⟨rfl, B2.out⟩
  | true =>
    go_wp2_with (fail)
    refine (lg_new w1).mono ?_
    rintro e w2 ⟨g, S0, rfl, hl2, hb2⟩
    have L0 := hide hl2
    have B0 := hide hb2
    clear hl2 hb2
    go_wp2
    go_loopw [4, 16] (fun d j wr => ∃ (k : Nat) (S : Nat → Prop) (L : List OpD) (c : Nat) (qs : List (OpD × Value)) (u : Value), k ≤ ps.length ∧ j = .int .i64 (k : Int) ∧ u = d ∧ Lg w1.heap.size S wr g L c ∧ Done w1.heap.size S wr u qs ∧ qs.map (·.1) = L.take c ∧ Below w1.heap.size w1 wr) (fun _ j _ => ps.length - (Go.RowKit.intOf j).toNat)
    case atStart => exact ⟨0, S0, [], 0, [], _, by omega, rfl, rfl, L0.out, Done.start _ _ _, rfl, B0.out⟩
    case round =>
      obtain ⟨k, S, L, c, qs, d, hk, rfl, rfl, hlr, hdr, hq, hb⟩ := hrel
      have LR := hide hlr
      have DR := hide hdr
      have HQ := hide hq
      have HB := hide hb
      clear hlr hdr hq hb L0 B0
      by_cases hkn : k < ps.length
      · obtain ⟨x, b, off, c', hx, hv, _, _, _, hr, hli⟩ := ActsIn.at_ (H.out.kept (Kept.of_below (HBW.out.trans (HB.out.mono HBW.out.size)) _)) (k := k) hkn
        obtain ⟨rfl, rfl⟩ : A = some ⟨b, off, none⟩ ∧ cp = c' := by injection hv with e1 _ e3; exact ⟨e1, e3⟩
        have HAOK : Hid (x.a.ok) := (HOK.out trivial).2 x (List.mem_of_getElem? hx)
        have HR := hide hr
        obtain ⟨⟨a0, a1, op, ops⟩, s, o⟩ := x
        obtain ⟨AO, cO, rfl, hO1, hO2⟩ : ∃ AO cO, o = .slice AO ops.length cO ∧ ops.length ≤ cO ∧ cO ≤ maxLen := by
          obtain ⟨_, po, hpo, hop⟩ := hli
          obtain ⟨AO, cO, rfl, z1, z2, _⟩ := FlatAt.shape hop.1
          have hl : po.length = ops.length := by have := congrArg List.length hpo; simpa using this
          exact ⟨AO, cO, by rw [hl], by rw [← hl]; exact z1, z2⟩
        obtain ⟨k1, k2⟩ := hli.cell
        have HLI : Hid (ALists (· < w.heap.size) wr ⟨a0, a1, op, ops⟩ s (.slice AO ops.length cO)) := hli
        have HZ : Hid ((wr.alloc (.cells actZero 37 (0, 0))).heap[wr.heap.size]? = some (.cells actZero 37 (0, 0))) := heap_alloc_new _ _
        clear hx hv hr hli
        by_cases h0 : a0 = 0
        · subst h0
          go_wp2_with (first
           | (refine wpList_load_mid (by rfl) 37 _ (by rfl) b (off + k * 13) (by rfl) _ _ HR.out Try.underlying37 (by rfl) (by kernel_rfl) ?_)
           | (refine wpList_store_box (by rfl) 37 _ _ (by rfl) wr.heap.size 0 (ActV.cells ⟨⟨0, a1, op, ops⟩, s, .slice AO ops.length cO⟩).toArray (by rfl) (by rfl) 37 actZero HZ.out (by kernel_rfl) (by exact Nat.le_of_ble_eq_true rfl) (by exact act_one _ k1 k2) ?_; intro w2 hb2 hg2; rw [put_act] at hb2; have f0 := box_cell hb2 0 (.int .i64 0) (by rfl); have f1 := box_cell hb2 1 (.int .i64 a1) (by rfl); have f12 := box_cell hb2 12 (.slice AO ops.length cO) (by rfl))
           | (refine wpList_val rfl (by rfl) (exec_load_box 35 _ (by rfl) wr.heap.size 2 (by rfl) 37 _ hb2 10 _ Try.underlying35 (by rfl) (by kernel_rfl) (op.cells s) (by rfl) (by rfl)) ?_))
          have hB2 : Below wr.heap.size wr w2 := ((Below.refl _ _).alloc (Nat.le_refl _) _).grown hg2 (by simp) (fun k hk => by have := Option.some.inj hk; omega)
          have LR2 : Hid (Lg w1.heap.size S w2 g L c) := LR.out.below hB2
          have DR2 : Hid (Done w1.heap.size S w2 d qs) := DR.out.later hB2
          have B2 : Hid (Below w1.heap.size w1 w2) := HB.out.trans (hB2.mono HB.out.size)
          have S2 : Hid (StepsAt (· < w.heap.size) w2 s op.steps) := HLI.out.1.kept (Kept.of_below hB2 _)
          have O2 : Hid (OpsAt (· < w.heap.size) w2 (.slice AO ops.length cO) ops) := HLI.out.2.kept (Kept.of_below hB2 _)
          have X2 := hide hb2
          clear hb2 hg2 hB2 HLI HR HZ
          refine (lg_add op s LR2.out S2.out (by have h9 : op.steps.length ≤ 300 := HAOK.out.2; omega)).mono ?_
          rintro e w3 ⟨rfl, S', hl3, hin3, ht3⟩
          have LTx : Hid (Lg w1.heap.size S' w3 g (addR L op).1 c) := hl3
          have DTx : Hid (Done w1.heap.size S' w3 d qs) := DR2.out.moved hin3 ht3
          have QTx : Hid ((qs).map (·.1) = ((addR L op).1).take c) := HQ.out.trans (addR_take L op LR2.out.com).symm
          have BTx : Hid (Below w1.heap.size w1 w3) := B2.out.trans (ht3.below (fun i hi => (LR2.out.1 i hi).1) B2.out.size)
          obtain ⟨LL, hLL⟩ : ∃ LL, LL = (addR L op).1 := ⟨_, rfl⟩
          rw [← hLL] at LTx
          rw [← hLL] at QTx
          clear hLL
          clear LR DR HQ LR2 DR2
          have hlT : qs.length = c := by have h1 := congrArg List.length QTx.out; have h2 := LTx.out.com; simp at h1; omega
          obtain ⟨AT, cpT, rfl, _⟩ := DTx.out.shape
          have hcom := LTx.out.com
          have hlen := LTx.out.len
          rw [hlT] at DTx
          try rw [hlT]
          have e1 : ((c : Int) != (c : Int)) = false := by simp
          have e2 : decide (LL.length < c) = false := decide_eq_false (by omega)
          have HE := hide (And.intro e1 (And.intro e2 hlT))
          clear hlT hcom hlen
          first | (refine (lg_committed LTx.out).mono ?_) | (go_wp2_with (fail); refine (lg_committed LTx.out).mono ?_)
          rintro e wq ⟨rfl, rfl⟩
          go_wp2_with (fail)
          refine (lg_last LTx.out).mono ?_
          rintro e wq ⟨rfl, rfl⟩
          go_wp2_with (fail)
          refine (lg_sinceB 0 LTx.out).mono ?_
          rintro e w9 ⟨ht9, hb9⟩
          obtain ⟨A9, c9, rs9, rfl, hrs9, hf9⟩ := ht9.one
          have OP9 := hide (prefix_any _ _ _ _ (LL.drop (fromOf LL.length 0)) (qs.map (·.1)) w9 ⟨rs9, hrs9, hf9.ops⟩ ⟨qs, rfl, (DTx.out.later hb9).ops⟩)
          rw [show pre (LL.drop (fromOf LL.length 0)) (qs.map (·.1)) = c from by rw [QTx.out, show LL.drop (fromOf LL.length 0) = LL from by simp [fromOf]]; exact pre_take LL c LTx.out.com] at OP9
          have LT9 := hide (LTx.out.below hb9)
          have DT9 := hide (DTx.out.later hb9)
          have BT9 : Hid (Below w1.heap.size w1 w9) := BTx.out.trans (hb9.mono BTx.out.size)
          clear ht9 hb9 hrs9 hf9
          go_wp2_with (fail)
          refine OP9.out.mono ?_
          rintro e w10 ⟨rfl, hb10⟩
          have LT10 := hide (LT9.out.below hb10)
          have DT10 := hide (DT9.out.later hb10)
          have BT10 : Hid (Below w1.heap.size w1 w10) := BT9.out.trans (hb10.mono BT9.out.size)
          clear hb10
          go_wp2
          go_roundw
          case rel => exact ⟨k + 1, S', LL, c, qs, _, by omega, by go_num, rfl, LT10.out, DT10.out, QTx.out, BT10.out⟩
          case measure => simp [Go.RowKit.intOf]; omega
        have e0 : (a0 == (0 : Int)) = false := by simpa using h0
        by_cases h1 : a0 = 1
        · subst h1
          go_wp2_with (first
           | (refine wpList_load_mid (by rfl) 37 _ (by rfl) b (off + k * 13) (by rfl) _ _ HR.out Try.underlying37 (by rfl) (by kernel_rfl) ?_)
           | (refine wpList_store_box (by rfl) 37 _ _ (by rfl) wr.heap.size 0 (ActV.cells ⟨⟨1, a1, op, ops⟩, s, .slice AO ops.length cO⟩).toArray (by rfl) (by rfl) 37 actZero HZ.out (by kernel_rfl) (by exact Nat.le_of_ble_eq_true rfl) (by exact act_one _ k1 k2) ?_; intro w2 hb2 hg2; rw [put_act] at hb2; have f0 := box_cell hb2 0 (.int .i64 1) (by rfl); have f1 := box_cell hb2 1 (.int .i64 a1) (by rfl); have f12 := box_cell hb2 12 (.slice AO ops.length cO) (by rfl)))
          have hB2 : Below wr.heap.size wr w2 := ((Below.refl _ _).alloc (Nat.le_refl _) _).grown hg2 (by simp) (fun k hk => by have := Option.some.inj hk; omega)
          have LR2 : Hid (Lg w1.heap.size S w2 g L c) := LR.out.below hB2
          have DR2 : Hid (Done w1.heap.size S w2 d qs) := DR.out.later hB2
          have B2 : Hid (Below w1.heap.size w1 w2) := HB.out.trans (hB2.mono HB.out.size)
          have S2 : Hid (StepsAt (· < w.heap.size) w2 s op.steps) := HLI.out.1.kept (Kept.of_below hB2 _)
          have O2 : Hid (OpsAt (· < w.heap.size) w2 (.slice AO ops.length cO) ops) := HLI.out.2.kept (Kept.of_below hB2 _)
          have X2 := hide hb2
          clear hb2 hg2 hB2 HLI HR HZ
          refine (lg_commit a1 LR2.out).mono ?_
          rintro e w3 ⟨ht3, hl3, hT3⟩
          obtain ⟨A3, c3, rs3, rfl, hrs3, hln3, hf3⟩ := ht3.own2
          have D3 : Hid (Done w1.heap.size S w3 d qs) := DR2.out.moved (fun i hi => .inl hi) hT3
          have hcq : qs.length = c := by have h1 := congrArg List.length HQ.out; have h2 := LR2.out.com; simp at h1; omega
          have hLen := LR2.out.len
          have hCom := LR2.out.com
          have hm3 : rs3.length ≤ 2000 := by rw [hln3]; simp; omega
          have hq3 : qs.length ≤ 2000 := by omega
          have B3 : Hid (Below w1.heap.size w1 w3) := B2.out.trans (hT3.below (fun i hi => (LR2.out.1 i hi).1) B2.out.size)
          have L3 := hide hl3
          have F3 := hide hf3
          have R3 := hide hrs3
          have P3 : Hid (∀ i, w2.heap.size ≤ i → ¬ S i ∧ some i ≠ d.ownBlock) := fun i hi => ⟨fun hs => by have := (LR2.out.1 i hs).2; omega, fun e => by have := own_in DR2.out.own i e.symm; omega⟩
          have hS3 := hT3.size
          clear ht3 hl3 hf3 hrs3 hln3 hT3 hcq hLen hCom
          go_wp2_with (at_builtin; refine wpList_append_g rfl _ _ 28 (by rfl) w1.heap.size 35 i0 _ 10 96 Try.underlying28 hi hz0 hz1 hz2 rfl (by decide) d qs.length (opcells qs) (by rfl) D3.out.own (w2.heap.size ≤ ·) A3 rs3.length c3 (opcells rs3) (by rfl) F3.out.ops.1 (by unfold maxLen; omega) (by omega) B3.out.size ?_; intro v4 w4 how4 hgw4 hvw4)
          have hD4 := D3.out.more (rs := rs3) (fun i hi => (L3.out.1 i hi).2) (fun p hp => (F3.out.ops.2 p hp).mono fun i _ hi => P3.out i hi) how4 hgw4 hvw4
          have hB4 := D3.out.over B3.out.size hgw4
          have LTx : Hid (Lg w1.heap.size S w4 g L (comTo c L.length a1)) := L3.out.past D3.out hgw4
          have DTx : Hid (Done w1.heap.size S w4 v4 (qs ++ rs3)) := hD4
          have QTx : Hid (((qs ++ rs3)).map (·.1) = (L).take (comTo c L.length a1)) := by show _ = _; rw [List.map_append, HQ.out, R3.out]; exact take_join L (comTo_le c L.length a1 LR2.out.com).2
          have BTx : Hid (Below w1.heap.size w1 w4) := B3.out.trans hB4
          obtain ⟨cT, hcT⟩ : ∃ cT, cT = (comTo c L.length a1) := ⟨_, rfl⟩
          rw [← hcT] at LTx
          rw [← hcT] at QTx
          clear hcT
          obtain ⟨qT, hqT⟩ : ∃ qT, qT = (qs ++ rs3) := ⟨_, rfl⟩
          rw [← hqT] at DTx
          rw [← hqT] at QTx
          clear hqT
          clear LR DR HQ LR2 DR2
          have hlT : qT.length = cT := by have h1 := congrArg List.length QTx.out; have h2 := LTx.out.com; simp at h1; omega
          obtain ⟨AT, cpT, rfl, _⟩ := DTx.out.shape
          have hcom := LTx.out.com
          have hlen := LTx.out.len
          rw [hlT] at DTx
          try rw [hlT]
          have e1 : ((cT : Int) != (cT : Int)) = false := by simp
          have e2 : decide (L.length < cT) = false := decide_eq_false (by omega)
          have HE := hide (And.intro e1 (And.intro e2 hlT))
          clear hlT hcom hlen
          first | (refine (lg_committed LTx.out).mono ?_) | (go_wp2_with (fail); refine (lg_committed LTx.out).mono ?_)
          rintro e wq ⟨rfl, rfl⟩
          go_wp2_with (fail)
          refine (lg_last LTx.out).mono ?_
          rintro e wq ⟨rfl, rfl⟩
          go_wp2_with (fail)
          refine (lg_sinceB 0 LTx.out).mono ?_
          rintro e w9 ⟨ht9, hb9⟩
          obtain ⟨A9, c9, rs9, rfl, hrs9, hf9⟩ := ht9.one
          have OP9 := hide (prefix_any _ _ _ _ (L.drop (fromOf L.length 0)) (qT.map (·.1)) w9 ⟨rs9, hrs9, hf9.ops⟩ ⟨qT, rfl, (DTx.out.later hb9).ops⟩)
          rw [show pre (L.drop (fromOf L.length 0)) (qT.map (·.1)) = cT from by rw [QTx.out, show L.drop (fromOf L.length 0) = L from by simp [fromOf]]; exact pre_take L cT LTx.out.com] at OP9
          have LT9 := hide (LTx.out.below hb9)
          have DT9 := hide (DTx.out.later hb9)
          have BT9 : Hid (Below w1.heap.size w1 w9) := BTx.out.trans (hb9.mono BTx.out.size)
          clear ht9 hb9 hrs9 hf9
          go_wp2_with (fail)
          refine OP9.out.mono ?_
          rintro e w10 ⟨rfl, hb10⟩
          have LT10 := hide (LT9.out.below hb10)
          have DT10 := hide (DT9.out.later hb10)
          have BT10 : Hid (Below w1.heap.size w1 w10) := BT9.out.trans (hb10.mono BT9.out.size)
          clear hb10
          go_wp2
          go_roundw
          case rel => exact ⟨k + 1, S, L, cT, qT, _, by omega, by go_num, rfl, LT10.out, DT10.out, QTx.out, BT10.out⟩
          case measure => simp [Go.RowKit.intOf]; omega
        have e1 : (a0 == (1 : Int)) = false := by simpa using h1
        by_cases h2 : a0 = 2
        · subst h2
          go_wp2_with (first
           | (refine wpList_load_mid (by rfl) 37 _ (by rfl) b (off + k * 13) (by rfl) _ _ HR.out Try.underlying37 (by rfl) (by kernel_rfl) ?_)
           | (refine wpList_store_box (by rfl) 37 _ _ (by rfl) wr.heap.size 0 (ActV.cells ⟨⟨2, a1, op, ops⟩, s, .slice AO ops.length cO⟩).toArray (by rfl) (by rfl) 37 actZero HZ.out (by kernel_rfl) (by exact Nat.le_of_ble_eq_true rfl) (by exact act_one _ k1 k2) ?_; intro w2 hb2 hg2; rw [put_act] at hb2; have f0 := box_cell hb2 0 (.int .i64 2) (by rfl); have f1 := box_cell hb2 1 (.int .i64 a1) (by rfl); have f12 := box_cell hb2 12 (.slice AO ops.length cO) (by rfl)))
          have hB2 : Below wr.heap.size wr w2 := ((Below.refl _ _).alloc (Nat.le_refl _) _).grown hg2 (by simp) (fun k hk => by have := Option.some.inj hk; omega)
          have LR2 : Hid (Lg w1.heap.size S w2 g L c) := LR.out.below hB2
          have DR2 : Hid (Done w1.heap.size S w2 d qs) := DR.out.later hB2
          have B2 : Hid (Below w1.heap.size w1 w2) := HB.out.trans (hB2.mono HB.out.size)
          have S2 : Hid (StepsAt (· < w.heap.size) w2 s op.steps) := HLI.out.1.kept (Kept.of_below hB2 _)
          have O2 : Hid (OpsAt (· < w.heap.size) w2 (.slice AO ops.length cO) ops) := HLI.out.2.kept (Kept.of_below hB2 _)
          have X2 := hide hb2
          clear hb2 hg2 hB2 HLI HR HZ
          refine (lg_cut a1 LR2.out).mono ?_
          rintro e w3 ⟨rfl, S', hl3, hin3, ht3⟩
          have LTx : Hid (Lg w1.heap.size S' w3 g (cutR L c a1).1 c) := hl3
          have DTx : Hid (Done w1.heap.size S' w3 d qs) := DR2.out.moved hin3 ht3
          have QTx : Hid ((qs).map (·.1) = ((cutR L c a1).1).take c) := HQ.out.trans (cutR_take L c a1).symm
          have BTx : Hid (Below w1.heap.size w1 w3) := B2.out.trans (ht3.below (fun i hi => (LR2.out.1 i hi).1) B2.out.size)
          obtain ⟨LL, hLL⟩ : ∃ LL, LL = (cutR L c a1).1 := ⟨_, rfl⟩
          rw [← hLL] at LTx
          rw [← hLL] at QTx
          clear hLL
          clear LR DR HQ LR2 DR2
          have hlT : qs.length = c := by have h1 := congrArg List.length QTx.out; have h2 := LTx.out.com; simp at h1; omega
          obtain ⟨AT, cpT, rfl, _⟩ := DTx.out.shape
          have hcom := LTx.out.com
          have hlen := LTx.out.len
          rw [hlT] at DTx
          try rw [hlT]
          have e1 : ((c : Int) != (c : Int)) = false := by simp
          have e2 : decide (LL.length < c) = false := decide_eq_false (by omega)
          have HE := hide (And.intro e1 (And.intro e2 hlT))
          clear hlT hcom hlen
          first | (refine (lg_committed LTx.out).mono ?_) | (go_wp2_with (fail); refine (lg_committed LTx.out).mono ?_)
          rintro e wq ⟨rfl, rfl⟩
          go_wp2_with (fail)
          refine (lg_last LTx.out).mono ?_
          rintro e wq ⟨rfl, rfl⟩
          go_wp2_with (fail)
          refine (lg_sinceB 0 LTx.out).mono ?_
          rintro e w9 ⟨ht9, hb9⟩
          obtain ⟨A9, c9, rs9, rfl, hrs9, hf9⟩ := ht9.one
          have OP9 := hide (prefix_any _ _ _ _ (LL.drop (fromOf LL.length 0)) (qs.map (·.1)) w9 ⟨rs9, hrs9, hf9.ops⟩ ⟨qs, rfl, (DTx.out.later hb9).ops⟩)
          rw [show pre (LL.drop (fromOf LL.length 0)) (qs.map (·.1)) = c from by rw [QTx.out, show LL.drop (fromOf LL.length 0) = LL from by simp [fromOf]]; exact pre_take LL c LTx.out.com] at OP9
          have LT9 := hide (LTx.out.below hb9)
          have DT9 := hide (DTx.out.later hb9)
          have BT9 : Hid (Below w1.heap.size w1 w9) := BTx.out.trans (hb9.mono BTx.out.size)
          clear ht9 hb9 hrs9 hf9
          go_wp2_with (fail)
          refine OP9.out.mono ?_
          rintro e w10 ⟨rfl, hb10⟩
          have LT10 := hide (LT9.out.below hb10)
          have DT10 := hide (DT9.out.later hb10)
          have BT10 : Hid (Below w1.heap.size w1 w10) := BT9.out.trans (hb10.mono BT9.out.size)
          clear hb10
          go_wp2
          go_roundw
          case rel => exact ⟨k + 1, S', LL, c, qs, _, by omega, by go_num, rfl, LT10.out, DT10.out, QTx.out, BT10.out⟩
          case measure => simp [Go.RowKit.intOf]; omega
        have e2 : (a0 == (2 : Int)) = false := by simpa using h2
        by_cases h3 : a0 = 3
        · subst h3
          go_wp2_with (first
           | (refine wpList_load_mid (by rfl) 37 _ (by rfl) b (off + k * 13) (by rfl) _ _ HR.out Try.underlying37 (by rfl) (by kernel_rfl) ?_)
           | (refine wpList_store_box (by rfl) 37 _ _ (by rfl) wr.heap.size 0 (ActV.cells ⟨⟨3, a1, op, ops⟩, s, .slice AO ops.length cO⟩).toArray (by rfl) (by rfl) 37 actZero HZ.out (by kernel_rfl) (by exact Nat.le_of_ble_eq_true rfl) (by exact act_one _ k1 k2) ?_; intro w2 hb2 hg2; rw [put_act] at hb2; have f0 := box_cell hb2 0 (.int .i64 3) (by rfl); have f1 := box_cell hb2 1 (.int .i64 a1) (by rfl); have f12 := box_cell hb2 12 (.slice AO ops.length cO) (by rfl)))
          have hB2 : Below wr.heap.size wr w2 := ((Below.refl _ _).alloc (Nat.le_refl _) _).grown hg2 (by simp) (fun k hk => by have := Option.some.inj hk; omega)
          have LR2 : Hid (Lg w1.heap.size S w2 g L c) := LR.out.below hB2
          have DR2 : Hid (Done w1.heap.size S w2 d qs) := DR.out.later hB2
          have B2 : Hid (Below w1.heap.size w1 w2) := HB.out.trans (hB2.mono HB.out.size)
          have S2 : Hid (StepsAt (· < w.heap.size) w2 s op.steps) := HLI.out.1.kept (Kept.of_below hB2 _)
          have O2 : Hid (OpsAt (· < w.heap.size) w2 (.slice AO ops.length cO) ops) := HLI.out.2.kept (Kept.of_below hB2 _)
          have X2 := hide hb2
          clear hb2 hg2 hB2 HLI HR HZ
          refine (lg_join a1 _ ops LR2.out O2.out HAOK.out.1.mild).mono ?_
          rintro e w3 ⟨rfl, S', hl3, hin3, ht3⟩
          have LTx : Hid (Lg w1.heap.size S' w3 g (joinR L c a1 ops).1 c) := hl3
          have DTx : Hid (Done w1.heap.size S' w3 d qs) := DR2.out.moved hin3 ht3
          have QTx : Hid ((qs).map (·.1) = ((joinR L c a1 ops).1).take c) := HQ.out.trans (joinR_take L c a1 ops).symm
          have BTx : Hid (Below w1.heap.size w1 w3) := B2.out.trans (ht3.below (fun i hi => (LR2.out.1 i hi).1) B2.out.size)
          obtain ⟨LL, hLL⟩ : ∃ LL, LL = (joinR L c a1 ops).1 := ⟨_, rfl⟩
          rw [← hLL] at LTx
          rw [← hLL] at QTx
          clear hLL
          clear LR DR HQ LR2 DR2
          have hlT : qs.length = c := by have h1 := congrArg List.length QTx.out; have h2 := LTx.out.com; simp at h1; omega
          obtain ⟨AT, cpT, rfl, _⟩ := DTx.out.shape
          have hcom := LTx.out.com
          have hlen := LTx.out.len
          rw [hlT] at DTx
          try rw [hlT]
          have e1 : ((c : Int) != (c : Int)) = false := by simp
          have e2 : decide (LL.length < c) = false := decide_eq_false (by omega)
          have HE := hide (And.intro e1 (And.intro e2 hlT))
          clear hlT hcom hlen
          first | (refine (lg_committed LTx.out).mono ?_) | (go_wp2_with (fail); refine (lg_committed LTx.out).mono ?_)
          rintro e wq ⟨rfl, rfl⟩
          go_wp2_with (fail)
          refine (lg_last LTx.out).mono ?_
          rintro e wq ⟨rfl, rfl⟩
          go_wp2_with (fail)
          refine (lg_sinceB 0 LTx.out).mono ?_
          rintro e w9 ⟨ht9, hb9⟩
          obtain ⟨A9, c9, rs9, rfl, hrs9, hf9⟩ := ht9.one
          have OP9 := hide (prefix_any _ _ _ _ (LL.drop (fromOf LL.length 0)) (qs.map (·.1)) w9 ⟨rs9, hrs9, hf9.ops⟩ ⟨qs, rfl, (DTx.out.later hb9).ops⟩)
          rw [show pre (LL.drop (fromOf LL.length 0)) (qs.map (·.1)) = c from by rw [QTx.out, show LL.drop (fromOf LL.length 0) = LL from by simp [fromOf]]; exact pre_take LL c LTx.out.com] at OP9
          have LT9 := hide (LTx.out.below hb9)
          have DT9 := hide (DTx.out.later hb9)
          have BT9 : Hid (Below w1.heap.size w1 w9) := BTx.out.trans (hb9.mono BTx.out.size)
          clear ht9 hb9 hrs9 hf9
          go_wp2_with (fail)
          refine OP9.out.mono ?_
          rintro e w10 ⟨rfl, hb10⟩
          have LT10 := hide (LT9.out.below hb10)
          have DT10 := hide (DT9.out.later hb10)
          have BT10 : Hid (Below w1.heap.size w1 w10) := BT9.out.trans (hb10.mono BT9.out.size)
          clear hb10
          go_wp2
          go_roundw
          case rel => exact ⟨k + 1, S', LL, c, qs, _, by omega, by go_num, rfl, LT10.out, DT10.out, QTx.out, BT10.out⟩
          case measure => simp [Go.RowKit.intOf]; omega
        have e3 : (a0 == (3 : Int)) = false := by simpa using h3
        by_cases h4 : a0 = 4
        · subst h4
          go_wp2_with (first
           | (refine wpList_load_mid (by rfl) 37 _ (by rfl) b (off + k * 13) (by rfl) _ _ HR.out Try.underlying37 (by rfl) (by kernel_rfl) ?_)
           | (refine wpList_store_box (by rfl) 37 _ _ (by rfl) wr.heap.size 0 (ActV.cells ⟨⟨4, a1, op, ops⟩, s, .slice AO ops.length cO⟩).toArray (by rfl) (by rfl) 37 actZero HZ.out (by kernel_rfl) (by exact Nat.le_of_ble_eq_true rfl) (by exact act_one _ k1 k2) ?_; intro w2 hb2 hg2; rw [put_act] at hb2; have f0 := box_cell hb2 0 (.int .i64 4) (by rfl); have f1 := box_cell hb2 1 (.int .i64 a1) (by rfl); have f12 := box_cell hb2 12 (.slice AO ops.length cO) (by rfl)))
          have hB2 : Below wr.heap.size wr w2 := ((Below.refl _ _).alloc (Nat.le_refl _) _).grown hg2 (by simp) (fun k hk => by have := Option.some.inj hk; omega)
          have LR2 : Hid (Lg w1.heap.size S w2 g L c) := LR.out.below hB2
          have DR2 : Hid (Done w1.heap.size S w2 d qs) := DR.out.later hB2
          have B2 : Hid (Below w1.heap.size w1 w2) := HB.out.trans (hB2.mono HB.out.size)
          have S2 : Hid (StepsAt (· < w.heap.size) w2 s op.steps) := HLI.out.1.kept (Kept.of_below hB2 _)
          have O2 : Hid (OpsAt (· < w.heap.size) w2 (.slice AO ops.length cO) ops) := HLI.out.2.kept (Kept.of_below hB2 _)
          have X2 := hide hb2
          clear hb2 hg2 hB2 HLI HR HZ
          obtain ⟨po, hpo, hop⟩ := O2.out
          have hlo : po.length = ops.length := by have h1 := congrArg List.length hpo; simpa using h1
          have POLD : Hid (∀ i, i < w.heap.size → ¬ S i ∧ some i ≠ d.ownBlock) := fun i hi => ⟨fun hs => by have h1 := (LR2.out.1 i hs).1; have h2 := HBW.out.size; omega, fun e => by have h1 := (DR2.out.own.lt i e.symm).1; have h2 := HBW.out.size; omega⟩
          have XI : Hid (OpsIn (fun i => ¬ S i ∧ some i ≠ d.ownBlock ∧ i < w2.heap.size) w2 (.slice AO ops.length cO) po) := ⟨hop.1.mono fun i h1 h2 => ⟨(POLD.out i h2).1, (POLD.out i h2).2, h1⟩, fun p hp => (hop.2 p hp).mono fun i h1 h2 => ⟨(POLD.out i h2).1, (POLD.out i h2).2, h1⟩⟩
          have HPX := hide hpo
          have LX := LR2
          have DX := DR2
          have BX := B2
          have MILD := hide HAOK.out.1.mild
          have HCX := hide hO1
          have HNX : Hid (ops.length = ops.length) := rfl
          clear hpo hlo hop
          refine (lg_committed LR2.out).mono ?_
          rintro e wq ⟨rfl, rfl⟩
          go_wp2_with (fail)
          refine (lg_replace a1 _ ops LX.out ⟨po, HPX.out, XI.out⟩ MILD.out).mono ?_
          rintro e w3 ⟨rfl, S', hl3, hin3, ht3⟩
          have D3 : Hid (Done w1.heap.size S' w3 d qs) := DX.out.moved hin3 ht3
          have X3 : Hid (OpsIn (fun i => ¬ S i ∧ some i ≠ d.ownBlock ∧ i < w2.heap.size) w3 (.slice AO ops.length cO) po) := XI.out.kept (ht3.kept fun i hi => hi.1)
          have BX3 : Hid (Below w1.heap.size w1 w3) := BX.out.trans (ht3.below (fun i hi => (LX.out.1 i hi).1) BX.out.size)
          have P3 : Hid (∀ i, (¬ S i ∧ some i ≠ d.ownBlock ∧ i < w2.heap.size) → ¬ S' i ∧ some i ≠ d.ownBlock) := fun i hi => ⟨fun hs => by rcases hin3 i hs with h1 | h1; exact hi.1 h1; omega, hi.2.1⟩
          have L3 := hide hl3
          clear hl3 hin3 ht3
          by_cases hr : (replR L c ops a1).2.2 = 0
          · obtain ⟨hr0, hr1, hr2, hr3, hr4, hr5⟩ := replR_ok hr
            rw [hr]
            rw [hr0] at L3
            simp only [] at L3
            obtain ⟨m, hm⟩ : ∃ m, m = a1.toNat := ⟨_, rfl⟩
            rw [← hm] at hr1 hr2 L3
            clear hr hr0 hr5 hm
            have hpl : po.length = ops.length := by have h1 := congrArg List.length HPX.out; have h2 := HNX.out; rw [List.length_map] at h1; omega
            have hmx : m ≤ ops.length := by have h2 := HNX.out; omega
            have hcq : qs.length = c := by have h1 := congrArg List.length HQ.out; have h2 := LX.out.com; simp at h1; omega
            have hLen := LX.out.len
            have hCom := LX.out.com
            have hCX := HCX.out
            have hm3 : ((po.take m).drop c).length ≤ 2000 := by have h2 := HNX.out; simp; omega
            have hq3 : qs.length ≤ 2000 := by omega
            have XQ := X3.out.part hr1 (by omega : m ≤ po.length)
            obtain ⟨AP, cP, hP, _⟩ := FlatAt.shape XQ.1
            rw [hP] at XQ
            have XP := hide XQ
            clear XQ
            have g1 : decide (m < c) = false := decide_eq_false (by omega)
            have g2 : decide (ops.length < m) = false := decide_eq_false (by omega)
            clear hCom hcq hpl hLen
            go_wp2_with (fail)
            refine (lg_committed L3.out).mono ?_
            rintro e wq ⟨rfl, rfl⟩
            go_wp2_with (fail)
            refine (lg_committed L3.out).mono ?_
            rintro e wq ⟨rfl, rfl⟩
            go_wp2_with (fail)
            refine (lg_committed L3.out).mono ?_
            rintro e wq ⟨rfl, rfl⟩
            go_wp2_with (first
             | (refine wpList_val rfl (by rfl) (exec_part2 _ _ _ (by rfl) AO ops.length cO c m _ hP (by rfl) (by rfl) (by rfl) hr1 (by omega)) ?_)
             | (at_builtin; refine wpList_append_g rfl _ _ 28 (by rfl) w1.heap.size 35 i0 _ 10 96 Try.underlying28 hi hz0 hz1 hz2 rfl (by decide) d qs.length (opcells qs) (by rfl) D3.out.own (fun i => ¬ S i ∧ some i ≠ d.ownBlock ∧ i < w2.heap.size) AP ((po.take m).drop c).length cP (opcells ((po.take m).drop c)) (by rfl) XP.out.1 (by unfold maxLen; omega) (by omega) BX3.out.size ?_; intro v4 w4 how4 hgw4 hvw4))
            have hD4 := D3.out.more (rs := (po.take m).drop c) (fun i hi => (L3.out.1 i hi).2) (fun p hp => (XP.out.2 p hp).mono fun i _ hi => P3.out i hi) how4 hgw4 hvw4
            have hB4 := D3.out.over BX3.out.size hgw4
            have LTx : Hid (Lg w1.heap.size S' w4 g ops m) := L3.out.past D3.out hgw4
            have DTx : Hid (Done w1.heap.size S' w4 v4 (qs ++ (po.take m).drop c)) := hD4
            have QTx : Hid (((qs ++ (po.take m).drop c)).map (·.1) = (ops).take m) := by show _ = _; rw [List.map_append, HQ.out, ← hr3, List.map_drop, List.map_take, HPX.out]; exact take_join ops hr1
            have BTx : Hid (Below w1.heap.size w1 w4) := BX3.out.trans hB4
            obtain ⟨qT, hqT⟩ : ∃ qT, qT = (qs ++ (po.take m).drop c) := ⟨_, rfl⟩
            rw [← hqT] at DTx
            rw [← hqT] at QTx
            clear hqT
            clear LR DR HQ LR2 DR2
            have hlT : qT.length = m := by have h1 := congrArg List.length QTx.out; have h2 := LTx.out.com; simp at h1; omega
            obtain ⟨AT, cpT, rfl, _⟩ := DTx.out.shape
            have hcom := LTx.out.com
            have hlen := LTx.out.len
            rw [hlT] at DTx
            try rw [hlT]
            have e1 : ((m : Int) != (m : Int)) = false := by simp
            have e2 : decide (ops.length < m) = false := decide_eq_false (by omega)
            have HE := hide (And.intro e1 (And.intro e2 hlT))
            clear hlT hcom hlen
            first | (refine (lg_committed LTx.out).mono ?_) | (go_wp2_with (fail); refine (lg_committed LTx.out).mono ?_)
            rintro e wq ⟨rfl, rfl⟩
            go_wp2_with (fail)
            refine (lg_last LTx.out).mono ?_
            rintro e wq ⟨rfl, rfl⟩
            go_wp2_with (fail)
            refine (lg_sinceB 0 LTx.out).mono ?_
            rintro e w9 ⟨ht9, hb9⟩
            obtain ⟨A9, c9, rs9, rfl, hrs9, hf9⟩ := ht9.one
            have OP9 := hide (prefix_any _ _ _ _ (ops.drop (fromOf ops.length 0)) (qT.map (·.1)) w9 ⟨rs9, hrs9, hf9.ops⟩ ⟨qT, rfl, (DTx.out.later hb9).ops⟩)
            rw [show pre (ops.drop (fromOf ops.length 0)) (qT.map (·.1)) = m from by rw [QTx.out, show ops.drop (fromOf ops.length 0) = ops from by simp [fromOf]]; exact pre_take ops m LTx.out.com] at OP9
            have LT9 := hide (LTx.out.below hb9)
            have DT9 := hide (DTx.out.later hb9)
            have BT9 : Hid (Below w1.heap.size w1 w9) := BTx.out.trans (hb9.mono BTx.out.size)
            clear ht9 hb9 hrs9 hf9
            go_wp2_with (fail)
            refine OP9.out.mono ?_
            rintro e w10 ⟨rfl, hb10⟩
            have LT10 := hide (LT9.out.below hb10)
            have DT10 := hide (DT9.out.later hb10)
            have BT10 : Hid (Below w1.heap.size w1 w10) := BT9.out.trans (hb10.mono BT9.out.size)
            clear hb10
            go_wp2
            go_roundw
            case rel => exact ⟨k + 1, S', ops, m, qT, _, by omega, by go_num, rfl, LT10.out, DT10.out, QTx.out, BT10.out⟩
            case measure => simp [Go.RowKit.intOf]; omega
          · rw [(replR_no hr).1, (replR_no hr).2] at L3
            generalize hz : (replR L c ops a1).2.2 = z at hr ⊢
            have er : (z == (0 : Int)) = false := by simpa using hr
            clear hz
            have LTx : Hid (Lg w1.heap.size S' w3 g L c) := L3.out
            have DTx : Hid (Done w1.heap.size S' w3 d qs) := D3.out
            have QTx : Hid ((qs).map (·.1) = (L).take c) := HQ.out
            have BTx : Hid (Below w1.heap.size w1 w3) := BX3.out
            clear LR DR HQ LR2 DR2
            have hlT : qs.length = c := by have h1 := congrArg List.length QTx.out; have h2 := LTx.out.com; simp at h1; omega
            obtain ⟨AT, cpT, rfl, _⟩ := DTx.out.shape
            have hcom := LTx.out.com
            have hlen := LTx.out.len
            rw [hlT] at DTx
            try rw [hlT]
            have e1 : ((c : Int) != (c : Int)) = false := by simp
            have e2 : decide (L.length < c) = false := decide_eq_false (by omega)
            have HE := hide (And.intro e1 (And.intro e2 hlT))
            clear hlT hcom hlen
            first | (refine (lg_committed LTx.out).mono ?_) | (go_wp2_with (fail); refine (lg_committed LTx.out).mono ?_)
            rintro e wq ⟨rfl, rfl⟩
            go_wp2_with (fail)
            refine (lg_last LTx.out).mono ?_
            rintro e wq ⟨rfl, rfl⟩
            go_wp2_with (fail)
            refine (lg_sinceB 0 LTx.out).mono ?_
            rintro e w9 ⟨ht9, hb9⟩
            obtain ⟨A9, c9, rs9, rfl, hrs9, hf9⟩ := ht9.one
            have OP9 := hide (prefix_any _ _ _ _ (L.drop (fromOf L.length 0)) (qs.map (·.1)) w9 ⟨rs9, hrs9, hf9.ops⟩ ⟨qs, rfl, (DTx.out.later hb9).ops⟩)
            rw [show pre (L.drop (fromOf L.length 0)) (qs.map (·.1)) = c from by rw [QTx.out, show L.drop (fromOf L.length 0) = L from by simp [fromOf]]; exact pre_take L c LTx.out.com] at OP9
            have LT9 := hide (LTx.out.below hb9)
            have DT9 := hide (DTx.out.later hb9)
            have BT9 : Hid (Below w1.heap.size w1 w9) := BTx.out.trans (hb9.mono BTx.out.size)
            clear ht9 hb9 hrs9 hf9
            go_wp2_with (fail)
            refine OP9.out.mono ?_
            rintro e w10 ⟨rfl, hb10⟩
            have LT10 := hide (LT9.out.below hb10)
            have DT10 := hide (DT9.out.later hb10)
            have BT10 : Hid (Below w1.heap.size w1 w10) := BT9.out.trans (hb10.mono BT9.out.size)
            clear hb10
            go_wp2
            go_roundw
            case rel => exact ⟨k + 1, S', L, c, qs, _, by omega, by go_num, rfl, LT10.out, DT10.out, QTx.out, BT10.out⟩
            case measure => simp [Go.RowKit.intOf]; omega
        have e4 : (a0 == (4 : Int)) = false := by simpa using h4
        by_cases h5 : a0 = 5
        · subst h5
          go_wp2_with (first
           | (refine wpList_load_mid (by rfl) 37 _ (by rfl) b (off + k * 13) (by rfl) _ _ HR.out Try.underlying37 (by rfl) (by kernel_rfl) ?_)
           | (refine wpList_store_box (by rfl) 37 _ _ (by rfl) wr.heap.size 0 (ActV.cells ⟨⟨5, a1, op, ops⟩, s, .slice AO ops.length cO⟩).toArray (by rfl) (by rfl) 37 actZero HZ.out (by kernel_rfl) (by exact Nat.le_of_ble_eq_true rfl) (by exact act_one _ k1 k2) ?_; intro w2 hb2 hg2; rw [put_act] at hb2; have f0 := box_cell hb2 0 (.int .i64 5) (by rfl); have f1 := box_cell hb2 1 (.int .i64 a1) (by rfl); have f12 := box_cell hb2 12 (.slice AO ops.length cO) (by rfl)))
          have hB2 : Below wr.heap.size wr w2 := ((Below.refl _ _).alloc (Nat.le_refl _) _).grown hg2 (by simp) (fun k hk => by have := Option.some.inj hk; omega)
          have LR2 : Hid (Lg w1.heap.size S w2 g L c) := LR.out.below hB2
          have DR2 : Hid (Done w1.heap.size S w2 d qs) := DR.out.later hB2
          have B2 : Hid (Below w1.heap.size w1 w2) := HB.out.trans (hB2.mono HB.out.size)
          have S2 : Hid (StepsAt (· < w.heap.size) w2 s op.steps) := HLI.out.1.kept (Kept.of_below hB2 _)
          have O2 : Hid (OpsAt (· < w.heap.size) w2 (.slice AO ops.length cO) ops) := HLI.out.2.kept (Kept.of_below hB2 _)
          have X2 := hide hb2
          clear hb2 hg2 hB2 HLI HR HZ
          obtain ⟨po, hpo, hop⟩ := O2.out
          have hlo : po.length = ops.length := by have h1 := congrArg List.length hpo; simpa using h1
          have POLD : Hid (∀ i, i < w.heap.size → ¬ S i ∧ some i ≠ d.ownBlock) := fun i hi => ⟨fun hs => by have h1 := (LR2.out.1 i hs).1; have h2 := HBW.out.size; omega, fun e => by have h1 := (DR2.out.own.lt i e.symm).1; have h2 := HBW.out.size; omega⟩
          have PNEW : Hid (∀ i, w2.drew.heap.size ≤ i → ¬ S i ∧ some i ≠ d.ownBlock) := fun i hi => by
            have h0 : w2.heap.size ≤ i := hi
            exact ⟨fun hs => by have := (LR2.out.1 i hs).2; omega, fun e => by have := own_in DR2.out.own i e.symm; omega⟩
          have HOP := hide hop
          have FL : Hid (∀ w', Later w2 w' → FlatAt (· < w.heap.size) w' 10 (.slice AO ops.length cO) ops.length (opcells po)) := fun w' hb => by
            have h1 := (hop.kept (Kept.of_below hb _)).1
            rw [hlo] at h1
            exact h1
          have F12 := hide (fun w' (hb : Later w2 w') => box_cell ((Below.block hb _ (lt_of_block X2.out)).trans X2.out) 12 (.slice AO ops.length cO) (by rfl))
          have LD : Hid (Lg w1.heap.size S w2.drew g L c) := LR2.out.later (Kept.drew _ _)
          have HPO := hide hpo
          have HLO := hide hlo
          have hol : ops.length ≤ 300 := HAOK.out.1.1
          clear hpo hlo hop
          refine (lg_committed LR2.out).mono ?_
          rintro e wq ⟨rfl, rfl⟩
          go_wp2
          refine wp_region_S (fun j => j == 4) (by kernel_rfl) ?_
          refine wpAnyS_take (i := 0) (d := some 60) (v := ?vap0) rfl rfl (by kernel_rfl) (by kernel_rfl) (by kernel_rfl) (by kernel_rfl) (by kernel_rfl) (fun _ _ _ h => h) (by rfl) ?yap0 ?_
          case yap0 => (intro w' hw'; go_simp; try (with_reducible rfl))
          simp only [Act.put]; try simp only [List.setIfInBounds_toArray]; try simp only [List.set_cons_zero, List.set_cons_succ]
          refine wpAnyS_take (i := 2) (d := some 62) (v := ?vap2) rfl rfl (by kernel_rfl) (by kernel_rfl) (by kernel_rfl) (by kernel_rfl) (by kernel_rfl) (fun _ _ _ h => h) (by rfl) ?yap2 ?_
          case yap2 => (intro w' hw'; go_simp; try (with_reducible rfl))
          simp only [Act.put]; try simp only [List.setIfInBounds_toArray]; try simp only [List.set_cons_zero, List.set_cons_succ]
          refine wpAnyS_take (i := 3) (d := some 63) (v := .slice AO ops.length cO) rfl rfl (by kernel_rfl) (by kernel_rfl) (by kernel_rfl) (by kernel_rfl) (by kernel_rfl) (fun _ _ _ h => h) (by rfl) ?yap3 ?_
          case yap3 => (intro w' hw'; have f12 := F12.out w' ((Later.drew _).trans hw'); go_simp; try (with_reducible rfl))
          simp only [Act.put]; try simp only [List.setIfInBounds_toArray]; try simp only [List.set_cons_zero, List.set_cons_succ]
          refine wpAnyS_only (i := 1) rfl (by kernel_rfl) (by rfl) fun K hK => ?_
          go_simp
          refine (lg_sinceB 0 LD.out).mono ?_
          rintro e w4 ⟨ht4, hb4⟩
          obtain ⟨A4, c4, rs4, rfl, hrs4, hln4, hf4, ho4⟩ := ht4.own3
          rw [show L.drop (fromOf L.length 0) = L from by simp [fromOf]] at hrs4 hln4
          have R4 := hide hrs4
          have N4 := hide hln4
          have F4 := hide hf4
          have OW4 := hide ho4
          have HB4 := hide hb4
          have HS4 := hide hb4.size
          clear ht4 hrs4 hln4 hf4 ho4 hb4
          refine hK.out _ _ HB4.out ?_
          clear hK K
          try (simp only [Act.put]; try simp only [List.setIfInBounds_toArray]; try simp only [List.set_cons_zero, List.set_cons_succ])
          refine wpAnyS_write (i := 4) rfl rfl (by kernel_rfl) (by rfl) fun K hK => ?_
          have hLen := LR2.out.len
          have hn4 := N4.out
          refine wp_append_gen _ _ 28 (by rfl) w2.drew.heap.size 35 i0 _ 10 96 Try.underlying28 hi hz0 hz1 hz2 rfl (by decide) (.slice A4 rs4.length c4) rs4.length (opcells rs4) (by rfl) OW4.out (· < w.heap.size) AO ops.length cO (opcells po) (by rfl) (FL.out w4 ((Later.drew _).trans HB4.out)) (by unfold maxLen; omega) (by omega) HS4.out ?_
          intro v5 w5 ho5 hg5 hv5
          obtain ⟨nX, hnX⟩ : ∃ n, n = rs4.length + ops.length := ⟨_, rfl⟩
          rw [← hnX] at ho5
          obtain ⟨A5, c5, rfl, hc5⟩ := own_slice ho5
          have B45 : Below w2.drew.heap.size w2.drew w5 := HB4.out.grown hg5 HB4.out.size fun q hq => (OW4.out.lt q hq).1
          have B25 : Hid (Later w2 w5) := (Later.drew w2).trans B45
          have ST5 : Hid (∀ p ∈ rs4 ++ po, StepsAt (fun i => ¬ S i ∧ some i ≠ d.ownBlock ∧ i < w5.heap.size) w5 p.2 p.1.steps) := fun p hp => by
            rcases List.mem_append.1 hp with hp | hp
            · have a1 := FlatAt.and (F4.out.ops.2 p hp) (F4.out.apart p hp)
              have a2 := FlatAt.kept a1 (Kept.of_grown hg5 fun g e hf => hf.2 e.symm)
              exact FlatAt.mono a2 fun i h1 h2 => ⟨(PNEW.out i h2.1).1, (PNEW.out i h2.1).2, h1⟩
            · exact FlatAt.mono (FlatAt.kept (HOP.out.2 p hp) (Kept.of_below B25.out _)) fun i h1 h2 => ⟨(POLD.out i h2).1, (POLD.out i h2).2, h1⟩
          have XI : Hid (OpsIn (fun i => ¬ S i ∧ some i ≠ d.ownBlock ∧ i < w5.heap.size) w5 (.slice A5 nX c5) (rs4 ++ po)) := by
            refine ⟨?_, ST5.out⟩
            have a3 := FlatAt.mono (FlatAt.of_own ho5 (by rw [← opcells_append]; exact ops_one fun p hp => FlatAt.oneCell (ST5.out p hp))) (G := fun i => ¬ S i ∧ some i ≠ d.ownBlock ∧ i < w5.heap.size) fun i h1 h2 => ⟨(PNEW.out i h2).1, (PNEW.out i h2).2, h1⟩
            rw [← opcells_append] at a3
            rw [List.length_append, HLO.out, ← hnX]
            exact a3
          have HPX : Hid ((rs4 ++ po).map (·.1) = L ++ ops) := by show _ = _; rw [List.map_append, R4.out, HPO.out]
          have HNX : Hid ((L ++ ops).length = nX) := by show _ = _; rw [hnX, List.length_append]; omega
          have MILD : Hid (Mild (L ++ ops)) := fun o ho => by rcases List.mem_append.1 ho with ho | ho; exact LR2.out.mild o ho; exact HAOK.out.1.mild o ho
          have LX : Hid (Lg w1.heap.size S w5 g L c) := LR2.out.below B25.out
          have DX : Hid (Done w1.heap.size S w5 d qs) := DR2.out.later B25.out
          have BX : Hid (Below w1.heap.size w1 w5) := B2.out.trans (B25.out.mono B2.out.size)
          have HCX := hide hc5
          have f1x := box_cell ((Below.block B25.out _ (lt_of_block X2.out)).trans X2.out) 1 (.int .i64 a1) (by rfl)
          obtain ⟨MX, hMX⟩ : ∃ MX, MX = L ++ ops := ⟨_, rfl⟩
          rw [← hMX] at HPX HNX MILD
          clear ho5 hg5 hv5 B45 ST5 hMX hnX hc5 OW4 F4 N4 R4 hn4 hLen
          refine hK.out _ _ ?_
          clear hK K
          try (simp only [Act.put]; try simp only [List.setIfInBounds_toArray]; try simp only [List.set_cons_zero, List.set_cons_succ])
          refine wpAnyS_pure (i := 5) (d := some 8) (v := ?vap5) rfl rfl (by kernel_rfl) (by kernel_rfl) (by kernel_rfl) (by kernel_rfl) (fun _ _ _ h => h) (by rfl) ?yap5 ?_
          case yap5 => (intro w'; go_simp; try (with_reducible rfl))
          simp only [Act.put]; try simp only [List.setIfInBounds_toArray]; try simp only [List.set_cons_zero, List.set_cons_succ]
          refine wpAnyS_done (by kernel_rfl) ?_ _
          go_wp2_with (fail)
          refine (lg_replace a1 _ MX LX.out ⟨(rs4 ++ po), HPX.out, XI.out⟩ MILD.out).mono ?_
          rintro e w3 ⟨rfl, S', hl3, hin3, ht3⟩
          have D3 : Hid (Done w1.heap.size S' w3 d qs) := DX.out.moved hin3 ht3
          have X3 : Hid (OpsIn (fun i => ¬ S i ∧ some i ≠ d.ownBlock ∧ i < w5.heap.size) w3 (.slice A5 nX c5) (rs4 ++ po)) := XI.out.kept (ht3.kept fun i hi => hi.1)
          have BX3 : Hid (Below w1.heap.size w1 w3) := BX.out.trans (ht3.below (fun i hi => (LX.out.1 i hi).1) BX.out.size)
          have P3 : Hid (∀ i, (¬ S i ∧ some i ≠ d.ownBlock ∧ i < w5.heap.size) → ¬ S' i ∧ some i ≠ d.ownBlock) := fun i hi => ⟨fun hs => by rcases hin3 i hs with h1 | h1; exact hi.1 h1; omega, hi.2.1⟩
          have L3 := hide hl3
          clear hl3 hin3 ht3
          by_cases hr : (replR L c MX a1).2.2 = 0
          · obtain ⟨hr0, hr1, hr2, hr3, hr4, hr5⟩ := replR_ok hr
            rw [hr]
            rw [hr0] at L3
            simp only [] at L3
            obtain ⟨m, hm⟩ : ∃ m, m = a1.toNat := ⟨_, rfl⟩
            rw [← hm] at hr1 hr2 L3
            clear hr hr0 hr5 hm
            have hpl : (rs4 ++ po).length = nX := by have h1 := congrArg List.length HPX.out; have h2 := HNX.out; rw [List.length_map] at h1; omega
            have hmx : m ≤ nX := by have h2 := HNX.out; omega
            have hcq : qs.length = c := by have h1 := congrArg List.length HQ.out; have h2 := LX.out.com; simp at h1; omega
            have hLen := LX.out.len
            have hCom := LX.out.com
            have hCX := HCX.out
            have hm3 : (((rs4 ++ po).take m).drop c).length ≤ 2000 := by have h2 := HNX.out; simp; omega
            have hq3 : qs.length ≤ 2000 := by omega
            have XQ := X3.out.part hr1 (by omega : m ≤ (rs4 ++ po).length)
            obtain ⟨AP, cP, hP, _⟩ := FlatAt.shape XQ.1
            rw [hP] at XQ
            have XP := hide XQ
            clear XQ
            have g1 : decide (m < c) = false := decide_eq_false (by omega)
            have g2 : decide (nX < m) = false := decide_eq_false (by omega)
            clear hCom hcq hpl hLen
            go_wp2_with (fail)
            refine (lg_committed L3.out).mono ?_
            rintro e wq ⟨rfl, rfl⟩
            go_wp2_with (fail)
            refine (lg_committed L3.out).mono ?_
            rintro e wq ⟨rfl, rfl⟩
            go_wp2_with (fail)
            refine (lg_committed L3.out).mono ?_
            rintro e wq ⟨rfl, rfl⟩
            go_wp2_with (first
             | (refine wpList_val rfl (by rfl) (exec_part2 _ _ _ (by rfl) A5 nX c5 c m _ hP (by rfl) (by rfl) (by rfl) hr1 (by omega)) ?_)
             | (at_builtin; refine wpList_append_g rfl _ _ 28 (by rfl) w1.heap.size 35 i0 _ 10 96 Try.underlying28 hi hz0 hz1 hz2 rfl (by decide) d qs.length (opcells qs) (by rfl) D3.out.own (fun i => ¬ S i ∧ some i ≠ d.ownBlock ∧ i < w5.heap.size) AP (((rs4 ++ po).take m).drop c).length cP (opcells (((rs4 ++ po).take m).drop c)) (by rfl) XP.out.1 (by unfold maxLen; omega) (by omega) BX3.out.size ?_; intro v4 w4 how4 hgw4 hvw4))
            have hD4 := D3.out.more (rs := ((rs4 ++ po).take m).drop c) (fun i hi => (L3.out.1 i hi).2) (fun p hp => (XP.out.2 p hp).mono fun i _ hi => P3.out i hi) how4 hgw4 hvw4
            have hB4 := D3.out.over BX3.out.size hgw4
            have LTx : Hid (Lg w1.heap.size S' w4 g MX m) := L3.out.past D3.out hgw4
            have DTx : Hid (Done w1.heap.size S' w4 v4 (qs ++ ((rs4 ++ po).take m).drop c)) := hD4
            have QTx : Hid (((qs ++ ((rs4 ++ po).take m).drop c)).map (·.1) = (MX).take m) := by show _ = _; rw [List.map_append, HQ.out, ← hr3, List.map_drop, List.map_take, HPX.out]; exact take_join MX hr1
            have BTx : Hid (Below w1.heap.size w1 w4) := BX3.out.trans hB4
            obtain ⟨qT, hqT⟩ : ∃ qT, qT = (qs ++ ((rs4 ++ po).take m).drop c) := ⟨_, rfl⟩
            rw [← hqT] at DTx
            rw [← hqT] at QTx
            clear hqT
            clear LR DR HQ LR2 DR2
            have hlT : qT.length = m := by have h1 := congrArg List.length QTx.out; have h2 := LTx.out.com; simp at h1; omega
            obtain ⟨AT, cpT, rfl, _⟩ := DTx.out.shape
            have hcom := LTx.out.com
            have hlen := LTx.out.len
            rw [hlT] at DTx
            try rw [hlT]
            have e1 : ((m : Int) != (m : Int)) = false := by simp
            have e2 : decide (MX.length < m) = false := decide_eq_false (by omega)
            have HE := hide (And.intro e1 (And.intro e2 hlT))
            clear hlT hcom hlen
            first | (refine (lg_committed LTx.out).mono ?_) | (go_wp2_with (fail); refine (lg_committed LTx.out).mono ?_)
            rintro e wq ⟨rfl, rfl⟩
            go_wp2_with (fail)
            refine (lg_last LTx.out).mono ?_
            rintro e wq ⟨rfl, rfl⟩
            go_wp2_with (fail)
            refine (lg_sinceB 0 LTx.out).mono ?_
            rintro e w9 ⟨ht9, hb9⟩
            obtain ⟨A9, c9, rs9, rfl, hrs9, hf9⟩ := ht9.one
            have OP9 := hide (prefix_any _ _ _ _ (MX.drop (fromOf MX.length 0)) (qT.map (·.1)) w9 ⟨rs9, hrs9, hf9.ops⟩ ⟨qT, rfl, (DTx.out.later hb9).ops⟩)
            rw [show pre (MX.drop (fromOf MX.length 0)) (qT.map (·.1)) = m from by rw [QTx.out, show MX.drop (fromOf MX.length 0) = MX from by simp [fromOf]]; exact pre_take MX m LTx.out.com] at OP9
            have LT9 := hide (LTx.out.below hb9)
            have DT9 := hide (DTx.out.later hb9)
            have BT9 : Hid (Below w1.heap.size w1 w9) := BTx.out.trans (hb9.mono BTx.out.size)
            clear ht9 hb9 hrs9 hf9
            go_wp2_with (fail)
            refine OP9.out.mono ?_
            rintro e w10 ⟨rfl, hb10⟩
            have LT10 := hide (LT9.out.below hb10)
            have DT10 := hide (DT9.out.later hb10)
            have BT10 : Hid (Below w1.heap.size w1 w10) := BT9.out.trans (hb10.mono BT9.out.size)
            clear hb10
            go_wp2
            go_roundw
            case rel => exact ⟨k + 1, S', MX, m, qT, _, by omega, by go_num, rfl, LT10.out, DT10.out, QTx.out, BT10.out⟩
            case measure => simp [Go.RowKit.intOf]; omega
          · rw [(replR_no hr).1, (replR_no hr).2] at L3
            generalize hz : (replR L c MX a1).2.2 = z at hr ⊢
            have er : (z == (0 : Int)) = false := by simpa using hr
            clear hz
            have LTx : Hid (Lg w1.heap.size S' w3 g L c) := L3.out
            have DTx : Hid (Done w1.heap.size S' w3 d qs) := D3.out
            have QTx : Hid ((qs).map (·.1) = (L).take c) := HQ.out
            have BTx : Hid (Below w1.heap.size w1 w3) := BX3.out
            clear LR DR HQ LR2 DR2
            have hlT : qs.length = c := by have h1 := congrArg List.length QTx.out; have h2 := LTx.out.com; simp at h1; omega
            obtain ⟨AT, cpT, rfl, _⟩ := DTx.out.shape
            have hcom := LTx.out.com
            have hlen := LTx.out.len
            rw [hlT] at DTx
            try rw [hlT]
            have e1 : ((c : Int) != (c : Int)) = false := by simp
            have e2 : decide (L.length < c) = false := decide_eq_false (by omega)
            have HE := hide (And.intro e1 (And.intro e2 hlT))
            clear hlT hcom hlen
            first | (refine (lg_committed LTx.out).mono ?_) | (go_wp2_with (fail); refine (lg_committed LTx.out).mono ?_)
            rintro e wq ⟨rfl, rfl⟩
            go_wp2_with (fail)
            refine (lg_last LTx.out).mono ?_
            rintro e wq ⟨rfl, rfl⟩
            go_wp2_with (fail)
            refine (lg_sinceB 0 LTx.out).mono ?_
            rintro e w9 ⟨ht9, hb9⟩
            obtain ⟨A9, c9, rs9, rfl, hrs9, hf9⟩ := ht9.one
            have OP9 := hide (prefix_any _ _ _ _ (L.drop (fromOf L.length 0)) (qs.map (·.1)) w9 ⟨rs9, hrs9, hf9.ops⟩ ⟨qs, rfl, (DTx.out.later hb9).ops⟩)
            rw [show pre (L.drop (fromOf L.length 0)) (qs.map (·.1)) = c from by rw [QTx.out, show L.drop (fromOf L.length 0) = L from by simp [fromOf]]; exact pre_take L c LTx.out.com] at OP9
            have LT9 := hide (LTx.out.below hb9)
            have DT9 := hide (DTx.out.later hb9)
            have BT9 : Hid (Below w1.heap.size w1 w9) := BTx.out.trans (hb9.mono BTx.out.size)
            clear ht9 hb9 hrs9 hf9
            go_wp2_with (fail)
            refine OP9.out.mono ?_
            rintro e w10 ⟨rfl, hb10⟩
            have LT10 := hide (LT9.out.below hb10)
            have DT10 := hide (DT9.out.later hb10)
            have BT10 : Hid (Below w1.heap.size w1 w10) := BT9.out.trans (hb10.mono BT9.out.size)
            clear hb10
            go_wp2
            go_roundw
            case rel => exact ⟨k + 1, S', L, c, qs, _, by omega, by go_num, rfl, LT10.out, DT10.out, QTx.out, BT10.out⟩
            case measure => simp [Go.RowKit.intOf]; omega
        have e5 : (a0 == (5 : Int)) = false := by simpa using h5
        go_wp2_with (first
         | (refine wpList_load_mid (by rfl) 37 _ (by rfl) b (off + k * 13) (by rfl) _ _ HR.out Try.underlying37 (by rfl) (by kernel_rfl) ?_)
         | (refine wpList_store_box (by rfl) 37 _ _ (by rfl) wr.heap.size 0 (ActV.cells ⟨⟨a0, a1, op, ops⟩, s, .slice AO ops.length cO⟩).toArray (by rfl) (by rfl) 37 actZero HZ.out (by kernel_rfl) (by exact Nat.le_of_ble_eq_true rfl) (by exact act_one _ k1 k2) ?_; intro w2 hb2 hg2; rw [put_act] at hb2; have f0 := box_cell hb2 0 (.int .i64 a0) (by rfl); have f1 := box_cell hb2 1 (.int .i64 a1) (by rfl); have f12 := box_cell hb2 12 (.slice AO ops.length cO) (by rfl)))
        have hB2 : Below wr.heap.size wr w2 := ((Below.refl _ _).alloc (Nat.le_refl _) _).grown hg2 (by simp) (fun k hk => by have := Option.some.inj hk; omega)
        have LR2 : Hid (Lg w1.heap.size S w2 g L c) := LR.out.below hB2
        have DR2 : Hid (Done w1.heap.size S w2 d qs) := DR.out.later hB2
        have B2 : Hid (Below w1.heap.size w1 w2) := HB.out.trans (hB2.mono HB.out.size)
        have S2 : Hid (StepsAt (· < w.heap.size) w2 s op.steps) := HLI.out.1.kept (Kept.of_below hB2 _)
        have O2 : Hid (OpsAt (· < w.heap.size) w2 (.slice AO ops.length cO) ops) := HLI.out.2.kept (Kept.of_below hB2 _)
        have X2 := hide hb2
        clear hb2 hg2 hB2 HLI HR HZ
        have LTx : Hid (Lg w1.heap.size S w2 g L c) := LR2.out
        have DTx : Hid (Done w1.heap.size S w2 d qs) := DR2.out
        have QTx : Hid ((qs).map (·.1) = (L).take c) := HQ.out
        have BTx : Hid (Below w1.heap.size w1 w2) := B2.out
        clear LR DR HQ LR2 DR2
        have hlT : qs.length = c := by have h1 := congrArg List.length QTx.out; have h2 := LTx.out.com; simp at h1; omega
        obtain ⟨AT, cpT, rfl, _⟩ := DTx.out.shape
        have hcom := LTx.out.com
        have hlen := LTx.out.len
        rw [hlT] at DTx
        try rw [hlT]
        have e1 : ((c : Int) != (c : Int)) = false := by simp
        have e2 : decide (L.length < c) = false := decide_eq_false (by omega)
        have HE := hide (And.intro e1 (And.intro e2 hlT))
        clear hlT hcom hlen
        first | (refine (lg_committed LTx.out).mono ?_) | (go_wp2_with (fail); refine (lg_committed LTx.out).mono ?_)
        rintro e wq ⟨rfl, rfl⟩
        go_wp2_with (fail)
        refine (lg_last LTx.out).mono ?_
        rintro e wq ⟨rfl, rfl⟩
        go_wp2_with (fail)
        refine (lg_sinceB 0 LTx.out).mono ?_
        rintro e w9 ⟨ht9, hb9⟩
        obtain ⟨A9, c9, rs9, rfl, hrs9, hf9⟩ := ht9.one
        have OP9 := hide (prefix_any _ _ _ _ (L.drop (fromOf L.length 0)) (qs.map (·.1)) w9 ⟨rs9, hrs9, hf9.ops⟩ ⟨qs, rfl, (DTx.out.later hb9).ops⟩)
        rw [show pre (L.drop (fromOf L.length 0)) (qs.map (·.1)) = c from by rw [QTx.out, show L.drop (fromOf L.length 0) = L from by simp [fromOf]]; exact pre_take L c LTx.out.com] at OP9
        have LT9 := hide (LTx.out.below hb9)
        have DT9 := hide (DTx.out.later hb9)
        have BT9 : Hid (Below w1.heap.size w1 w9) := BTx.out.trans (hb9.mono BTx.out.size)
        clear ht9 hb9 hrs9 hf9
        go_wp2_with (fail)
        refine OP9.out.mono ?_
        rintro e w10 ⟨rfl, hb10⟩
        have LT10 := hide (LT9.out.below hb10)
        have DT10 := hide (DT9.out.later hb10)
        have BT10 : Hid (Below w1.heap.size w1 w10) := BT9.out.trans (hb10.mono BT9.out.size)
        clear hb10
        go_wp2
        go_roundw
        case rel => exact ⟨k + 1, S, L, c, qs, _, by omega, by go_num, rfl, LT10.out, DT10.out, QTx.out, BT10.out⟩
        case measure => simp [Go.RowKit.intOf]; omega
      · obtain rfl : k = ps.length := by omega
        go_wp2_with (fail)
        refine (LIVE.out _).mono ?_
        rintro e w5 ⟨rfl, hb5⟩
        have B5 := hide (HBW.out.trans ((HB.out.trans (hb5.mono HB.out.size)).mono HBW.out.size))
        clear hb5
        go_wp2
        go_ret
        exact ⟨rfl, B5.out⟩
end Go.Proofs.Ytgjpdfolnkjhfaa
