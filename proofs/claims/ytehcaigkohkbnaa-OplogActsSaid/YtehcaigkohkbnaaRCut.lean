/- The document's log: Cut, Join, Since. -/
import Derived.Test.YtehcaigkohkbnaaRLog
namespace Go.Proofs.Ytehcaigkohkbnaa
open Go.RowKit

/-- What a call of the document's log leaves. -/
def Left (F : Nat → Prop) (r : Nat) (w w' : World) (L : List OpD) (c : Nat) : Prop := RAt F w' r L c ∧ w.grownBy w' (some r)
theorem left_same {F : Nat → Prop} {r c : Nat} {w w' : World} {L : List OpD} {v : Value} {ps : List (OpD × Value)} (h : RLog F w r L c v ps) (hb : Below w.heap.size w w') : Left F r w w' L c := ⟨⟨v, ps, h.later hb⟩, grown_later hb _⟩
theorem left_put {F : Nat → Prop} {r c : Nat} {w w2 : World} {L M : List OpD} {v v' : Value} {ps qs : List (OpD × Value)} (h : RLog F w r L c v ps) (hb : Below w.heap.size w w2) (ho : w2.ownsRow w.heap.size 33 10 v' qs.length (opcells qs))
    (hs : ∀ p ∈ qs, StepsAt F w2 p.2 p.1.steps) (hM : qs.map (·.1) = M) (hl : M.length ≤ 2000) (hc : c ≤ M.length) : Left F r w (w2.setCell ⟨r, 0, none⟩ v') M c := by
  subst hM
  rw [List.length_map] at hl hc
  obtain ⟨h1, h2⟩ := h.put hb (own_ops ho h.new hs) hl hc
  exact ⟨⟨v', qs, h1⟩, h2⟩
theorem exec_to {op : Oper} {a : Act} {w : World} (x z : Operand) (ho : op.op = .slice 39 x none (some z) none) (A : Option Addr) (n c hi : Nat) (hx : a.eval x = .slice A n c) (hz : a.eval z = .int .i64 (hi : Int)) (h1 : hi ≤ n) (h2 : n ≤ c) :
    (execOp a.eval op).run Try.prog w = .ok (.value (.slice A hi c)) w := by
  have ht : Try.prog.underlying 39 = some (.slice (Try.prog.elem 39)) := by kernel_rfl
  unfold execOp
  simp only [ho, hx, hz, Option.map_some, Option.map_none, Sem.run_bind, Sem.run_pure]
  rw [run_sliceAt_slice _ _ _ _ _ _ ht, slice_to h1 h2]
  rfl

set_option maxHeartbeats 2000000 in
set_option maxRecDepth 100000 in
theorem refcut_any {F : Nat → Prop} {r c : Nat} {L : List OpD} (n : Int) (w : World) (h : RAt F w r L c) :
    Calls Try.prog 34 #[.pointer (some ⟨r, 0, none⟩), .int .i64 n] w fun e w' => e = .returned (.int .i64 (cutR L c n).2) ∧ Left F r w w' (cutR L c n).1 c := by
  obtain ⟨v, ps, h⟩ := h
  obtain ⟨A, cp, rfl, hn1, hn2⟩ := h.shape
  have hlen := h.len
  have hcom := h.com
  have hpl : ps.length = L.length := by rw [← h.says, List.length_map]
  obtain ⟨n0, hn0⟩ : ∃ n0, L.length = n0 := ⟨_, rfl⟩
  rw [hn0] at h hn1 hlen hcom hpl
  obtain ⟨c0, c1, f0, f1⟩ := h.cells
  have hr := h.lt
  have H := hide h
  have HN := hide hn0
  have HPL := hide hpl
  unfold maxLen at hn2
  clear h hn0 hpl
  by_cases hlo : n < (c : Int)
  · have HR : Hid (cutR L c n = (L, 2)) := by show _ = _; unfold cutR; rw [if_pos hlo]
    go_enter Try.func34, Try.ntmps34
    go_wp2
    go_ret
    rw [HR.out]
    exact ⟨rfl, left_same H.out (Below.refl _ _)⟩
  · have hlo' : decide (n < (c : Int)) = false := by simpa using hlo
    have HR : Hid (cutR L c n = (L.take n.toNat, 0)) := by show _ = _; unfold cutR; rw [if_neg hlo]
    obtain ⟨m, rfl⟩ : ∃ m : Nat, n = (m : Int) := ⟨n.toNat, by omega⟩
    have hlo2 : decide (m < c) = false := by simp; omega
    by_cases hm : m < n0
    · have hm2 : decide (m < n0) = true := by simpa using hm
      obtain ⟨qs, hqs⟩ : ∃ qs, qs = ps.take m := ⟨_, rfl⟩
      have HQ : Hid (∀ w', Below w.heap.size w w' → OpsIn F w' (.slice A m cp) qs) := fun w' hb => by rw [hqs]; exact OpsIn.first (H.out.later hb).ops (by have := HPL.out; omega)
      have HQS := hide hqs
      have HQL : Hid (qs.length = m) := by show _ = _; rw [hqs, List.length_take, HPL.out]; omega
      have hcm : c ≤ m := by omega
      clear hqs hlo hlo'
      go_enter Try.func34, Try.ntmps34
      go_wp2_with (first
        | (refine wpList_empty (by rfl) (by rfl) ?_; intro w1 he; have HE := hide he; obtain ⟨c0, c1, f0, f1⟩ := (H.out.later he.2.1).cells; have hr1 : r < w1.heap.size := Nat.lt_of_lt_of_le hr he.2.1.size; clear he)
        | (refine wpList_val rfl (by rfl) (exec_to _ _ (by rfl) A n0 cp m (by rfl) (by rfl) (by omega) (by omega)) ?_)
        | (refine wpList_append_ops (by rfl) (B := w.heap.size) (qs := []) (rs := qs) (F := F) (G := F) _ _ (by rfl) (by rfl) HE.out.1 (by simp) (by rfl) (HQ.out _ HE.out.2.1) (by have := HQL.out; simp; omega) (by have := (HE.out.2.1).size; omega) ?_; intro ts2 A2 cp2 w2 e2 ho2 hg2 hc2; have HO2 := hide ho2; have HB2 : Hid (Below w.heap.size w w2) := own_grown HE.out.2.1 HE.out.1 hg2; obtain ⟨c0, c1, f0, f1⟩ := (H.out.later HB2.out).cells; have hr2 : r < w2.heap.size := Nat.lt_of_lt_of_le hr HB2.out.size; clear ho2 hg2))
      go_ret
      rw [HR.out]
      refine ⟨rfl, left_put H.out HB2.out HO2.out (fun p hp => ?_) ?_ ?_ ?_⟩
      · rw [e2.out, List.nil_append] at hp
        exact (HQ.out _ HB2.out).2 p hp
      · rw [e2.out, List.nil_append, HQS.out, List.map_take, H.out.says]
        rfl
      · simp only [Int.toNat_natCast, List.length_take]
        have := HN.out
        omega
      · simp only [Int.toNat_natCast, List.length_take]
        have := HN.out
        omega
    · have hm2 : decide (m < n0) = false := by simpa using hm
      have hmx : n0 ≤ m := by omega
      clear hm hlo hlo'
      go_enter Try.func34, Try.ntmps34
      go_wp2
      go_ret
      rw [HR.out]
      refine ⟨rfl, ?_⟩
      rw [show L.take ((m : Int).toNat) = L from List.take_of_length_le (by have := HN.out; simp; omega)]
      exact left_same H.out (Below.refl _ _)

set_option maxHeartbeats 2000000 in
set_option maxRecDepth 100000 in
theorem refjoin_any {F : Nat → Prop} {r c : Nat} {L : List OpD} (n : Int) (v2 : Value) (M : List OpD) (w : World) (h : RAt F w r L c) (hM : OpsAt F w v2 M) (hMs : M.length ≤ 100000) :
    Calls Try.prog 36 #[.pointer (some ⟨r, 0, none⟩), .int .i64 n, v2] w fun e w' => e = .returned (.int .i64 (joinR L c n M).2) ∧ Left F r w w' (joinR L c n M).1 c := by
  obtain ⟨v, ps, h⟩ := h
  obtain ⟨A, cp, rfl, hn1, hn2⟩ := h.shape
  have hlen := h.len
  have hcom := h.com
  have hpl : ps.length = L.length := by rw [← h.says, List.length_map]
  obtain ⟨n0, hn0⟩ : ∃ n0, L.length = n0 := ⟨_, rfl⟩
  rw [hn0] at h hn1 hlen hcom hpl
  obtain ⟨c0, c1, f0, f1⟩ := h.cells
  have hr := h.lt
  have H := hide h
  have HN := hide hn0
  have HPL := hide hpl
  unfold maxLen at hn2
  clear h hn0 hpl
  obtain ⟨ms, hms, hMo⟩ := hM
  obtain ⟨A9, cp9, rfl, hk1, hk2, _⟩ := FlatAt.shape hMo.1
  obtain ⟨k0, hk0⟩ : ∃ k0, ms.length = k0 := ⟨_, rfl⟩
  have hML : M.length = k0 := by rw [← hms, List.length_map, hk0]
  rw [hk0] at hk1 hMo ⊢
  rw [hML] at hMs
  have HM : Hid (∀ w', Below w.heap.size w w' → OpsIn F w' (.slice A9 k0 cp9) ms) := fun w' hb => hMo.kept (Kept.of_below hb _)
  have HK0 := hide hk0
  have HMS := hide hms
  have HML := hide hML
  clear hMo hk0 hms hML hk2
  have hj : joinR L c n M = if n < (c : Int) ∨ (n0 : Int) < n then (L, 2) else if 2000 < n.toNat + k0 then (L, 7) else (L.take n.toNat ++ M, 0) := by unfold joinR; rw [HN.out, HML.out]
  have HJ := hide hj
  clear hj
  by_cases hlo : n < (c : Int)
  · have HR : Hid (joinR L c n M = (L, 2)) := by show _ = _; rw [HJ.out, if_pos (.inl hlo)]
    clear HJ
    go_enter Try.func36, Try.ntmps36
    go_wp2
    go_ret
    rw [HR.out]
    exact ⟨rfl, left_same H.out (Below.refl _ _)⟩
  have hlo' : decide (n < (c : Int)) = false := by simpa using hlo
  by_cases hhi : (n0 : Int) < n
  · have HR : Hid (joinR L c n M = (L, 2)) := by show _ = _; rw [HJ.out, if_pos (.inr hhi)]
    have hhi' : decide ((n0 : Int) < n) = true := by simpa using hhi
    clear HJ
    go_enter Try.func36, Try.ntmps36
    go_wp2
    go_ret
    rw [HR.out]
    exact ⟨rfl, left_same H.out (Below.refl _ _)⟩
  obtain ⟨m, rfl⟩ : ∃ m : Nat, n = (m : Int) := ⟨n.toNat, by omega⟩
  have hlo2 : decide (m < c) = false := by simp; omega
  have hhi2 : decide (n0 < m) = false := by simp; omega
  have hm0 : m ≤ n0 := by omega
  have hcm : c ≤ m := by omega
  have HJ2 : Hid (joinR L c m M = if 2000 < m + k0 then (L, 7) else (L.take m ++ M, 0)) := by show _ = _; rw [HJ.out, if_neg (by omega), Int.toNat_natCast]
  clear HJ hlo hlo' hhi
  by_cases hf : 2000 < m + k0
  · have HR : Hid (joinR L c m M = (L, 7)) := by show _ = _; rw [HJ2.out, if_pos hf]
    have hf' : decide ((2000 : Int) - (m : Int) < (k0 : Int)) = true := by simp; omega
    clear HJ2
    go_enter Try.func36, Try.ntmps36
    go_wp2
    go_ret
    rw [HR.out]
    exact ⟨rfl, left_same H.out (Below.refl _ _)⟩
  · have HR : Hid (joinR L c m M = (L.take m ++ M, 0)) := by show _ = _; rw [HJ2.out, if_neg hf]
    have hf' : decide ((2000 : Int) - (m : Int) < (k0 : Int)) = false := by simp; omega
    have hf2 : m + k0 ≤ 2000 := by omega
    clear HJ2 hf
    obtain ⟨qs, hqs⟩ : ∃ qs, qs = ps.take m := ⟨_, rfl⟩
    have HQ : Hid (∀ w', Below w.heap.size w w' → OpsIn F w' (.slice A m cp) qs) := fun w' hb => by rw [hqs]; exact OpsIn.first (H.out.later hb).ops (by have := HPL.out; omega)
    have HQS := hide hqs
    have HQL : Hid (qs.length = m) := by show _ = _; rw [hqs, List.length_take, HPL.out]; omega
    clear hqs
    go_enter Try.func36, Try.ntmps36
    go_wp2_with (first
      | (refine wpList_empty (by rfl) (by rfl) ?_; intro w1 he; have HE := hide he; obtain ⟨c0, c1, f0, f1⟩ := (H.out.later he.2.1).cells; have hr1 : r < w1.heap.size := Nat.lt_of_lt_of_le hr he.2.1.size; clear he)
      | (refine wpList_val rfl (by rfl) (exec_to _ _ (by rfl) A n0 cp m (by rfl) (by rfl) (by omega) (by omega)) ?_)
      | (refine wpList_append_ops (by rfl) (B := w.heap.size) (qs := []) (rs := qs) (F := F) (G := F) _ _ (by rfl) (by rfl) HE.out.1 (by simp) (by rfl) (HQ.out _ HE.out.2.1) (by have := HQL.out; simp; omega) (by have := (HE.out.2.1).size; omega) ?_; intro ts2 A2 cp2 w2 e2 ho2 hg2 hc2; have HO2 := hide ho2; have HB2 : Hid (Below w.heap.size w w2) := own_grown HE.out.2.1 HE.out.1 hg2; obtain ⟨c0, c1, f0, f1⟩ := (H.out.later HB2.out).cells; have hr2 : r < w2.heap.size := Nat.lt_of_lt_of_le hr HB2.out.size; clear ho2 hg2)
      | (refine wpList_append_ops (by rfl) (B := w.heap.size) (qs := ts2) (rs := ms) (F := F) (G := F) _ _ (by rfl) (by rfl) HO2.out (fun p hp => by rw [e2.out, List.nil_append] at hp; exact (HQ.out _ HB2.out).2 p hp) (by rfl) (HM.out _ HB2.out) (by have h1 := HQL.out; have h2 := HK0.out; rw [e2.out]; simp; omega) (by have := (HB2.out).size; omega) ?_; intro ts3 A3 cp3 w3 e3 ho3 hg3 hc3; have HO3 := hide ho3; have HB3 : Hid (Below w.heap.size w w3) := own_grown HB2.out HO2.out hg3; obtain ⟨c0, c1, f0, f1⟩ := (H.out.later HB3.out).cells; have hr3 : r < w3.heap.size := Nat.lt_of_lt_of_le hr HB3.out.size; clear ho3 hg3))
    go_ret
    rw [HR.out]
    refine ⟨rfl, left_put H.out HB3.out HO3.out (fun p hp => ?_) ?_ ?_ ?_⟩
    · rw [e3.out, e2.out, List.nil_append] at hp
      rcases List.mem_append.1 hp with hp | hp
      · exact (HQ.out _ HB3.out).2 p hp
      · exact (HM.out _ HB3.out).2 p hp
    · rw [e3.out, e2.out, List.nil_append, List.map_append, HQS.out, List.map_take, H.out.says, HMS.out]
    · simp only [List.length_append, List.length_take]
      have := HN.out
      have := HML.out
      omega
    · simp only [List.length_append, List.length_take]
      have := HN.out
      omega

/-- What the document's log tells. -/
def RTells (F : Nat → Prop) (M : List OpD) (e : Ending) (w' : World) : Prop := ∃ A cp, e = .returned (.slice A M.length cp) ∧ OpsAt F w' (.slice A M.length cp) M
theorem rtells_nil {F : Nat → Prop} {w' : World} : RTells F [] (.returned (.slice none 0 0)) w' := ⟨none, 0, rfl, OpsAt.nil_ F w'⟩
theorem rtells_row {F : Nat → Prop} {w' : World} {A : Option Addr} {cp B : Nat} {qs : List (OpD × Value)} {M : List OpD} (ho : w'.ownsRow B 33 10 (.slice A qs.length cp) qs.length (opcells qs)) (hB : ∀ i, B ≤ i → F i)
    (hs : ∀ p ∈ qs, StepsAt F w' p.2 p.1.steps) (hM : qs.map (·.1) = M) : RTells F M (.returned (.slice A qs.length cp)) w' := by
  subst hM
  refine ⟨A, cp, by rw [List.length_map], qs, rfl, ?_⟩
  rw [List.length_map]
  exact own_ops ho hB hs
theorem exec_from2 {op : Oper} {a : Act} {w : World} (x y : Operand) (ho : op.op = .slice 39 x (some y) none none) (A : Option Addr) (n c lo : Nat) (v : Value) (hv : sliced A lo n c 10 = v) (hx : a.eval x = .slice A n c) (hy : a.eval y = .int .i64 (lo : Int)) (h1 : lo ≤ n) :
    (execOp a.eval op).run Try.prog w = .ok (.value v) w := by
  rw [← hv]
  have ht : Try.prog.underlying 39 = some (.slice (Try.prog.elem 39)) := by kernel_rfl
  obtain ⟨i0, hi0, hz0, hz1, hz2⟩ := info_parts (show (Try.prog.info? (Try.prog.elem 39)).map (fun i => (i.zero, i.size, i.bytes)) = some (some (.agg #[.int .i64 0, .int .i64 0, .int .i64 0, .string ⟨#[]⟩, .slice none 0 0, .int .i64 0, .int .i64 0, .int .i64 0, .bool false, .bool false]), 10, 96) from by kernel_rfl)
  have hr := run_slice_l (P := Try.prog) w 39 A n c ht .i64 (lo : Int) (by omega) (by omega)
  have hs : (sizeOf (Try.prog.elem 39)).run Try.prog w = .ok 10 w := by simp [sizeOf, typeInfo, hi0, hz1]
  rw [hs] at hr
  simp only [Result.andThen, Int.toNat_natCast] at hr
  unfold execOp
  simp only [ho, hx, hy, Option.map_some, Option.map_none, Sem.run_bind, Sem.run_pure]
  rw [run_sliceAt_slice _ _ _ _ _ _ ht, hr]
  rfl
set_option maxHeartbeats 2000000 in
set_option maxRecDepth 100000 in
theorem refsince_any {F : Nat → Prop} {r c : Nat} {L : List OpD} (n : Int) (w : World) (h : RAt F w r L c) :
    Calls Try.prog 45 #[.pointer (some ⟨r, 0, none⟩), .int .i64 n] w fun e w' => RTells F (L.drop (fromOf L.length n)) e w' ∧ Below w.heap.size w w' := by
  obtain ⟨v, ps, h⟩ := h
  obtain ⟨A, cp, rfl, hn1, hn2⟩ := h.shape
  have hlen := h.len
  have hcom := h.com
  have hpl : ps.length = L.length := by rw [← h.says, List.length_map]
  obtain ⟨n0, hn0⟩ : ∃ n0, L.length = n0 := ⟨_, rfl⟩
  rw [hn0] at h hn1 hlen hcom hpl
  obtain ⟨c0, c1, f0, f1⟩ := h.cells
  have hr := h.lt
  have H := hide h
  have HN := hide hn0
  have HPL := hide hpl
  unfold maxLen at hn2
  clear h hn0 hpl
  rw [HN.out]
  by_cases hneg : n < 0
  · have hneg' : decide (n < 0) = true := by simpa using hneg
    have HF : Hid (fromOf n0 n = 0) := by show _ = _; unfold fromOf; omega
    clear hneg
    by_cases h0 : n0 = 0
    · subst h0
      have HL0 : Hid (L = []) := List.eq_nil_of_length_eq_zero HN.out
      go_enter Try.func45, Try.ntmps45
      go_wp2
      go_ret
      rw [HF.out, HL0.out]
      exact ⟨rtells_nil, Below.refl _ _⟩
    · have hp0 : 0 < n0 := by omega
      have hd0 : decide (n0 ≤ 0) = false := by simp; omega
      obtain ⟨vs, hvs⟩ : ∃ vs, sliced A 0 n0 cp 10 = vs := ⟨_, rfl⟩
      have HQ : Hid (∀ w', Below w.heap.size w w' → OpsIn F w' vs ps) := fun w' hb => by
        have h1 := OpsIn.tail (lo := 0) (H.out.later hb).ops (by omega)
        rw [hvs] at h1
        simpa using h1
      have HVS := hide hvs
      clear h0 hvs
      go_enter Try.func45, Try.ntmps45
      go_wp2_with (first
        | (refine wpList_empty (by rfl) (by rfl) ?_; intro w1 he; have HE := hide he; obtain ⟨c0, c1, f0, f1⟩ := (H.out.later he.2.1).cells; have hr1 : r < w1.heap.size := Nat.lt_of_lt_of_le hr he.2.1.size; clear he)
        | (refine wpList_val rfl (by rfl) (exec_from2 _ _ (by rfl) A n0 cp 0 vs HVS.out (by rfl) (by rfl) (by omega)) ?_)
        | (refine wpList_append_ops (by rfl) (B := w.heap.size) (qs := []) (rs := ps) (F := F) (G := F) _ _ (by rfl) (by rfl) HE.out.1 (by simp) (by rfl) (HQ.out _ HE.out.2.1) (by have := HPL.out; simp; omega) (by have := (HE.out.2.1).size; omega) ?_; intro ts2 A2 cp2 w2 e2 ho2 hg2 hc2; have HO2 := hide ho2; have HB2 : Hid (Below w.heap.size w w2) := own_grown HE.out.2.1 HE.out.1 hg2; obtain ⟨c0, c1, f0, f1⟩ := (H.out.later HB2.out).cells; have hr2 : r < w2.heap.size := Nat.lt_of_lt_of_le hr HB2.out.size; clear ho2 hg2))
      go_ret
      refine ⟨?_, HB2.out⟩
      rw [HF.out, List.drop_zero]
      refine rtells_row HO2.out H.out.new (fun p hp => ?_) ?_
      · rw [e2.out, List.nil_append] at hp
        exact (HQ.out _ HB2.out).2 p hp
      · rw [e2.out, List.nil_append, H.out.says]
  · have hneg' : decide (n < 0) = false := by simpa using hneg
    obtain ⟨m, rfl⟩ : ∃ m : Nat, n = (m : Int) := ⟨n.toNat, by omega⟩
    clear hneg hneg'
    by_cases hm : n0 ≤ m
    · have HF : Hid (fromOf n0 (m : Int) = n0) := by show _ = _; unfold fromOf; omega
      have hm2 : decide (n0 ≤ m) = true := by simpa using hm
      clear hm
      go_enter Try.func45, Try.ntmps45
      go_wp2
      go_ret
      rw [HF.out, List.drop_eq_nil_of_le (by have := HN.out; omega)]
      exact ⟨rtells_nil, Below.refl _ _⟩
    · have HF : Hid (fromOf n0 (m : Int) = m) := by show _ = _; unfold fromOf; omega
      have hm2 : decide (n0 ≤ m) = false := by simpa using hm
      have hmn : m < n0 := by omega
      obtain ⟨vs, hvs⟩ : ∃ vs, sliced A m n0 cp 10 = vs := ⟨_, rfl⟩
      obtain ⟨qs, hqs⟩ : ∃ qs, qs = ps.drop m := ⟨_, rfl⟩
      have HQ : Hid (∀ w', Below w.heap.size w w' → OpsIn F w' vs qs) := fun w' hb => by
        have h1 := OpsIn.tail (lo := m) (H.out.later hb).ops (by have := HPL.out; omega)
        rw [hvs, ← hqs] at h1
        exact h1
      have HQS := hide hqs
      have HQL : Hid (qs.length = n0 - m) := by show _ = _; rw [hqs, List.length_drop, HPL.out]
      have HVS := hide hvs
      clear hm hvs hqs
      go_enter Try.func45, Try.ntmps45
      go_wp2_with (first
        | (refine wpList_empty (by rfl) (by rfl) ?_; intro w1 he; have HE := hide he; obtain ⟨c0, c1, f0, f1⟩ := (H.out.later he.2.1).cells; have hr1 : r < w1.heap.size := Nat.lt_of_lt_of_le hr he.2.1.size; clear he)
        | (refine wpList_val rfl (by rfl) (exec_from2 _ _ (by rfl) A n0 cp m vs HVS.out (by rfl) (by rfl) (by omega)) ?_)
        | (refine wpList_append_ops (by rfl) (B := w.heap.size) (qs := []) (rs := qs) (F := F) (G := F) _ _ (by rfl) (by rfl) HE.out.1 (by simp) (by rfl) (HQ.out _ HE.out.2.1) (by have := HQL.out; simp; omega) (by have := (HE.out.2.1).size; omega) ?_; intro ts2 A2 cp2 w2 e2 ho2 hg2 hc2; have HO2 := hide ho2; have HB2 : Hid (Below w.heap.size w w2) := own_grown HE.out.2.1 HE.out.1 hg2; obtain ⟨c0, c1, f0, f1⟩ := (H.out.later HB2.out).cells; have hr2 : r < w2.heap.size := Nat.lt_of_lt_of_le hr HB2.out.size; clear ho2 hg2))
      go_ret
      refine ⟨?_, HB2.out⟩
      rw [HF.out]
      refine rtells_row HO2.out H.out.new (fun p hp => ?_) ?_
      · rw [e2.out, List.nil_append] at hp
        exact (HQ.out _ HB2.out).2 p hp
      · rw [e2.out, List.nil_append, HQS.out, List.map_drop, H.out.says]
end Go.Proofs.Ytehcaigkohkbnaa
