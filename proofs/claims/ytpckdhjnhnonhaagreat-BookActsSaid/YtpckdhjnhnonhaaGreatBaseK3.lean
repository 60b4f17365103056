/- Texts merged: BkF, OrderR, SagE, SagF, SagG, SagI, Build, SagJ. -/
import Derived.Test.YtpckdhjnhnonhaaGreatBaseK1
import Derived.Test.YtpckdhjnhnonhaaGreatBaseK2
import Derived.Maps.AppendAt
import Derived.RegionTactic
import Derived.BigRegion
import Derived.Laws.Tables
/- A saga is put into a book's map, or struck from it; makeRoom of package book. -/
namespace Go.Proofs.YtpckdhjnhnonhaaGreat
open Go.RowKit Go.Maps
theorem put_congr {V V' : Ent → Value} (id : Int) (v : DataW Value) (L : List Ent) (h : ∀ y ∈ L, y.id ≠ id → V y = V' y) :
    (mapD (L.map fun y => (y.id, V y))).put (.int .i64 id) v = (mapD (L.map fun y => (y.id, V' y))).put (.int .i64 id) v := by
  unfold mapD
  show DataW.map _ = DataW.map _
  congr 2
  induction L with
  | nil => rfl
  | cons y r ih =>
    have ih := ih (fun z hz => h z (by simp [hz]))
    simp only [List.map_cons]
    by_cases e : y.id = id
    · rw [List.filter_cons_of_neg (by simp [Lit.sameKey, e]), List.filter_cons_of_neg (by simp [Lit.sameKey, e])]
      exact ih
    · rw [List.filter_cons_of_pos (by simp [Lit.sameKey]; exact e), List.filter_cons_of_pos (by simp [Lit.sameKey]; exact e), ih, h y (by simp) e]
theorem rise_one {L : List Ent} (hr : RiseE L) {x y : Ent} (hx : x ∈ L) (hy : y ∈ L) (e : x.id = y.id) : x = y := by
  have hp := List.pairwise_iff_getElem.1 hr
  obtain ⟨i, hi, rfl⟩ := List.mem_iff_getElem.1 hx
  obtain ⟨j, hj, rfl⟩ := List.mem_iff_getElem.1 hy
  rcases Nat.lt_trichotomy i j with hlt | heq | hgt
  · have := hp i j hi hj hlt
    omega
  · subst heq
    rfl
  · have := hp j i hj hi hgt
    omega
/-- The steps of one saga lie elsewhere. -/
def setLoc (f : Int → Loc) (id : Int) (p : Option Addr) (n c : Nat) (i : Int) : Loc := if i = id then ⟨p, n, c⟩ else f i
section
variable {F : Nat → Prop} {w : World} {g b k : Nat} {most : Int} {t : BkS}
theorem BookAt.put {w' : World} {f : Int → Loc} {x : Ent} {p : Option Addr} {n c : Nat} (h : BookAt F w g b k most t) (hm : ∀ y ∈ t.L, StepsAt F w (f y.id).v y.l)
    (ho : w'.ownsMap Tryz.prog 3 heldR b (k + 1) ((mapD (t.L.map (pairE f))).put (.int .i64 x.id) (.held (x.s.withV p n c).val))) (ht : w.mapTurned w' b)
    (hs : StepsAt F w (.slice p n c) x.l) (hx : EntOk x) (hi : x.id ≤ 4611686018427387904) : BookAt F w' g b (k + 1) most ⟨t.last, putE x t.L⟩ := by
  have T : Turned (fun i => i = b) w w' := Turned.of_grown ht.grown (fun g e => (Option.some.inj e).symm)
  have hv : (x.s.withV p n c).val = x.val (setLoc f x.id p n c) := by unfold Ent.val Ent.sd setLoc; simp
  have e1 := put_congr (V := Ent.val f) (V' := Ent.val (setLoc f x.id p n c)) x.id (.held (x.val (setLoc f x.id p n c))) t.L (fun y _ hne => by
    unfold Ent.val Ent.sd setLoc
    rw [if_neg hne])
  have e2 := put_mapE (V := Ent.val (setLoc f x.id p n c)) x t.L h.ok.1
  have hk : Kept F w w' := T.kept fun i hf e => h.apart.2.2 (e ▸ hf)
  refine ⟨(T.block g h.lt.1 h.apart.1).trans h.cell, ⟨setLoc f x.id p n c, ?_, fun y hy => ?_⟩, ⟨putE_rise x h.ok.1, fun y hy => ?_, h.ok.2.2⟩, h.apart⟩
  · rw [hv] at ho
    have e3 : (mapD (t.L.map (pairE f))).put (.int .i64 x.id) (.held (x.val (setLoc f x.id p n c))) = mapD ((putE x t.L).map (pairE (setLoc f x.id p n c))) := e1.trans e2
    rw [e3] at ho
    exact ho
  · by_cases e : y.id = x.id
    · rcases mem_putE hy with rfl | hy2
      · unfold setLoc
        rw [if_pos rfl]
        exact hs.kept hk
      · have h1 := entAt_putE x h.ok.1
        have hy3 : y = x := rise_one (putE_rise x h.ok.1) hy (putE_mem x t.L) e
        subst hy3
        unfold setLoc
        rw [if_pos rfl]
        exact hs.kept hk
    · rcases mem_putE hy with rfl | hy2
      · exact absurd rfl e
      · unfold setLoc
        rw [if_neg e]
        exact (hm y hy2).kept hk
  · rcases mem_putE hy with rfl | hy
    · exact ⟨hx, hi⟩
    · exact h.ok.2.1 y hy
theorem dropE_pair (f : Int → Loc) (L : List Ent) (id : Int) : (dropE L id).map (pairE f) = (L.map (pairE f)).filter fun p => !(p.1 == id) := by
  unfold dropE
  rw [List.filter_map]
  rfl
theorem BookAt.drop {w' : World} {f : Int → Loc} {id : Int} (h : BookAt F w g b k most t) (hm : ∀ y ∈ t.L, StepsAt F w (f y.id).v y.l)
    (ho : w'.ownsMap Tryz.prog 3 heldR b k ((mapD (t.L.map (pairE f))).del (.int .i64 id))) (ht : w.mapTurned w' b) : BookAt F w' g b k most ⟨t.last, dropE t.L id⟩ := by
  have T : Turned (fun i => i = b) w w' := Turned.of_grown ht.grown (fun g e => (Option.some.inj e).symm)
  have hk : Kept F w w' := T.kept fun i hf e => h.apart.2.2 (e ▸ hf)
  rw [del_mapD, ← dropE_pair] at ho
  exact ⟨(T.block g h.lt.1 h.apart.1).trans h.cell, ⟨f, ho, fun y hy => (hm y (dropE_sub y hy)).kept hk⟩, ⟨dropE_rise id h.ok.1, fun y hy => h.ok.2.1 y (dropE_sub y hy), h.ok.2.2⟩, h.apart⟩
end
section
variable {P : Program} {w : World} {ops : Array Oper} {rest : List Oper} {o : Oper} {a : Act} {Q : Exit → Act → World → Prop}
/-- 'm[k]', at the operation. -/
theorem wpList_lookup_held1 (hg : o.guard = none) (m x : Operand) (t : TypeId) (hop : o.op = Op.lookup t m x false)
    (k e : TypeId) (K : Maps.Keyed P k) (ht : P.underlying t = some (.map k e)) (z : Value) (hz : (zeroValue e).run P w = .ok z w) (b n : Nat) (L : List (Int × Value))
    (hm : a.eval m = .map (some b)) (hown : w.ownsMap P k heldR b n (mapD L)) (key : Int) (hx : a.eval x = .int .i64 key) (hkey : keyOf P k (Value.int .i64 key) = some (Lit.int .i64 key))
    (v : Value) (ok : Bool) (hres : foundIn L z key = (v, ok)) (hK : wpList P ops Q rest (a.put o.dst v) w) : wpList P ops Q (o :: rest) a w := by
  refine wpList_plain hg fun K' hK' => ?_
  have hr := look_held false K ht hz hown hkey
  rw [hres] at hr
  unfold Oper.wp
  simp [execOp, hop, hm, hx, hr, Result.andThen]
  exact hK' _ _ hK
end
/-- The first that ended. -/
theorem roomF_few {L : List Ent} (h : L.length < 32) : roomF L = L := by unfold roomF; rw [if_pos h]
theorem roomF_at {L : List Ent} {i : Nat} {x : Ent} (h : 32 ≤ L.length) (hx : L[i]? = some x) (ho : x.isOpen = false) (hb : ∀ j y, j < i → L[j]? = some y → y.isOpen = true) : roomF L = dropE L x.id := by
  unfold roomF
  rw [if_neg (by omega)]
  have : L.find? (fun x => !x.isOpen) = some x := by
    rw [List.find?_eq_some_iff_getElem]
    obtain ⟨hi, e⟩ := List.getElem?_eq_some_iff.1 hx
    exact ⟨by simp [ho], i, hi, e, fun j hj => by
      have := hb j L[j] hj (List.getElem?_eq_getElem _)
      simp [this]⟩
  rw [this]
theorem roomF_all {L : List Ent} (hb : ∀ j y, j < L.length → L[j]? = some y → y.isOpen = true) : roomF L = L := by
  unfold roomF
  split
  · rfl
  · have : L.find? (fun x => !x.isOpen) = none := by
      rw [List.find?_eq_none]
      intro x hx
      obtain ⟨j, hj, e⟩ := List.mem_iff_getElem.1 hx
      have := hb j x hj (by rw [List.getElem?_eq_getElem hj, e])
      simp [this]
    rw [this]
section
variable {F : Nat → Prop} {w : World} {g b k : Nat} {most : Int} {t : BkS}
/-- The book without the saga that is forgotten. -/
def Roomy (F : Nat → Prop) (g b k : Nat) (most : Int) (t : BkS) (w : World) (e : Ending) (w' : World) : Prop := e = .returned (.tuple #[]) ∧ BookAt F w' g b k most ⟨t.last, roomF t.L⟩ ∧ Turned (fun i => i = b) w w'
theorem entAt_get {L : List Ent} (hr : RiseE L) {i : Nat} {x : Ent} (hx : L[i]? = some x) : entAt L x.id = some x := by
  unfold entAt
  rw [List.find?_eq_some_iff_getElem]
  obtain ⟨hi, e⟩ := List.getElem?_eq_some_iff.1 hx
  refine ⟨by simp, i, hi, e, fun j hj => ?_⟩
  have := List.pairwise_iff_getElem.1 hr j i (by omega) hi hj
  rw [e] at this
  simp
  omega
set_option maxHeartbeats 4000000 in
set_option maxRecDepth 100000 in
theorem room_few (h : BookAt F w g b k most t) (hl : t.L.length < 32) : Calls Tryz.prog 54 #[.pointer (some ⟨g, 0, none⟩)] w (Roomy F g b k most t w) := by
  obtain ⟨f, hm, _⟩ := h.body
  have HM := hide hm
  have H := hide h
  have c2 := h.c2
  have hsz : Maps.size (mapD (t.L.map (pairE f))) = t.L.length := by rw [size_mapD, List.length_map]
  obtain ⟨n, hn⟩ : ∃ n, t.L.length = n := ⟨_, rfl⟩
  rw [hn] at hsz hl
  have HSZ := hide hsz
  have HR := hide (roomF_few (L := t.L) (by omega))
  clear h hm hn hsz
  go_enter Tryz.func54, Tryz.ntmps54
  go_wp2_with (at_len; refine wpList_len_own _ rfl _ 68 rfl 3 36 Tryz.underlying68 _ b k _ rfl HM.out ?_; rw [HSZ.out])
  refine bodyPost_ret (results_none rfl _ _ _) rfl ?_
  exact ⟨rfl, by rw [HR.out]; exact H.out, Turned.refl _ _⟩
set_option maxHeartbeats 4000000 in
set_option maxRecDepth 100000 in
theorem room_many (h : BookAt F w g b k most t) (hl : 32 ≤ t.L.length) (hl6 : t.L.length ≤ 1000000) : Calls Tryz.prog 54 #[.pointer (some ⟨g, 0, none⟩)] w (Roomy F g b k most t w) := by
  obtain ⟨f, hm, hs⟩ := h.body
  have HM := hide hm
  have HS := hide hs
  have H := hide h
  have c2 := h.c2
  have hsz : Maps.size (mapD (t.L.map (pairE f))) = t.L.length := by rw [size_mapD, List.length_map]
  have C := hide (ids_any h hl6)
  have HLE : Hid ((idsOf t.L).length = t.L.length) := idsOf_len t.L
  obtain ⟨n, hn⟩ : ∃ n, t.L.length = n := ⟨_, rfl⟩
  rw [hn] at hsz hl hl6 HLE
  have HN := hide hn
  have HSZ := hide hsz
  clear h hm hs hn hsz
  go_enter Tryz.func54, Tryz.ntmps54
  go_wp2_with (at_len; refine wpList_len_own _ rfl _ 68 rfl 3 36 Tryz.underlying68 _ b k _ rfl HM.out ?_; rw [HSZ.out])
  refine C.out.mono ?_
  rintro e w1 ⟨A, m, c, rfl, hown, hI, hmc, hb1⟩
  have hmn : m = n := by
    have h1 : (idsOf t.L).length = m := hI.1
    have h2 := HLE.out
    omega
  subst hmn
  have HI := hide hI
  have L1 : Hid (Later w w1) := hb1
  clear hown hI hmc hb1 C
  go_wp2
  go_loopw [13] (fun i wr => ∃ q : Nat, q ≤ m ∧ i = .int .i64 (q : Int) ∧ (∀ j y, j < q → t.L[j]? = some y → y.isOpen = true) ∧ Later w1 wr) (fun i _ => m - (Go.RowKit.intOf i).toNat)
  case atStart => exact ⟨0, by omega, rfl, fun j y hj _ => by omega, Later.refl _⟩
  case round =>
    obtain ⟨q, hq, rfl, hop, hlr⟩ := hrel
    have HOP := hide hop
    have LR := hide hlr
    have LWa : Later w w1 := L1.out
    have LW : Hid (Later w wr) := Later.trans LWa hlr
    clear hop hlr LWa
    by_cases hqm : q < m
    · obtain ⟨x, hx⟩ : ∃ x, t.L[q]? = some x := ⟨t.L[q]'(by rw [HN.out]; exact hqm), List.getElem?_eq_getElem _⟩
      obtain ⟨B, off, rfl, hB, hc⟩ := HI.out.at_ hqm
      have hid : (idsOf t.L).getD q 0 = x.id := by simp [idsOf, List.getD, hx]
      rw [hid] at hc
      have hc2 : wr.cell? ⟨B, off + q, none⟩ = some (.int .i64 x.id) := (Below.cell LR.out (p := ⟨B, off + q, none⟩) hB).trans hc
      have HBr := H.out.later LW.out
      have d2 := HBr.c2
      have hok := HBr.ok.2.1 x (List.mem_of_getElem? hx)
      have hid64 : I64 x.id := ⟨by have := hok.1.2.2.2; omega, by have := hok.2; omega⟩
      have HKEY := hide (int_key hid64)
      have HM2 : Hid (wr.ownsMap Tryz.prog 3 heldR b k (mapD (t.L.map (pairE f)))) := HM.out.kept (later_grown LW.out) (by simp)
      have HR : Hid (foundIn (t.L.map (pairE f)) SagaD.zero.val x.id = ((x.sd f).val, true)) := by
        show _ = _
        rw [found_ent, entAt_get HBr.ok.1 hx]
      have CU := hide (under_any (w := wr) (x.sd f))
      have hso : (decide ((x.sd f).st = 1) || decide ((x.sd f).st = 2)) = x.isOpen := rfl
      rw [hso] at CU
      have HX := hide hx
      obtain ⟨id, hidd⟩ : ∃ id, x.id = id := ⟨_, rfl⟩
      rw [hidd] at hc2 HKEY HR
      obtain ⟨sv, hsv⟩ : ∃ sv, x.sd f = sv := ⟨_, rfl⟩
      rw [hsv] at HR CU
      have HB2 := hide HBr
      have HID := hide hidd
      clear hx hc hid HBr hok hid64 hso hidd hsv hB
      cases ho : x.isOpen with
      | true =>
        rw [ho] at CU
        have HO := hide ho
        clear ho
        go_wp2_with (at_lookup; refine wpList_lookup_held1 rfl _ _ 68 rfl 3 36 Tryz.int_law Tryz.underlying68 SagaD.zero.val (by kernel_rfl) b k _ rfl HM2.out id rfl HKEY.out _ true HR.out ?_)
        refine CU.out.mono ?_
        rintro e w2 ⟨rfl, hl2⟩
        have L2a : Later w1 wr := LR.out
        have L2 : Hid (Later w1 w2) := Later.trans L2a hl2
        clear hl2 L2a
        go_wp2
        go_roundw
        case rel => exact ⟨q + 1, by omega, by go_num, fun j y hj hy => by
          rcases Nat.lt_or_ge j q with h | h
          · exact HOP.out j y h hy
          · obtain rfl : j = q := by omega
            have e := hy.symm.trans HX.out
            obtain rfl := Option.some.inj e
            exact HO.out, L2.out⟩
        case measure => simp [Go.RowKit.intOf]; omega
      | false =>
        rw [ho] at CU
        have HR2 := hide (roomF_at (by rw [HN.out]; exact hl) HX.out ho HOP.out)
        clear ho
        go_wp2_with (at_lookup; refine wpList_lookup_held1 rfl _ _ 68 rfl 3 36 Tryz.int_law Tryz.underlying68 SagaD.zero.val (by kernel_rfl) b k _ rfl HM2.out id rfl HKEY.out _ true HR.out ?_)
        refine CU.out.mono ?_
        rintro e w2 ⟨rfl, hl2⟩
        have L2a : Later w wr := LW.out
        have L2 : Hid (Later w w2) := Later.trans L2a hl2
        have HB3 := hide (HB2.out.later hl2)
        have d3 := HB3.out.c2
        have HM3 : Hid (w2.ownsMap Tryz.prog 3 heldR b k (mapD (t.L.map (pairE f)))) := HM2.out.kept (later_grown hl2) (by simp)
        have HS3 : Hid (∀ y ∈ t.L, StepsAt F w2 (f y.id).v y.l) := fun y hy => StepsAt.kept (HS.out y hy) (Kept.of_below L2.out F)
        clear hl2 L2a
        go_wp2_with (at_delete; refine wpList_delete_own _ rfl _ _ 68 3 rfl 36 Tryz.int_law Tryz.underlying68 heldR b k (mapD (t.L.map (pairE f))) rfl HM3.out _ _ rfl HKEY.out ?_; intro w3 ho3 ht3)
        have E3 := HB3.out.drop HS3.out ho3 ht3
        rw [← HID.out, ← HR2.out] at E3
        refine bodyPost_ret (results_none rfl _ _ _) rfl ?_
        exact ⟨rfl, E3, (Turned.of_below L2.out _).trans (Turned.of_grown ht3.grown (fun k e => (Option.some.inj e).symm))⟩
    · obtain rfl : q = m := by omega
      have HR := hide (roomF_all (L := t.L) (fun j y hj hy => HOP.out j y (by rw [HN.out] at hj; exact hj) hy))
      go_wp2
      go_end0
      exact ⟨rfl, by rw [HR.out]; exact H.out.later LW.out, Turned.of_below LW.out _⟩
theorem room_any (h : BookAt F w g b k most t) (hl6 : t.L.length ≤ 1000000) : Calls Tryz.prog 54 #[.pointer (some ⟨g, 0, none⟩)] w (Roomy F g b k most t w) := by
  rcases Nat.lt_or_ge t.L.length 32 with hl | hl
  · exact room_few h hl
  · exact room_many h hl hl6
end
end Go.Proofs.YtpckdhjnhnonhaaGreat
/- A region whose order is open, of calls that turn but one part of memory beside operations that read another: as text Order, over whatever relation of worlds. -/
namespace Go.Proofs.YtpckdhjnhnonhaaGreat
open Go.RowKit

/-- A relation of worlds that goes on. -/
def Pre (R : World → World → Prop) : Prop := (∀ w, R w w) ∧ ∀ {a b c : World}, R a b → R b c → R a c
theorem pre_grown (r : Option Nat) : Pre (fun a b => a.grownBy b r) := ⟨fun w => World.grownBy.refl w r, fun h k => h.trans k⟩

section
variable {P : Program} {ops : Array Oper} {Q : Exit → Act → World → Prop} {md : Region.Mode} {R : World → World → Prop}

/-- Whatever order is picked from here on, and behind each operation the world is a later one. -/
def wpAnyR (R : World → World → Prop) (P : Program) (md : Region.Mode) (ops : Array Oper) (Q : Exit → Act → World → Prop) : Nat → Array Bool → Act → World → Prop
  | 0, listed, a, w => Region.ready md ops listed = [] ∧ Q .normal a w
  | fuel + 1, listed, a, w =>
    (Region.ready md ops listed = [] → Q .normal a w) ∧
    ∀ i ∈ Region.ready md ops listed, wpOp P ops Q i (fun a' w' => R w w' ∧ wpAnyR R P md ops Q fuel (listed.setIfInBounds i true) a' w') a w

theorem wpAny_of_R : ∀ (fuel : Nat) (listed : Array Bool) (a : Act) (w : World), wpAnyR R P md ops Q fuel listed a w → wpAny P md ops Q fuel listed a w
  | 0, _, _, _, h => h
  | fuel + 1, _, _, _, h => ⟨h.1, fun i hi => wpOp_mono (fun a' w' h' => wpAny_of_R fuel _ a' w' h'.2) (h.2 i hi)⟩

/-- What yields its value in all later worlds does so in those that are later than a later one. -/
theorem yields_rel {o : Oper} {v : Value} {a : Act} {w w' : World} (h : YieldsIf P ops (R w) o v a) (hR : Pre R) (hl : R w w') : YieldsIf P ops (R w') o v a :=
  h.imp (fun ⟨hw, hv⟩ => ⟨hw, fun u hu => hv u (hR.2 hl hu)⟩) id

/-- Such an operation, if it may come up, may come up at once. -/
theorem wpAnyR_first (hR : Pre R) {i : Nat} {oi : Oper} {v : Value} (hi : ops[i]? = some oi) (hsel : ∀ (j : Nat) (o : Oper) cs b, ops[j]? = some o → o.op ≠ .select cs b)
    (hQ : ∀ c a w, Q (.panic c) (a.put oi.dst v) w → Q (.panic c) a w) :
    ∀ (fuel : Nat) (listed : Array Bool) (a : Act) (w : World),
      (∀ j oj, ops[j]? = some oj → j ≠ i → listed.getD j true = false → (∀ e ∈ oj.after, Region.binds md e = true → e.on ≠ i) → oi.apart ops oj = true) →
      i ∈ Region.ready md ops listed → YieldsIf P ops (R w) oi v a →
      wpAnyR R P md ops Q fuel (listed.setIfInBounds i true) (a.put oi.dst v) w → wpAnyR R P md ops Q (fuel + 1) listed a w := by
  intro fuel
  induction fuel with
  | zero =>
    intro listed a w _ hr hy H
    refine ⟨fun h => (by rw [h] at hr; cases hr), fun j hj => ?_⟩
    by_cases hji : j = i
    · subst hji
      exact hy.wpOp hi (hR.1 w) ⟨hR.1 w, H⟩
    · have := ready_mono hj hji
      rw [H.1] at this
      cases this
  | succ fuel ih =>
    intro listed a w hfree hr hy H
    refine ⟨fun h => (by rw [h] at hr; cases hr), fun j hj => ?_⟩
    by_cases hji : j = i
    · subst hji
      exact hy.wpOp hi (hR.1 w) ⟨hR.1 w, H⟩
    · have h1 := H.2 j (ready_mono hj hji)
      obtain ⟨hjun, oj, hoj, hall⟩ := mem_ready.1 hj
      have hnot : ∀ e ∈ oj.after, Region.binds md e = true → e.on ≠ i := fun e he hb heq => by
        have q1 := hall e he hb
        have q0 := (mem_ready.1 hr).1
        rw [heq] at q1
        rcases Nat.lt_or_ge i listed.size with h' | h'
        · simp [h'] at q0 q1
          rw [q0] at q1
          cases q1
        · simp [Array.getElem?_eq_none h'] at q1
      have h2 := wpOp_putIf hoj (hfree j oj hoj hji hjun hnot) (fun cs b => hsel i oi cs b hi) (fun cs b => hsel j oj cs b hoj) hQ hy h1
      have hfree' : ∀ k ok, ops[k]? = some ok → k ≠ i → (listed.setIfInBounds j true).getD k true = false →
          (∀ e ∈ ok.after, Region.binds md e = true → e.on ≠ i) → oi.apart ops ok = true := fun k ok hk hki hun hno => by
        refine hfree k ok hk hki ?_ hno
        by_cases hjk : j = k
        · subst hjk; exact hjun
        · rw [getD_set_ne true hjk] at hun; exact hun
      refine wpOp_mono (fun a' w' h3 => ⟨h3.2.1, ih (listed.setIfInBounds j true) a' w' hfree' (ready_mono hr (Ne.symm hji)) (yields_rel h3.1 hR h3.2.1) ?_⟩) h2
      rw [Array.setIfInBounds_comm _ _ hji]
      exact h3.2.2

/-- The moves: an operation that may come up at once; the one that must; the end; the beginning. -/
theorem wpAnyR_take (hR : Pre R) {i : Nat} {oi : Oper} {d : Option Tmp} {v : Value} {fuel : Nat} {listed : Array Bool} {a : Act} {w : World} (hi : ops[i]? = some oi) (hd : oi.dst = d)
    (hs : Region.noSelect ops = true) (hf : Region.free md ops listed i = true) (hr : (Region.ready md ops listed).contains i = true)
    (hQ : ∀ c a w, Q (.panic c) (a.put d v) w → Q (.panic c) a w) (hw : Region.wanted oi (yielded ops a.tmps) = true) (hy : ∀ w', R w w' → (execOp a.eval oi).run P w' = .ok (.value v) w')
    (h : wpAnyR R P md ops Q fuel (listed.setIfInBounds i true) (a.put d v) w) : wpAnyR R P md ops Q (fuel + 1) listed a w := by
  subst hd
  exact wpAnyR_first hR hi (Region.noSelect_spec hs) hQ fuel listed a w (Region.free_spec hi hf) (by simpa using hr) (.inl ⟨hw, hy⟩) h

theorem wpAnyR_only {i : Nat} {o : Oper} {fuel : Nat} {listed : Array Bool} {a : Act} {w : World} (ho : ops[i]? = some o) (hr : Region.ready md ops listed = [i]) (hw : Region.wanted o (yielded ops a.tmps) = true)
    (h : ∀ K' : Act → World → Prop, Hid (∀ a' w', R w w' → wpAnyR R P md ops Q fuel (listed.setIfInBounds i true) a' w' → K' a' w') → Oper.wp P o a w K' Q) : wpAnyR R P md ops Q (fuel + 1) listed a w := by
  refine ⟨fun h0 => absurd (hr ▸ h0) (by simp), fun j hj => ?_⟩
  rw [hr] at hj
  obtain rfl : j = i := by simpa using hj
  refine wpOp_step ho fun K' hK => ?_
  rw [if_pos hw]
  exact h K' fun a' w' hl hn => hK a' w' ⟨hl, hn⟩

theorem wpAnyR_done {listed : Array Bool} {a : Act} {w : World} (hr : Region.ready md ops listed = []) (h : Q .normal a w) : ∀ fuel, wpAnyR R P md ops Q fuel listed a w
  | 0 => ⟨hr, h⟩
  | _ + 1 => ⟨fun _ => h, by rw [hr]; simp⟩

theorem wp_region_R {id : Nat} {a : Act} {w : World} (hm : P.follows .mixedOrders = true)
    (h : wpAnyR R P .any ops Q ops.size (Array.replicate ops.size false) a w.drew) : (Code.region id ops true).wp P Q a w :=
  wp_region_any hm (wpAny_of_R _ _ _ _ h)
end

end Go.Proofs.YtpckdhjnhnonhaaGreat
/- May there be such a saga? What does it want? -/
namespace Go.Proofs.YtpckdhjnhnonhaaGreat
open Go.RowKit
theorem tries_pos {l : List StepD} {k : Int} (h : 0 < triesN l k) : 1 ≤ k ∧ k ≤ (l.length : Int) := by
  by_cases hk : k < 1 ∨ (l.length : Int) < k
  · rw [triesN_no hk] at h; omega
  · omega
theorem steps_n {F : Nat → Prop} {w : World} {s : SagaD} {l : List StepD} (h : StepsAt F w s.v l) : s.n = l.length := by
  obtain ⟨A, c, hv, _, _, _⟩ := FlatAt.shape h
  unfold SagaD.v at hv
  injection hv
section
variable {w : World}
set_option maxHeartbeats 8000000 in
theorem good_err {F : Nat → Prop} {s : SagaD} {l : List StepD} (h : StepsAt F w s.v l) (hw : ∀ x ∈ l, x.wf) (h1 : I64 s.step) (he : (checkF s.name l).2 ≠ 0) : Calls Tryz.prog 45 #[s.val] w (Gives (.bool false) w) := by
  obtain ⟨W1, hW1⟩ : ∃ W1, W1 = (w.alloc (.cells s.cells.toArray 36 (0, 0))) := ⟨_, rfl⟩
  obtain ⟨g, hg⟩ : ∃ g, g = w.heap.size := ⟨_, rfl⟩
  have X1 : Hid (SBox 36 g s W1) := by rw [hW1, hg]; exact heap_alloc_new _ _
  have L1 : Hid (Later w W1) := by rw [hW1]; exact (Below.refl _ _).alloc (Nat.le_refl _) _
  have HG0 : Hid (w.heap.size ≤ g) := Nat.le_of_eq hg.symm
  have CC : Hid (Calls Tryz.prog 75 #[.agg #[.string s.name, .slice s.p s.n s.c]] W1 fun e w' => e = .returned (.tuple #[.int .i64 (((checkF s.name l).1 : Nat) : Int), .int .i64 (((checkF s.name l).2 : Nat) : Int)]) ∧ Later W1 w') := check_any (StepsAt.kept h (Kept.of_below L1.out _))
  have C : Hid (∀ W, Later W1 W → Calls Tryz.prog 76 #[.agg #[.string s.name, .slice s.p s.n s.c], .int .i64 s.step] W fun e w' => e = .returned (.int .i64 (triesN l s.step)) ∧ Later W w') := fun W hW => Tries_any (StepsAt.kept h (Kept.of_below (L1.out.trans hW) _)) h1 hw
  have HS : Hid (∀ W, Later W1 W → StepsAt F W s.v l) := fun W hW => StepsAt.kept h (Kept.of_below (L1.out.trans hW) _)
  obtain ⟨k1, hk1⟩ : ∃ k1, (checkF s.name l).1 = k1 := ⟨_, rfl⟩
  obtain ⟨k2, hk2⟩ : ∃ k2, (checkF s.name l).2 = k2 := ⟨_, rfl⟩
  rw [hk1, hk2] at CC
  have HN := hide (steps_n h)
  have HW1 := hide hW1.symm
  have HG := hide hg.symm
  clear hW1 hg h hk1 h1 hw
  have e0 := X1.out.c0
  have e1 := X1.out.c1
  rw [← HW1.out, ← HG.out] at e0 e1
  have hb : ((k2 : Int) == 0) = false := by rw [beq_eq_false_iff_ne]; omega
  clear he hk2 C HS HN
  go_enter Tryz.func45, Tryz.ntmps45
  go_wp2_with (fail)
  simp only [HW1.out, HG.out]
  refine CC.out.mono ?_
  rintro e w2 ⟨rfl, hl⟩
  have L12 := hide hl
  have L2 := hide (L1.out.trans hl)
  have X2 := hide (X1.out.below hl)
  clear hl CC e0 e1
  go_wp2
  go_ret
  exact ⟨rfl, L2.out⟩
set_option maxHeartbeats 8000000 in
theorem good_run {F : Nat → Prop} {s : SagaD} {l : List StepD} (h : StepsAt F w s.v l) (hw : ∀ x ∈ l, x.wf) (h1 : I64 s.step) (he : (checkF s.name l).2 = 0) (hst : s.st = 1) : Calls Tryz.prog 45 #[s.val] w (Gives (.bool (decide (1 ≤ s.tr) && (decide (s.tr ≤ triesN l s.step) && cameF s))) w) := by
  obtain ⟨W1, hW1⟩ : ∃ W1, W1 = (w.alloc (.cells s.cells.toArray 36 (0, 0))) := ⟨_, rfl⟩
  obtain ⟨g, hg⟩ : ∃ g, g = w.heap.size := ⟨_, rfl⟩
  have X1 : Hid (SBox 36 g s W1) := by rw [hW1, hg]; exact heap_alloc_new _ _
  have L1 : Hid (Later w W1) := by rw [hW1]; exact (Below.refl _ _).alloc (Nat.le_refl _) _
  have HG0 : Hid (w.heap.size ≤ g) := Nat.le_of_eq hg.symm
  have CC : Hid (Calls Tryz.prog 75 #[.agg #[.string s.name, .slice s.p s.n s.c]] W1 fun e w' => e = .returned (.tuple #[.int .i64 (((checkF s.name l).1 : Nat) : Int), .int .i64 (((checkF s.name l).2 : Nat) : Int)]) ∧ Later W1 w') := check_any (StepsAt.kept h (Kept.of_below L1.out _))
  have C : Hid (∀ W, Later W1 W → Calls Tryz.prog 76 #[.agg #[.string s.name, .slice s.p s.n s.c], .int .i64 s.step] W fun e w' => e = .returned (.int .i64 (triesN l s.step)) ∧ Later W w') := fun W hW => Tries_any (StepsAt.kept h (Kept.of_below (L1.out.trans hW) _)) h1 hw
  have HS : Hid (∀ W, Later W1 W → StepsAt F W s.v l) := fun W hW => StepsAt.kept h (Kept.of_below (L1.out.trans hW) _)
  obtain ⟨k1, hk1⟩ : ∃ k1, (checkF s.name l).1 = k1 := ⟨_, rfl⟩
  obtain ⟨k2, hk2⟩ : ∃ k2, (checkF s.name l).2 = k2 := ⟨_, rfl⟩
  rw [hk1, hk2] at CC
  have HN := hide (steps_n h)
  have HW1 := hide hW1.symm
  have HG := hide hg.symm
  clear hW1 hg h hk1 h1 hw
  have e0 := X1.out.c0
  have e1 := X1.out.c1
  rw [← HW1.out, ← HG.out] at e0 e1
  obtain ⟨T, hT⟩ : ∃ T, triesN l s.step = T := ⟨_, rfl⟩
  rw [hT] at C
  obtain rfl : k2 = 0 := by rw [← hk2]; exact he
  obtain ⟨R, hR⟩ : ∃ R, (decide (1 ≤ s.tr) && (decide (s.tr ≤ triesN l s.step) && cameF s)) = R := ⟨_, rfl⟩
  rw [hR]
  have HR : Hid (R = (decide (1 ≤ s.tr) && (decide (s.tr ≤ T) && cameF s))) := by show _ = _; rw [← hR, hT]
  have h8 := (check_good he).1
  have HT : Hid (1 ≤ s.tr → s.tr ≤ T → ∀ W, Calls Tryz.prog 77 #[s.val] W (Gives (.bool (cameF s)) W)) := fun g1 g2 W => by
    have := tries_pos (l := l) (k := s.step) (by omega)
    exact came_any this.1 (by omega)
  clear hR hT h8
  clear he hk2
  go_enter Tryz.func45, Tryz.ntmps45
  go_wp2_with (fail)
  simp only [HW1.out, HG.out]
  refine CC.out.mono ?_
  rintro e w2 ⟨rfl, hl⟩
  have L12 := hide hl
  have L2 := hide (L1.out.trans hl)
  have X2 := hide (X1.out.below hl)
  clear hl CC e0 e1
  have d0 := X2.out.c0
  have d1 := X2.out.c1
  have d3 := X2.out.c3
  go_wp2_with (fail)
  refine (C.out _ L12.out).mono ?_
  rintro e w3 ⟨rfl, hl⟩
  have L13 := hide (L12.out.trans hl)
  have L3 := hide (L2.out.trans hl)
  have X3 := hide (X2.out.below hl)
  clear hl C d0 d1 d3
  have c2 := X3.out.c2
  rw [hst] at c2
  clear hst
  have c4 := X3.out.c4
  by_cases g1 : 1 ≤ s.tr
  · by_cases g2 : s.tr ≤ T
    · obtain rfl : R = cameF s := by rw [HR.out]; simp [g1, g2]
      have CM := hide (HT.out g1 g2)
      go_wp2_with (refine wpList_val rfl (by rfl) (exec_load_saga _ (by rfl) (by rfl) X3.out) ?_)
      refine (CM.out _).mono ?_
      rintro e w4 ⟨rfl, hl⟩
      have L4 := hide (L3.out.trans hl)
      clear hl
      go_wp2
      go_ret
      exact ⟨rfl, L4.out⟩
    · obtain rfl : R = false := by rw [HR.out]; simp [g2]
      go_wp2
      go_ret
      exact ⟨rfl, L3.out⟩
  · obtain rfl : R = false := by rw [HR.out]; simp [g1]
    go_wp2
    go_ret
    exact ⟨rfl, L3.out⟩
set_option maxHeartbeats 8000000 in
theorem good_stuck {F : Nat → Prop} {s : SagaD} {l : List StepD} (h : StepsAt F w s.v l) (hw : ∀ x ∈ l, x.wf) (h1 : I64 s.step) (he : (checkF s.name l).2 = 0) (hst : s.st = 5) : Calls Tryz.prog 45 #[s.val] w (Gives (.bool (decide (s.tr = 0) && (decide (0 < triesN l s.step) && cameF s))) w) := by
  obtain ⟨W1, hW1⟩ : ∃ W1, W1 = (w.alloc (.cells s.cells.toArray 36 (0, 0))) := ⟨_, rfl⟩
  obtain ⟨g, hg⟩ : ∃ g, g = w.heap.size := ⟨_, rfl⟩
  have X1 : Hid (SBox 36 g s W1) := by rw [hW1, hg]; exact heap_alloc_new _ _
  have L1 : Hid (Later w W1) := by rw [hW1]; exact (Below.refl _ _).alloc (Nat.le_refl _) _
  have HG0 : Hid (w.heap.size ≤ g) := Nat.le_of_eq hg.symm
  have CC : Hid (Calls Tryz.prog 75 #[.agg #[.string s.name, .slice s.p s.n s.c]] W1 fun e w' => e = .returned (.tuple #[.int .i64 (((checkF s.name l).1 : Nat) : Int), .int .i64 (((checkF s.name l).2 : Nat) : Int)]) ∧ Later W1 w') := check_any (StepsAt.kept h (Kept.of_below L1.out _))
  have C : Hid (∀ W, Later W1 W → Calls Tryz.prog 76 #[.agg #[.string s.name, .slice s.p s.n s.c], .int .i64 s.step] W fun e w' => e = .returned (.int .i64 (triesN l s.step)) ∧ Later W w') := fun W hW => Tries_any (StepsAt.kept h (Kept.of_below (L1.out.trans hW) _)) h1 hw
  have HS : Hid (∀ W, Later W1 W → StepsAt F W s.v l) := fun W hW => StepsAt.kept h (Kept.of_below (L1.out.trans hW) _)
  obtain ⟨k1, hk1⟩ : ∃ k1, (checkF s.name l).1 = k1 := ⟨_, rfl⟩
  obtain ⟨k2, hk2⟩ : ∃ k2, (checkF s.name l).2 = k2 := ⟨_, rfl⟩
  rw [hk1, hk2] at CC
  have HN := hide (steps_n h)
  have HW1 := hide hW1.symm
  have HG := hide hg.symm
  clear hW1 hg h hk1 h1 hw
  have e0 := X1.out.c0
  have e1 := X1.out.c1
  rw [← HW1.out, ← HG.out] at e0 e1
  obtain ⟨T, hT⟩ : ∃ T, triesN l s.step = T := ⟨_, rfl⟩
  rw [hT] at C
  obtain rfl : k2 = 0 := by rw [← hk2]; exact he
  obtain ⟨R, hR⟩ : ∃ R, (decide (s.tr = 0) && (decide (0 < triesN l s.step) && cameF s)) = R := ⟨_, rfl⟩
  rw [hR]
  have HR : Hid (R = (decide (s.tr = 0) && (decide (0 < T) && cameF s))) := by show _ = _; rw [← hR, hT]
  have h8 := (check_good he).1
  have HT : Hid (0 < T → ∀ W, Calls Tryz.prog 77 #[s.val] W (Gives (.bool (cameF s)) W)) := fun g2 W => by
    have := tries_pos (l := l) (k := s.step) (by omega)
    exact came_any this.1 (by omega)
  clear hR hT h8
  clear he hk2
  go_enter Tryz.func45, Tryz.ntmps45
  go_wp2_with (fail)
  simp only [HW1.out, HG.out]
  refine CC.out.mono ?_
  rintro e w2 ⟨rfl, hl⟩
  have L12 := hide hl
  have L2 := hide (L1.out.trans hl)
  have X2 := hide (X1.out.below hl)
  clear hl CC e0 e1
  have d0 := X2.out.c0
  have d1 := X2.out.c1
  have d3 := X2.out.c3
  go_wp2_with (fail)
  refine (C.out _ L12.out).mono ?_
  rintro e w3 ⟨rfl, hl⟩
  have L13 := hide (L12.out.trans hl)
  have L3 := hide (L2.out.trans hl)
  have X3 := hide (X2.out.below hl)
  clear hl C d0 d1 d3
  have c2 := X3.out.c2
  rw [hst] at c2
  clear hst
  have c4 := X3.out.c4
  by_cases g1 : s.tr = 0
  · rw [g1] at c4
    by_cases g2 : 0 < T
    · obtain rfl : R = cameF s := by rw [HR.out]; simp [g1, g2]
      have CM := hide (HT.out g2)
      clear g1
      go_wp2_with (refine wpList_val rfl (by rfl) (exec_load_saga _ (by rfl) (by rfl) X3.out) ?_)
      refine (CM.out _).mono ?_
      rintro e w4 ⟨rfl, hl⟩
      have L4 := hide (L3.out.trans hl)
      clear hl
      go_wp2
      go_ret
      exact ⟨rfl, L4.out⟩
    · obtain rfl : R = false := by rw [HR.out]; simp [g2]
      clear g1
      go_wp2
      go_ret
      exact ⟨rfl, L3.out⟩
  · obtain rfl : R = false := by rw [HR.out]; simp [g1]
    have hb : (s.tr == 0) = false := by rw [beq_eq_false_iff_ne]; exact g1
    clear g1
    go_wp2
    go_ret
    exact ⟨rfl, L3.out⟩
set_option maxHeartbeats 8000000 in
theorem good_undo {F : Nat → Prop} {s : SagaD} {l : List StepD} (h : StepsAt F w s.v l) (hw : ∀ x ∈ l, x.wf) (h1 : I64 s.step) (he : (checkF s.name l).2 = 0) (hst : s.st = 2) : Calls Tryz.prog 45 #[s.val] w (Gives (.bool (decide (1 ≤ s.tr) && (decide (s.tr ≤ triesN l s.step) && (decide (s.hit = upH s.step) && undoAt l s.step)))) w) := by
  obtain ⟨W1, hW1⟩ : ∃ W1, W1 = (w.alloc (.cells s.cells.toArray 36 (0, 0))) := ⟨_, rfl⟩
  obtain ⟨g, hg⟩ : ∃ g, g = w.heap.size := ⟨_, rfl⟩
  have X1 : Hid (SBox 36 g s W1) := by rw [hW1, hg]; exact heap_alloc_new _ _
  have L1 : Hid (Later w W1) := by rw [hW1]; exact (Below.refl _ _).alloc (Nat.le_refl _) _
  have HG0 : Hid (w.heap.size ≤ g) := Nat.le_of_eq hg.symm
  have CC : Hid (Calls Tryz.prog 75 #[.agg #[.string s.name, .slice s.p s.n s.c]] W1 fun e w' => e = .returned (.tuple #[.int .i64 (((checkF s.name l).1 : Nat) : Int), .int .i64 (((checkF s.name l).2 : Nat) : Int)]) ∧ Later W1 w') := check_any (StepsAt.kept h (Kept.of_below L1.out _))
  have C : Hid (∀ W, Later W1 W → Calls Tryz.prog 76 #[.agg #[.string s.name, .slice s.p s.n s.c], .int .i64 s.step] W fun e w' => e = .returned (.int .i64 (triesN l s.step)) ∧ Later W w') := fun W hW => Tries_any (StepsAt.kept h (Kept.of_below (L1.out.trans hW) _)) h1 hw
  have HS : Hid (∀ W, Later W1 W → StepsAt F W s.v l) := fun W hW => StepsAt.kept h (Kept.of_below (L1.out.trans hW) _)
  obtain ⟨k1, hk1⟩ : ∃ k1, (checkF s.name l).1 = k1 := ⟨_, rfl⟩
  obtain ⟨k2, hk2⟩ : ∃ k2, (checkF s.name l).2 = k2 := ⟨_, rfl⟩
  rw [hk1, hk2] at CC
  have HN := hide (steps_n h)
  have HW1 := hide hW1.symm
  have HG := hide hg.symm
  clear hW1 hg h hk1 h1 hw
  have e0 := X1.out.c0
  have e1 := X1.out.c1
  rw [← HW1.out, ← HG.out] at e0 e1
  obtain ⟨T, hT⟩ : ∃ T, triesN l s.step = T := ⟨_, rfl⟩
  rw [hT] at C
  obtain rfl : k2 = 0 := by rw [← hk2]; exact he
  have CU : Hid (∀ (W : World) (k : Int), k ≤ 8 → Calls Tryz.prog 78 #[.int .i64 k] W (Gives (upH k).val W)) := fun W k hk => upTo_any k hk
  obtain ⟨R, hR⟩ : ∃ R, (decide (1 ≤ s.tr) && (decide (s.tr ≤ triesN l s.step) && (decide (s.hit = upH s.step) && undoAt l s.step))) = R := ⟨_, rfl⟩
  rw [hR]
  have HR : Hid (R = (decide (1 ≤ s.tr) && (decide (s.tr ≤ T) && (decide (s.hit = upH s.step) && undoAt l s.step)))) := by show _ = _; rw [← hR, hT]
  have h8 := (check_good he).1
  have HT : Hid (1 ≤ s.tr → s.tr ≤ T → 1 ≤ s.step ∧ s.step ≤ (l.length : Int) ∧ s.step ≤ 8) := fun g1 g2 => by
    have := tries_pos (l := l) (k := s.step) (by omega)
    exact ⟨this.1, this.2, by omega⟩
  clear hR hT h8
  clear he hk2
  go_enter Tryz.func45, Tryz.ntmps45
  go_wp2_with (fail)
  simp only [HW1.out, HG.out]
  refine CC.out.mono ?_
  rintro e w2 ⟨rfl, hl⟩
  have L12 := hide hl
  have L2 := hide (L1.out.trans hl)
  have X2 := hide (X1.out.below hl)
  clear hl CC e0 e1
  have d0 := X2.out.c0
  have d1 := X2.out.c1
  have d3 := X2.out.c3
  go_wp2_with (fail)
  refine (C.out _ L12.out).mono ?_
  rintro e w3 ⟨rfl, hl⟩
  have L13 := hide (L12.out.trans hl)
  have L3 := hide (L2.out.trans hl)
  have X3 := hide (X2.out.below hl)
  clear hl C d0 d1 d3
  have c2 := X3.out.c2
  rw [hst] at c2
  clear hst
  by_cases g1 : 1 ≤ s.tr
  · by_cases g2 : s.tr ≤ T
    · have gs := HT.out g1 g2
      obtain ⟨gs1, gs2, gs3⟩ := gs
      by_cases g3 : s.hit = upH s.step
      · obtain rfl : R = undoAt l s.step := by rw [HR.out, decide_eq_true g1, decide_eq_true g2, decide_eq_true g3]; rfl
        have HE := hide (decide_eq_true g3)
        obtain ⟨q, hq⟩ : ∃ q : Nat, s.step = (q : Int) + 1 := ⟨(s.step - 1).toNat, by omega⟩
        have HK := hide hq
        have hql : q < l.length := by omega
        obtain ⟨x, b, off, c', hx, hvv, _, _, hb, hr⟩ := StepsAt.at_ (HS.out w3 L13.out) (i := q) hql
        have HU : Hid (undoAt l s.step = x.undo) := by show _ = _; unfold undoAt; rw [hq, show ((q : Int) + 1 - 1).toNat = q from by omega, hx]; rfl
        have hwr : IntKind.i64.wrap (q : Int) = (q : Int) := wrap_fits (by omega)
        have hv1 : s.p = some ⟨b, off, none⟩ := by
          unfold SagaD.v at hvv
          injection hvv
        have HV := hide hv1
        obtain ⟨r0, r1, r2, r3, r4, r5⟩ := range_step hr
        have hbl := hb
        have HR4 : Hid (∀ W, Later w3 W → W.cell? ⟨b, off + q * 6 + 4, none⟩ = some (.bool x.undo)) := fun W hW => (Below.cell hW (p := ⟨b, off + q * 6 + 4, none⟩) hbl).trans r4
        have hqn : q < s.n := by rw [HN.out]; exact hql
        clear hx hvv hr r0 r1 r2 r3 r4 r5 hq g3 gs1 gs2 hb hbl hv1
        go_wp2_with (fail)
        have XD := hide (show SBox 36 g s w3.drew from X3.out)
        have LD := hide (L3.out.trans (Later.drew w3))
        have LD1 := hide (L13.out.trans (Later.drew w3))
        refine wp_region_L (by kernel_rfl) ?_
        refine wpAnyL_take (i := 0) (d := some 38) (v := ?vad0) rfl rfl (by kernel_rfl) (by kernel_rfl) (by kernel_rfl) (fun _ _ _ h => h) (by rfl) ?yad0 ?_
        case yad0 => (intro w' hw'; go_simp; try (with_reducible rfl))
        simp only [Act.put]; try simp only [List.setIfInBounds_toArray]; try simp only [List.set_cons_zero, List.set_cons_succ]
        refine wpAnyL_take (i := 1) (d := some 39) (v := ?vad1) rfl rfl (by kernel_rfl) (by kernel_rfl) (by kernel_rfl) (fun _ _ _ h => h) (by rfl) ?yad1 ?_
        case yad1 => (intro w' hw'; have c4 := (XD.out.below hw').c4; go_simp; try (with_reducible rfl))
        simp only [Act.put]; try simp only [List.setIfInBounds_toArray]; try simp only [List.set_cons_zero, List.set_cons_succ]
        refine wpAnyL_take (i := 2) (d := some 40) (v := .bool true) rfl rfl (by kernel_rfl) (by kernel_rfl) (by kernel_rfl) (fun _ _ _ h => h) (by rfl) ?yad2 ?_
        case yad2 => (intro w' hw'; go_simp <;> omega)
        simp only [Act.put]; try simp only [List.setIfInBounds_toArray]; try simp only [List.set_cons_zero, List.set_cons_succ]
        refine wpAnyL_take (i := 3) (d := some 41) (v := ?vad3) rfl rfl (by kernel_rfl) (by kernel_rfl) (by kernel_rfl) (fun _ _ _ h => h) (by rfl) ?yad3 ?_
        case yad3 => (intro w' hw'; go_simp; try (with_reducible rfl))
        simp only [Act.put]; try simp only [List.setIfInBounds_toArray]; try simp only [List.set_cons_zero, List.set_cons_succ]
        refine wpAnyL_take (i := 4) (d := some 42) (v := ?vad4) rfl rfl (by kernel_rfl) (by kernel_rfl) (by kernel_rfl) (fun _ _ _ h => h) (by rfl) ?yad4 ?_
        case yad4 => (intro w' hw'; go_simp; try (with_reducible rfl))
        simp only [Act.put]; try simp only [List.setIfInBounds_toArray]; try simp only [List.set_cons_zero, List.set_cons_succ]
        refine wpAnyL_take (i := 5) (d := some 43) (v := ?vad5) rfl rfl (by kernel_rfl) (by kernel_rfl) (by kernel_rfl) (fun _ _ _ h => h) (by rfl) ?yad5 ?_
        case yad5 => (intro w' hw'; have c4 := (XD.out.below hw').c4; go_simp; try (with_reducible rfl))
        simp only [Act.put]; try simp only [List.setIfInBounds_toArray]; try simp only [List.set_cons_zero, List.set_cons_succ]
        refine wpAnyL_take (i := 6) (d := some 44) (v := ?vad6) rfl rfl (by kernel_rfl) (by kernel_rfl) (by kernel_rfl) (fun _ _ _ h => h) (by rfl) ?yad6 ?_
        case yad6 => (intro w' hw'; go_simp; try (with_reducible rfl))
        simp only [Act.put]; try simp only [List.setIfInBounds_toArray]; try simp only [List.set_cons_zero, List.set_cons_succ]
        refine wpAnyL_take (i := 7) (d := some 45) (v := .bool true) rfl rfl (by kernel_rfl) (by kernel_rfl) (by kernel_rfl) (fun _ _ _ h => h) (by rfl) ?yad7 ?_
        case yad7 => (intro w' hw'; go_simp <;> omega)
        simp only [Act.put]; try simp only [List.setIfInBounds_toArray]; try simp only [List.set_cons_zero, List.set_cons_succ]
        refine wpAnyL_take (i := 8) (d := some 46) (v := ?vad8) rfl rfl (by kernel_rfl) (by kernel_rfl) (by kernel_rfl) (fun _ _ _ h => h) (by rfl) ?yad8 ?_
        case yad8 => (intro w' hw'; go_simp; try (with_reducible rfl))
        simp only [Act.put]; try simp only [List.setIfInBounds_toArray]; try simp only [List.set_cons_zero, List.set_cons_succ]
        refine wpAnyL_take (i := 9) (d := some 47) (v := ?vad9) rfl rfl (by kernel_rfl) (by kernel_rfl) (by kernel_rfl) (fun _ _ _ h => h) (by rfl) ?yad9 ?_
        case yad9 => (intro w' hw'; go_simp; try (with_reducible rfl))
        simp only [Act.put]; try simp only [List.setIfInBounds_toArray]; try simp only [List.set_cons_zero, List.set_cons_succ]
        refine wpAnyL_take (i := 10) (d := some 48) (v := ?vad10) rfl rfl (by kernel_rfl) (by kernel_rfl) (by kernel_rfl) (fun _ _ _ h => h) (by rfl) ?yad10 ?_
        case yad10 => (intro w' hw'; go_simp; try (with_reducible rfl))
        simp only [Act.put]; try simp only [List.setIfInBounds_toArray]; try simp only [List.set_cons_zero, List.set_cons_succ]
        refine wpAnyL_take (i := 11) (d := some 49) (v := s.hit.val) rfl rfl (by kernel_rfl) (by kernel_rfl) (by kernel_rfl) (fun _ _ _ h => h) (by rfl) ?yad11 ?_
        case yad11 => (intro w' hw'; exact exec_load_hits _ (by rfl) (by rfl) (XD.out.below hw'))
        simp only [Act.put]; try simp only [List.setIfInBounds_toArray]; try simp only [List.set_cons_zero, List.set_cons_succ]
        refine wpAnyL_take (i := 12) (d := some 50) (v := ?vad12) rfl rfl (by kernel_rfl) (by kernel_rfl) (by kernel_rfl) (fun _ _ _ h => h) (by rfl) ?yad12 ?_
        case yad12 => (intro w' hw'; go_simp; try (with_reducible rfl))
        simp only [Act.put]; try simp only [List.setIfInBounds_toArray]; try simp only [List.set_cons_zero, List.set_cons_succ]
        refine wpAnyL_take (i := 13) (d := some 51) (v := ?vad13) rfl rfl (by kernel_rfl) (by kernel_rfl) (by kernel_rfl) (fun _ _ _ h => h) (by rfl) ?yad13 ?_
        case yad13 => (intro w' hw'; have c3 := (XD.out.below hw').c3; go_simp; try (with_reducible rfl))
        simp only [Act.put]; try simp only [List.setIfInBounds_toArray]; try simp only [List.set_cons_zero, List.set_cons_succ]
        refine wpAnyL_only (i := 14) rfl (by kernel_rfl) (by rfl) fun K hK => ?_
        go_simp
        refine (CU.out _ _ (by omega)).mono ?_
        rintro e w_14 ⟨rfl, hl_⟩
        have L14 := hide (LD.out.trans hl_)
        have L114 := hide (LD1.out.trans hl_)
        have L314 := hide ((Later.drew w3).trans hl_)
        have X14 := hide (XD.out.below hl_)
        refine hK.out _ _ hl_ ?_
        clear hl_
        clear hK K
        try (simp only [Act.put]; try simp only [List.setIfInBounds_toArray]; try simp only [List.set_cons_zero, List.set_cons_succ])
        refine wpAnyL_take (i := 15) (d := some 53) (v := .bool true) rfl rfl (by kernel_rfl) (by kernel_rfl) (by kernel_rfl) (fun _ _ _ h => h) (by rfl) ?yad15 ?_
        case yad15 => (intro w' hw'; exact (exec_eql_hits s.hit (upH s.step) _ _ _ (by rfl) (by rfl) (by rfl)).trans (by rw [HE.out]))
        simp only [Act.put]; try simp only [List.setIfInBounds_toArray]; try simp only [List.set_cons_zero, List.set_cons_succ]
        refine wpAnyL_take (i := 16) (d := some 54) (v := ?vad16) rfl rfl (by kernel_rfl) (by kernel_rfl) (by kernel_rfl) (fun _ _ _ h => h) (by rfl) ?yad16 ?_
        case yad16 => (intro w' hw'; go_simp; try (with_reducible rfl))
        simp only [Act.put]; try simp only [List.setIfInBounds_toArray]; try simp only [List.set_cons_zero, List.set_cons_succ]
        refine wpAnyL_take (i := 17) (d := some 55) (v := ?vad17) rfl rfl (by kernel_rfl) (by kernel_rfl) (by kernel_rfl) (fun _ _ _ h => h) (by rfl) ?yad17 ?_
        case yad17 => (intro w' hw'; go_simp; try (with_reducible rfl))
        simp only [Act.put]; try simp only [List.setIfInBounds_toArray]; try simp only [List.set_cons_zero, List.set_cons_succ]
        refine wpAnyL_take (i := 18) (d := some 56) (v := ?vad18) rfl rfl (by kernel_rfl) (by kernel_rfl) (by kernel_rfl) (fun _ _ _ h => h) (by rfl) ?yad18 ?_
        case yad18 => (intro w' hw'; go_simp; try (with_reducible rfl))
        simp only [Act.put]; try simp only [List.setIfInBounds_toArray]; try simp only [List.set_cons_zero, List.set_cons_succ]
        refine wpAnyL_take (i := 19) (d := some 57) (v := ?vad19) rfl rfl (by kernel_rfl) (by kernel_rfl) (by kernel_rfl) (fun _ _ _ h => h) (by rfl) ?yad19 ?_
        case yad19 => (intro w' hw'; go_simp; try (with_reducible rfl))
        simp only [Act.put]; try simp only [List.setIfInBounds_toArray]; try simp only [List.set_cons_zero, List.set_cons_succ]
        refine wpAnyL_take (i := 20) (d := some 58) (v := ?vad20) rfl rfl (by kernel_rfl) (by kernel_rfl) (by kernel_rfl) (fun _ _ _ h => h) (by rfl) ?yad20 ?_
        case yad20 => (intro w' hw'; have c1 := (X14.out.below hw').c1; rw [HV.out] at c1; go_simp; try (with_reducible rfl))
        simp only [Act.put]; try simp only [List.setIfInBounds_toArray]; try simp only [List.set_cons_zero, List.set_cons_succ]
        refine wpAnyL_take (i := 21) (d := some 59) (v := ?vad21) rfl rfl (by kernel_rfl) (by kernel_rfl) (by kernel_rfl) (fun _ _ _ h => h) (by rfl) ?yad21 ?_
        case yad21 => (intro w' hw'; go_simp; try (with_reducible rfl))
        simp only [Act.put]; try simp only [List.setIfInBounds_toArray]; try simp only [List.set_cons_zero, List.set_cons_succ]
        refine wpAnyL_take (i := 22) (d := some 60) (v := ?vad22) rfl rfl (by kernel_rfl) (by kernel_rfl) (by kernel_rfl) (fun _ _ _ h => h) (by rfl) ?yad22 ?_
        case yad22 => (intro w' hw'; have c3 := (X14.out.below hw').c3; rw [HK.out] at c3; go_simp; try (with_reducible rfl))
        simp only [Act.put]; try simp only [List.setIfInBounds_toArray]; try simp only [List.set_cons_zero, List.set_cons_succ]
        refine wpAnyL_take (i := 23) (d := some 61) (v := .int .i64 (q : Int)) rfl rfl (by kernel_rfl) (by kernel_rfl) (by kernel_rfl) (fun _ _ _ h => h) (by rfl) ?yad23 ?_
        case yad23 => (intro w' hw'; go_simp <;> omega)
        simp only [Act.put]; try simp only [List.setIfInBounds_toArray]; try simp only [List.set_cons_zero, List.set_cons_succ]
        refine wpAnyL_take (i := 24) (d := some 62) (v := ?vad24) rfl rfl (by kernel_rfl) (by kernel_rfl) (by kernel_rfl) (fun _ _ _ h => h) (by rfl) ?yad24 ?_
        case yad24 => (intro w' hw'; go_simp; try (with_reducible rfl))
        simp only [Act.put]; try simp only [List.setIfInBounds_toArray]; try simp only [List.set_cons_zero, List.set_cons_succ]
        refine wpAnyL_take (i := 25) (d := some 63) (v := ?vad25) rfl rfl (by kernel_rfl) (by kernel_rfl) (by kernel_rfl) (fun _ _ _ h => h) (by rfl) ?yad25 ?_
        case yad25 => (intro w' hw'; go_simp; try (with_reducible rfl))
        simp only [Act.put]; try simp only [List.setIfInBounds_toArray]; try simp only [List.set_cons_zero, List.set_cons_succ]
        refine wpAnyL_take (i := 26) (d := some 64) (v := ?vad26) rfl rfl (by kernel_rfl) (by kernel_rfl) (by kernel_rfl) (fun _ _ _ h => h) (by rfl) ?yad26 ?_
        case yad26 => (intro w' hw'; have r4 := (HR4.out w' (L314.out.trans hw')); go_simp; try (with_reducible rfl))
        simp only [Act.put]; try simp only [List.setIfInBounds_toArray]; try simp only [List.set_cons_zero, List.set_cons_succ]
        refine wpAnyL_take (i := 27) (d := some 65) (v := ?vad27) rfl rfl (by kernel_rfl) (by kernel_rfl) (by kernel_rfl) (fun _ _ _ h => h) (by rfl) ?yad27 ?_
        case yad27 => (intro w' hw'; go_simp; try (with_reducible rfl))
        simp only [Act.put]; try simp only [List.setIfInBounds_toArray]; try simp only [List.set_cons_zero, List.set_cons_succ]
        refine wpAnyL_take (i := 28) (d := some 2) (v := ?vad28) rfl rfl (by kernel_rfl) (by kernel_rfl) (by kernel_rfl) (fun _ _ _ h => h) (by rfl) ?yad28 ?_
        case yad28 => (intro w' hw'; go_simp; try (with_reducible rfl))
        simp only [Act.put]; try simp only [List.setIfInBounds_toArray]; try simp only [List.set_cons_zero, List.set_cons_succ]
        refine wpAnyL_done (by kernel_rfl) ?_ _
        go_wp2
        go_ret
        exact ⟨ret_bool HU.out.symm, L14.out⟩

      · obtain rfl : R = false := by rw [HR.out, decide_eq_true g1, decide_eq_true g2, decide_eq_false g3]; rfl
        have HE := hide (decide_eq_false g3)
        clear g3
        go_wp2_with (fail)
        have XD := hide (show SBox 36 g s w3.drew from X3.out)
        have LD := hide (L3.out.trans (Later.drew w3))
        have LD1 := hide (L13.out.trans (Later.drew w3))
        refine wp_region_L (by kernel_rfl) ?_
        refine wpAnyL_take (i := 0) (d := some 38) (v := ?vac0) rfl rfl (by kernel_rfl) (by kernel_rfl) (by kernel_rfl) (fun _ _ _ h => h) (by rfl) ?yac0 ?_
        case yac0 => (intro w' hw'; go_simp; try (with_reducible rfl))
        simp only [Act.put]; try simp only [List.setIfInBounds_toArray]; try simp only [List.set_cons_zero, List.set_cons_succ]
        refine wpAnyL_take (i := 1) (d := some 39) (v := ?vac1) rfl rfl (by kernel_rfl) (by kernel_rfl) (by kernel_rfl) (fun _ _ _ h => h) (by rfl) ?yac1 ?_
        case yac1 => (intro w' hw'; have c4 := (XD.out.below hw').c4; go_simp; try (with_reducible rfl))
        simp only [Act.put]; try simp only [List.setIfInBounds_toArray]; try simp only [List.set_cons_zero, List.set_cons_succ]
        refine wpAnyL_take (i := 2) (d := some 40) (v := .bool true) rfl rfl (by kernel_rfl) (by kernel_rfl) (by kernel_rfl) (fun _ _ _ h => h) (by rfl) ?yac2 ?_
        case yac2 => (intro w' hw'; go_simp <;> omega)
        simp only [Act.put]; try simp only [List.setIfInBounds_toArray]; try simp only [List.set_cons_zero, List.set_cons_succ]
        refine wpAnyL_take (i := 3) (d := some 41) (v := ?vac3) rfl rfl (by kernel_rfl) (by kernel_rfl) (by kernel_rfl) (fun _ _ _ h => h) (by rfl) ?yac3 ?_
        case yac3 => (intro w' hw'; go_simp; try (with_reducible rfl))
        simp only [Act.put]; try simp only [List.setIfInBounds_toArray]; try simp only [List.set_cons_zero, List.set_cons_succ]
        refine wpAnyL_take (i := 4) (d := some 42) (v := ?vac4) rfl rfl (by kernel_rfl) (by kernel_rfl) (by kernel_rfl) (fun _ _ _ h => h) (by rfl) ?yac4 ?_
        case yac4 => (intro w' hw'; go_simp; try (with_reducible rfl))
        simp only [Act.put]; try simp only [List.setIfInBounds_toArray]; try simp only [List.set_cons_zero, List.set_cons_succ]
        refine wpAnyL_take (i := 5) (d := some 43) (v := ?vac5) rfl rfl (by kernel_rfl) (by kernel_rfl) (by kernel_rfl) (fun _ _ _ h => h) (by rfl) ?yac5 ?_
        case yac5 => (intro w' hw'; have c4 := (XD.out.below hw').c4; go_simp; try (with_reducible rfl))
        simp only [Act.put]; try simp only [List.setIfInBounds_toArray]; try simp only [List.set_cons_zero, List.set_cons_succ]
        refine wpAnyL_take (i := 6) (d := some 44) (v := ?vac6) rfl rfl (by kernel_rfl) (by kernel_rfl) (by kernel_rfl) (fun _ _ _ h => h) (by rfl) ?yac6 ?_
        case yac6 => (intro w' hw'; go_simp; try (with_reducible rfl))
        simp only [Act.put]; try simp only [List.setIfInBounds_toArray]; try simp only [List.set_cons_zero, List.set_cons_succ]
        refine wpAnyL_take (i := 7) (d := some 45) (v := .bool true) rfl rfl (by kernel_rfl) (by kernel_rfl) (by kernel_rfl) (fun _ _ _ h => h) (by rfl) ?yac7 ?_
        case yac7 => (intro w' hw'; go_simp <;> omega)
        simp only [Act.put]; try simp only [List.setIfInBounds_toArray]; try simp only [List.set_cons_zero, List.set_cons_succ]
        refine wpAnyL_take (i := 8) (d := some 46) (v := ?vac8) rfl rfl (by kernel_rfl) (by kernel_rfl) (by kernel_rfl) (fun _ _ _ h => h) (by rfl) ?yac8 ?_
        case yac8 => (intro w' hw'; go_simp; try (with_reducible rfl))
        simp only [Act.put]; try simp only [List.setIfInBounds_toArray]; try simp only [List.set_cons_zero, List.set_cons_succ]
        refine wpAnyL_take (i := 9) (d := some 47) (v := ?vac9) rfl rfl (by kernel_rfl) (by kernel_rfl) (by kernel_rfl) (fun _ _ _ h => h) (by rfl) ?yac9 ?_
        case yac9 => (intro w' hw'; go_simp; try (with_reducible rfl))
        simp only [Act.put]; try simp only [List.setIfInBounds_toArray]; try simp only [List.set_cons_zero, List.set_cons_succ]
        refine wpAnyL_take (i := 10) (d := some 48) (v := ?vac10) rfl rfl (by kernel_rfl) (by kernel_rfl) (by kernel_rfl) (fun _ _ _ h => h) (by rfl) ?yac10 ?_
        case yac10 => (intro w' hw'; go_simp; try (with_reducible rfl))
        simp only [Act.put]; try simp only [List.setIfInBounds_toArray]; try simp only [List.set_cons_zero, List.set_cons_succ]
        refine wpAnyL_take (i := 11) (d := some 49) (v := s.hit.val) rfl rfl (by kernel_rfl) (by kernel_rfl) (by kernel_rfl) (fun _ _ _ h => h) (by rfl) ?yac11 ?_
        case yac11 => (intro w' hw'; exact exec_load_hits _ (by rfl) (by rfl) (XD.out.below hw'))
        simp only [Act.put]; try simp only [List.setIfInBounds_toArray]; try simp only [List.set_cons_zero, List.set_cons_succ]
        refine wpAnyL_take (i := 12) (d := some 50) (v := ?vac12) rfl rfl (by kernel_rfl) (by kernel_rfl) (by kernel_rfl) (fun _ _ _ h => h) (by rfl) ?yac12 ?_
        case yac12 => (intro w' hw'; go_simp; try (with_reducible rfl))
        simp only [Act.put]; try simp only [List.setIfInBounds_toArray]; try simp only [List.set_cons_zero, List.set_cons_succ]
        refine wpAnyL_take (i := 13) (d := some 51) (v := ?vac13) rfl rfl (by kernel_rfl) (by kernel_rfl) (by kernel_rfl) (fun _ _ _ h => h) (by rfl) ?yac13 ?_
        case yac13 => (intro w' hw'; have c3 := (XD.out.below hw').c3; go_simp; try (with_reducible rfl))
        simp only [Act.put]; try simp only [List.setIfInBounds_toArray]; try simp only [List.set_cons_zero, List.set_cons_succ]
        refine wpAnyL_only (i := 14) rfl (by kernel_rfl) (by rfl) fun K hK => ?_
        go_simp
        refine (CU.out _ _ (by omega)).mono ?_
        rintro e w_14 ⟨rfl, hl_⟩
        have L14 := hide (LD.out.trans hl_)
        have L114 := hide (LD1.out.trans hl_)
        have L314 := hide ((Later.drew w3).trans hl_)
        have X14 := hide (XD.out.below hl_)
        refine hK.out _ _ hl_ ?_
        clear hl_
        clear hK K
        try (simp only [Act.put]; try simp only [List.setIfInBounds_toArray]; try simp only [List.set_cons_zero, List.set_cons_succ])
        refine wpAnyL_take (i := 15) (d := some 53) (v := .bool false) rfl rfl (by kernel_rfl) (by kernel_rfl) (by kernel_rfl) (fun _ _ _ h => h) (by rfl) ?yac15 ?_
        case yac15 => (intro w' hw'; exact (exec_eql_hits s.hit (upH s.step) _ _ _ (by rfl) (by rfl) (by rfl)).trans (by rw [HE.out]))
        simp only [Act.put]; try simp only [List.setIfInBounds_toArray]; try simp only [List.set_cons_zero, List.set_cons_succ]
        refine wpAnyL_take (i := 16) (d := some 54) (v := ?vac16) rfl rfl (by kernel_rfl) (by kernel_rfl) (by kernel_rfl) (fun _ _ _ h => h) (by rfl) ?yac16 ?_
        case yac16 => (intro w' hw'; go_simp; try (with_reducible rfl))
        simp only [Act.put]; try simp only [List.setIfInBounds_toArray]; try simp only [List.set_cons_zero, List.set_cons_succ]
        refine wpAnyL_take (i := 17) (d := some 55) (v := ?vac17) rfl rfl (by kernel_rfl) (by kernel_rfl) (by kernel_rfl) (fun _ _ _ h => h) (by rfl) ?yac17 ?_
        case yac17 => (intro w' hw'; go_simp; try (with_reducible rfl))
        simp only [Act.put]; try simp only [List.setIfInBounds_toArray]; try simp only [List.set_cons_zero, List.set_cons_succ]
        refine wpAnyL_pass (i := 18) (d := some 56) rfl rfl (by kernel_rfl) (by kernel_rfl) (by kernel_rfl) (fun _ _ _ h => h) (by rfl) ?_
        try (simp only [Act.put]; try simp only [List.setIfInBounds_toArray]; try simp only [List.set_cons_zero, List.set_cons_succ])
        refine wpAnyL_pass (i := 19) (d := some 57) rfl rfl (by kernel_rfl) (by kernel_rfl) (by kernel_rfl) (fun _ _ _ h => h) (by rfl) ?_
        try (simp only [Act.put]; try simp only [List.setIfInBounds_toArray]; try simp only [List.set_cons_zero, List.set_cons_succ])
        refine wpAnyL_pass (i := 20) (d := some 58) rfl rfl (by kernel_rfl) (by kernel_rfl) (by kernel_rfl) (fun _ _ _ h => h) (by rfl) ?_
        try (simp only [Act.put]; try simp only [List.setIfInBounds_toArray]; try simp only [List.set_cons_zero, List.set_cons_succ])
        refine wpAnyL_pass (i := 21) (d := some 59) rfl rfl (by kernel_rfl) (by kernel_rfl) (by kernel_rfl) (fun _ _ _ h => h) (by rfl) ?_
        try (simp only [Act.put]; try simp only [List.setIfInBounds_toArray]; try simp only [List.set_cons_zero, List.set_cons_succ])
        refine wpAnyL_pass (i := 22) (d := some 60) rfl rfl (by kernel_rfl) (by kernel_rfl) (by kernel_rfl) (fun _ _ _ h => h) (by rfl) ?_
        try (simp only [Act.put]; try simp only [List.setIfInBounds_toArray]; try simp only [List.set_cons_zero, List.set_cons_succ])
        refine wpAnyL_pass (i := 23) (d := some 61) rfl rfl (by kernel_rfl) (by kernel_rfl) (by kernel_rfl) (fun _ _ _ h => h) (by rfl) ?_
        try (simp only [Act.put]; try simp only [List.setIfInBounds_toArray]; try simp only [List.set_cons_zero, List.set_cons_succ])
        refine wpAnyL_pass (i := 24) (d := some 62) rfl rfl (by kernel_rfl) (by kernel_rfl) (by kernel_rfl) (fun _ _ _ h => h) (by rfl) ?_
        try (simp only [Act.put]; try simp only [List.setIfInBounds_toArray]; try simp only [List.set_cons_zero, List.set_cons_succ])
        refine wpAnyL_pass (i := 25) (d := some 63) rfl rfl (by kernel_rfl) (by kernel_rfl) (by kernel_rfl) (fun _ _ _ h => h) (by rfl) ?_
        try (simp only [Act.put]; try simp only [List.setIfInBounds_toArray]; try simp only [List.set_cons_zero, List.set_cons_succ])
        refine wpAnyL_pass (i := 26) (d := some 64) rfl rfl (by kernel_rfl) (by kernel_rfl) (by kernel_rfl) (fun _ _ _ h => h) (by rfl) ?_
        try (simp only [Act.put]; try simp only [List.setIfInBounds_toArray]; try simp only [List.set_cons_zero, List.set_cons_succ])
        refine wpAnyL_take (i := 27) (d := some 65) (v := ?vac27) rfl rfl (by kernel_rfl) (by kernel_rfl) (by kernel_rfl) (fun _ _ _ h => h) (by rfl) ?yac27 ?_
        case yac27 => (intro w' hw'; go_simp; try (with_reducible rfl))
        simp only [Act.put]; try simp only [List.setIfInBounds_toArray]; try simp only [List.set_cons_zero, List.set_cons_succ]
        refine wpAnyL_take (i := 28) (d := some 2) (v := ?vac28) rfl rfl (by kernel_rfl) (by kernel_rfl) (by kernel_rfl) (fun _ _ _ h => h) (by rfl) ?yac28 ?_
        case yac28 => (intro w' hw'; go_simp; try (with_reducible rfl))
        simp only [Act.put]; try simp only [List.setIfInBounds_toArray]; try simp only [List.set_cons_zero, List.set_cons_succ]
        refine wpAnyL_done (by kernel_rfl) ?_ _
        go_wp2
        go_ret
        exact ⟨rfl, L14.out⟩

    · obtain rfl : R = false := by rw [HR.out, decide_eq_true g1, decide_eq_false g2]; rfl
      go_wp2_with (fail)
      have XD := hide (show SBox 36 g s w3.drew from X3.out)
      have LD := hide (L3.out.trans (Later.drew w3))
      have LD1 := hide (L13.out.trans (Later.drew w3))
      refine wp_region_L (by kernel_rfl) ?_
      refine wpAnyL_take (i := 0) (d := some 38) (v := ?vab0) rfl rfl (by kernel_rfl) (by kernel_rfl) (by kernel_rfl) (fun _ _ _ h => h) (by rfl) ?yab0 ?_
      case yab0 => (intro w' hw'; go_simp; try (with_reducible rfl))
      simp only [Act.put]; try simp only [List.setIfInBounds_toArray]; try simp only [List.set_cons_zero, List.set_cons_succ]
      refine wpAnyL_take (i := 1) (d := some 39) (v := ?vab1) rfl rfl (by kernel_rfl) (by kernel_rfl) (by kernel_rfl) (fun _ _ _ h => h) (by rfl) ?yab1 ?_
      case yab1 => (intro w' hw'; have c4 := (XD.out.below hw').c4; go_simp; try (with_reducible rfl))
      simp only [Act.put]; try simp only [List.setIfInBounds_toArray]; try simp only [List.set_cons_zero, List.set_cons_succ]
      refine wpAnyL_take (i := 2) (d := some 40) (v := .bool true) rfl rfl (by kernel_rfl) (by kernel_rfl) (by kernel_rfl) (fun _ _ _ h => h) (by rfl) ?yab2 ?_
      case yab2 => (intro w' hw'; go_simp <;> omega)
      simp only [Act.put]; try simp only [List.setIfInBounds_toArray]; try simp only [List.set_cons_zero, List.set_cons_succ]
      refine wpAnyL_take (i := 3) (d := some 41) (v := ?vab3) rfl rfl (by kernel_rfl) (by kernel_rfl) (by kernel_rfl) (fun _ _ _ h => h) (by rfl) ?yab3 ?_
      case yab3 => (intro w' hw'; go_simp; try (with_reducible rfl))
      simp only [Act.put]; try simp only [List.setIfInBounds_toArray]; try simp only [List.set_cons_zero, List.set_cons_succ]
      refine wpAnyL_take (i := 4) (d := some 42) (v := ?vab4) rfl rfl (by kernel_rfl) (by kernel_rfl) (by kernel_rfl) (fun _ _ _ h => h) (by rfl) ?yab4 ?_
      case yab4 => (intro w' hw'; go_simp; try (with_reducible rfl))
      simp only [Act.put]; try simp only [List.setIfInBounds_toArray]; try simp only [List.set_cons_zero, List.set_cons_succ]
      refine wpAnyL_take (i := 5) (d := some 43) (v := ?vab5) rfl rfl (by kernel_rfl) (by kernel_rfl) (by kernel_rfl) (fun _ _ _ h => h) (by rfl) ?yab5 ?_
      case yab5 => (intro w' hw'; have c4 := (XD.out.below hw').c4; go_simp; try (with_reducible rfl))
      simp only [Act.put]; try simp only [List.setIfInBounds_toArray]; try simp only [List.set_cons_zero, List.set_cons_succ]
      refine wpAnyL_take (i := 6) (d := some 44) (v := ?vab6) rfl rfl (by kernel_rfl) (by kernel_rfl) (by kernel_rfl) (fun _ _ _ h => h) (by rfl) ?yab6 ?_
      case yab6 => (intro w' hw'; go_simp; try (with_reducible rfl))
      simp only [Act.put]; try simp only [List.setIfInBounds_toArray]; try simp only [List.set_cons_zero, List.set_cons_succ]
      refine wpAnyL_take (i := 7) (d := some 45) (v := .bool false) rfl rfl (by kernel_rfl) (by kernel_rfl) (by kernel_rfl) (fun _ _ _ h => h) (by rfl) ?yab7 ?_
      case yab7 => (intro w' hw'; go_simp <;> omega)
      simp only [Act.put]; try simp only [List.setIfInBounds_toArray]; try simp only [List.set_cons_zero, List.set_cons_succ]
      refine wpAnyL_take (i := 8) (d := some 46) (v := ?vab8) rfl rfl (by kernel_rfl) (by kernel_rfl) (by kernel_rfl) (fun _ _ _ h => h) (by rfl) ?yab8 ?_
      case yab8 => (intro w' hw'; go_simp; try (with_reducible rfl))
      simp only [Act.put]; try simp only [List.setIfInBounds_toArray]; try simp only [List.set_cons_zero, List.set_cons_succ]
      refine wpAnyL_take (i := 9) (d := some 47) (v := ?vab9) rfl rfl (by kernel_rfl) (by kernel_rfl) (by kernel_rfl) (fun _ _ _ h => h) (by rfl) ?yab9 ?_
      case yab9 => (intro w' hw'; go_simp; try (with_reducible rfl))
      simp only [Act.put]; try simp only [List.setIfInBounds_toArray]; try simp only [List.set_cons_zero, List.set_cons_succ]
      refine wpAnyL_pass (i := 10) (d := some 48) rfl rfl (by kernel_rfl) (by kernel_rfl) (by kernel_rfl) (fun _ _ _ h => h) (by rfl) ?_
      try (simp only [Act.put]; try simp only [List.setIfInBounds_toArray]; try simp only [List.set_cons_zero, List.set_cons_succ])
      refine wpAnyL_pass (i := 11) (d := some 49) rfl rfl (by kernel_rfl) (by kernel_rfl) (by kernel_rfl) (fun _ _ _ h => h) (by rfl) ?_
      try (simp only [Act.put]; try simp only [List.setIfInBounds_toArray]; try simp only [List.set_cons_zero, List.set_cons_succ])
      refine wpAnyL_pass (i := 12) (d := some 50) rfl rfl (by kernel_rfl) (by kernel_rfl) (by kernel_rfl) (fun _ _ _ h => h) (by rfl) ?_
      try (simp only [Act.put]; try simp only [List.setIfInBounds_toArray]; try simp only [List.set_cons_zero, List.set_cons_succ])
      refine wpAnyL_pass (i := 13) (d := some 51) rfl rfl (by kernel_rfl) (by kernel_rfl) (by kernel_rfl) (fun _ _ _ h => h) (by rfl) ?_
      try (simp only [Act.put]; try simp only [List.setIfInBounds_toArray]; try simp only [List.set_cons_zero, List.set_cons_succ])
      refine wpAnyL_pass (i := 14) (d := some 52) rfl rfl (by kernel_rfl) (by kernel_rfl) (by kernel_rfl) (fun _ _ _ h => h) (by rfl) ?_
      try (simp only [Act.put]; try simp only [List.setIfInBounds_toArray]; try simp only [List.set_cons_zero, List.set_cons_succ])
      refine wpAnyL_pass (i := 15) (d := some 53) rfl rfl (by kernel_rfl) (by kernel_rfl) (by kernel_rfl) (fun _ _ _ h => h) (by rfl) ?_
      try (simp only [Act.put]; try simp only [List.setIfInBounds_toArray]; try simp only [List.set_cons_zero, List.set_cons_succ])
      refine wpAnyL_take (i := 16) (d := some 54) (v := ?vab16) rfl rfl (by kernel_rfl) (by kernel_rfl) (by kernel_rfl) (fun _ _ _ h => h) (by rfl) ?yab16 ?_
      case yab16 => (intro w' hw'; go_simp; try (with_reducible rfl))
      simp only [Act.put]; try simp only [List.setIfInBounds_toArray]; try simp only [List.set_cons_zero, List.set_cons_succ]
      refine wpAnyL_take (i := 17) (d := some 55) (v := ?vab17) rfl rfl (by kernel_rfl) (by kernel_rfl) (by kernel_rfl) (fun _ _ _ h => h) (by rfl) ?yab17 ?_
      case yab17 => (intro w' hw'; go_simp; try (with_reducible rfl))
      simp only [Act.put]; try simp only [List.setIfInBounds_toArray]; try simp only [List.set_cons_zero, List.set_cons_succ]
      refine wpAnyL_pass (i := 18) (d := some 56) rfl rfl (by kernel_rfl) (by kernel_rfl) (by kernel_rfl) (fun _ _ _ h => h) (by rfl) ?_
      try (simp only [Act.put]; try simp only [List.setIfInBounds_toArray]; try simp only [List.set_cons_zero, List.set_cons_succ])
      refine wpAnyL_pass (i := 19) (d := some 57) rfl rfl (by kernel_rfl) (by kernel_rfl) (by kernel_rfl) (fun _ _ _ h => h) (by rfl) ?_
      try (simp only [Act.put]; try simp only [List.setIfInBounds_toArray]; try simp only [List.set_cons_zero, List.set_cons_succ])
      refine wpAnyL_pass (i := 20) (d := some 58) rfl rfl (by kernel_rfl) (by kernel_rfl) (by kernel_rfl) (fun _ _ _ h => h) (by rfl) ?_
      try (simp only [Act.put]; try simp only [List.setIfInBounds_toArray]; try simp only [List.set_cons_zero, List.set_cons_succ])
      refine wpAnyL_pass (i := 21) (d := some 59) rfl rfl (by kernel_rfl) (by kernel_rfl) (by kernel_rfl) (fun _ _ _ h => h) (by rfl) ?_
      try (simp only [Act.put]; try simp only [List.setIfInBounds_toArray]; try simp only [List.set_cons_zero, List.set_cons_succ])
      refine wpAnyL_pass (i := 22) (d := some 60) rfl rfl (by kernel_rfl) (by kernel_rfl) (by kernel_rfl) (fun _ _ _ h => h) (by rfl) ?_
      try (simp only [Act.put]; try simp only [List.setIfInBounds_toArray]; try simp only [List.set_cons_zero, List.set_cons_succ])
      refine wpAnyL_pass (i := 23) (d := some 61) rfl rfl (by kernel_rfl) (by kernel_rfl) (by kernel_rfl) (fun _ _ _ h => h) (by rfl) ?_
      try (simp only [Act.put]; try simp only [List.setIfInBounds_toArray]; try simp only [List.set_cons_zero, List.set_cons_succ])
      refine wpAnyL_pass (i := 24) (d := some 62) rfl rfl (by kernel_rfl) (by kernel_rfl) (by kernel_rfl) (fun _ _ _ h => h) (by rfl) ?_
      try (simp only [Act.put]; try simp only [List.setIfInBounds_toArray]; try simp only [List.set_cons_zero, List.set_cons_succ])
      refine wpAnyL_pass (i := 25) (d := some 63) rfl rfl (by kernel_rfl) (by kernel_rfl) (by kernel_rfl) (fun _ _ _ h => h) (by rfl) ?_
      try (simp only [Act.put]; try simp only [List.setIfInBounds_toArray]; try simp only [List.set_cons_zero, List.set_cons_succ])
      refine wpAnyL_pass (i := 26) (d := some 64) rfl rfl (by kernel_rfl) (by kernel_rfl) (by kernel_rfl) (fun _ _ _ h => h) (by rfl) ?_
      try (simp only [Act.put]; try simp only [List.setIfInBounds_toArray]; try simp only [List.set_cons_zero, List.set_cons_succ])
      refine wpAnyL_take (i := 27) (d := some 65) (v := ?vab27) rfl rfl (by kernel_rfl) (by kernel_rfl) (by kernel_rfl) (fun _ _ _ h => h) (by rfl) ?yab27 ?_
      case yab27 => (intro w' hw'; go_simp; try (with_reducible rfl))
      simp only [Act.put]; try simp only [List.setIfInBounds_toArray]; try simp only [List.set_cons_zero, List.set_cons_succ]
      refine wpAnyL_take (i := 28) (d := some 2) (v := ?vab28) rfl rfl (by kernel_rfl) (by kernel_rfl) (by kernel_rfl) (fun _ _ _ h => h) (by rfl) ?yab28 ?_
      case yab28 => (intro w' hw'; go_simp; try (with_reducible rfl))
      simp only [Act.put]; try simp only [List.setIfInBounds_toArray]; try simp only [List.set_cons_zero, List.set_cons_succ]
      refine wpAnyL_done (by kernel_rfl) ?_ _
      go_wp2
      go_ret
      exact ⟨rfl, LD.out⟩

  · obtain rfl : R = false := by rw [HR.out, decide_eq_false g1]; rfl
    go_wp2_with (fail)
    have XD := hide (show SBox 36 g s w3.drew from X3.out)
    have LD := hide (L3.out.trans (Later.drew w3))
    have LD1 := hide (L13.out.trans (Later.drew w3))
    refine wp_region_L (by kernel_rfl) ?_
    refine wpAnyL_take (i := 0) (d := some 38) (v := ?vaa0) rfl rfl (by kernel_rfl) (by kernel_rfl) (by kernel_rfl) (fun _ _ _ h => h) (by rfl) ?yaa0 ?_
    case yaa0 => (intro w' hw'; go_simp; try (with_reducible rfl))
    simp only [Act.put]; try simp only [List.setIfInBounds_toArray]; try simp only [List.set_cons_zero, List.set_cons_succ]
    refine wpAnyL_take (i := 1) (d := some 39) (v := ?vaa1) rfl rfl (by kernel_rfl) (by kernel_rfl) (by kernel_rfl) (fun _ _ _ h => h) (by rfl) ?yaa1 ?_
    case yaa1 => (intro w' hw'; have c4 := (XD.out.below hw').c4; go_simp; try (with_reducible rfl))
    simp only [Act.put]; try simp only [List.setIfInBounds_toArray]; try simp only [List.set_cons_zero, List.set_cons_succ]
    refine wpAnyL_take (i := 2) (d := some 40) (v := .bool false) rfl rfl (by kernel_rfl) (by kernel_rfl) (by kernel_rfl) (fun _ _ _ h => h) (by rfl) ?yaa2 ?_
    case yaa2 => (intro w' hw'; go_simp <;> omega)
    simp only [Act.put]; try simp only [List.setIfInBounds_toArray]; try simp only [List.set_cons_zero, List.set_cons_succ]
    refine wpAnyL_take (i := 3) (d := some 41) (v := ?vaa3) rfl rfl (by kernel_rfl) (by kernel_rfl) (by kernel_rfl) (fun _ _ _ h => h) (by rfl) ?yaa3 ?_
    case yaa3 => (intro w' hw'; go_simp; try (with_reducible rfl))
    simp only [Act.put]; try simp only [List.setIfInBounds_toArray]; try simp only [List.set_cons_zero, List.set_cons_succ]
    refine wpAnyL_pass (i := 4) (d := some 42) rfl rfl (by kernel_rfl) (by kernel_rfl) (by kernel_rfl) (fun _ _ _ h => h) (by rfl) ?_
    try (simp only [Act.put]; try simp only [List.setIfInBounds_toArray]; try simp only [List.set_cons_zero, List.set_cons_succ])
    refine wpAnyL_pass (i := 5) (d := some 43) rfl rfl (by kernel_rfl) (by kernel_rfl) (by kernel_rfl) (fun _ _ _ h => h) (by rfl) ?_
    try (simp only [Act.put]; try simp only [List.setIfInBounds_toArray]; try simp only [List.set_cons_zero, List.set_cons_succ])
    refine wpAnyL_pass (i := 6) (d := some 44) rfl rfl (by kernel_rfl) (by kernel_rfl) (by kernel_rfl) (fun _ _ _ h => h) (by rfl) ?_
    try (simp only [Act.put]; try simp only [List.setIfInBounds_toArray]; try simp only [List.set_cons_zero, List.set_cons_succ])
    refine wpAnyL_pass (i := 7) (d := some 45) rfl rfl (by kernel_rfl) (by kernel_rfl) (by kernel_rfl) (fun _ _ _ h => h) (by rfl) ?_
    try (simp only [Act.put]; try simp only [List.setIfInBounds_toArray]; try simp only [List.set_cons_zero, List.set_cons_succ])
    refine wpAnyL_take (i := 8) (d := some 46) (v := ?vaa8) rfl rfl (by kernel_rfl) (by kernel_rfl) (by kernel_rfl) (fun _ _ _ h => h) (by rfl) ?yaa8 ?_
    case yaa8 => (intro w' hw'; go_simp; try (with_reducible rfl))
    simp only [Act.put]; try simp only [List.setIfInBounds_toArray]; try simp only [List.set_cons_zero, List.set_cons_succ]
    refine wpAnyL_take (i := 9) (d := some 47) (v := ?vaa9) rfl rfl (by kernel_rfl) (by kernel_rfl) (by kernel_rfl) (fun _ _ _ h => h) (by rfl) ?yaa9 ?_
    case yaa9 => (intro w' hw'; go_simp; try (with_reducible rfl))
    simp only [Act.put]; try simp only [List.setIfInBounds_toArray]; try simp only [List.set_cons_zero, List.set_cons_succ]
    refine wpAnyL_pass (i := 10) (d := some 48) rfl rfl (by kernel_rfl) (by kernel_rfl) (by kernel_rfl) (fun _ _ _ h => h) (by rfl) ?_
    try (simp only [Act.put]; try simp only [List.setIfInBounds_toArray]; try simp only [List.set_cons_zero, List.set_cons_succ])
    refine wpAnyL_pass (i := 11) (d := some 49) rfl rfl (by kernel_rfl) (by kernel_rfl) (by kernel_rfl) (fun _ _ _ h => h) (by rfl) ?_
    try (simp only [Act.put]; try simp only [List.setIfInBounds_toArray]; try simp only [List.set_cons_zero, List.set_cons_succ])
    refine wpAnyL_pass (i := 12) (d := some 50) rfl rfl (by kernel_rfl) (by kernel_rfl) (by kernel_rfl) (fun _ _ _ h => h) (by rfl) ?_
    try (simp only [Act.put]; try simp only [List.setIfInBounds_toArray]; try simp only [List.set_cons_zero, List.set_cons_succ])
    refine wpAnyL_pass (i := 13) (d := some 51) rfl rfl (by kernel_rfl) (by kernel_rfl) (by kernel_rfl) (fun _ _ _ h => h) (by rfl) ?_
    try (simp only [Act.put]; try simp only [List.setIfInBounds_toArray]; try simp only [List.set_cons_zero, List.set_cons_succ])
    refine wpAnyL_pass (i := 14) (d := some 52) rfl rfl (by kernel_rfl) (by kernel_rfl) (by kernel_rfl) (fun _ _ _ h => h) (by rfl) ?_
    try (simp only [Act.put]; try simp only [List.setIfInBounds_toArray]; try simp only [List.set_cons_zero, List.set_cons_succ])
    refine wpAnyL_pass (i := 15) (d := some 53) rfl rfl (by kernel_rfl) (by kernel_rfl) (by kernel_rfl) (fun _ _ _ h => h) (by rfl) ?_
    try (simp only [Act.put]; try simp only [List.setIfInBounds_toArray]; try simp only [List.set_cons_zero, List.set_cons_succ])
    refine wpAnyL_take (i := 16) (d := some 54) (v := ?vaa16) rfl rfl (by kernel_rfl) (by kernel_rfl) (by kernel_rfl) (fun _ _ _ h => h) (by rfl) ?yaa16 ?_
    case yaa16 => (intro w' hw'; go_simp; try (with_reducible rfl))
    simp only [Act.put]; try simp only [List.setIfInBounds_toArray]; try simp only [List.set_cons_zero, List.set_cons_succ]
    refine wpAnyL_take (i := 17) (d := some 55) (v := ?vaa17) rfl rfl (by kernel_rfl) (by kernel_rfl) (by kernel_rfl) (fun _ _ _ h => h) (by rfl) ?yaa17 ?_
    case yaa17 => (intro w' hw'; go_simp; try (with_reducible rfl))
    simp only [Act.put]; try simp only [List.setIfInBounds_toArray]; try simp only [List.set_cons_zero, List.set_cons_succ]
    refine wpAnyL_pass (i := 18) (d := some 56) rfl rfl (by kernel_rfl) (by kernel_rfl) (by kernel_rfl) (fun _ _ _ h => h) (by rfl) ?_
    try (simp only [Act.put]; try simp only [List.setIfInBounds_toArray]; try simp only [List.set_cons_zero, List.set_cons_succ])
    refine wpAnyL_pass (i := 19) (d := some 57) rfl rfl (by kernel_rfl) (by kernel_rfl) (by kernel_rfl) (fun _ _ _ h => h) (by rfl) ?_
    try (simp only [Act.put]; try simp only [List.setIfInBounds_toArray]; try simp only [List.set_cons_zero, List.set_cons_succ])
    refine wpAnyL_pass (i := 20) (d := some 58) rfl rfl (by kernel_rfl) (by kernel_rfl) (by kernel_rfl) (fun _ _ _ h => h) (by rfl) ?_
    try (simp only [Act.put]; try simp only [List.setIfInBounds_toArray]; try simp only [List.set_cons_zero, List.set_cons_succ])
    refine wpAnyL_pass (i := 21) (d := some 59) rfl rfl (by kernel_rfl) (by kernel_rfl) (by kernel_rfl) (fun _ _ _ h => h) (by rfl) ?_
    try (simp only [Act.put]; try simp only [List.setIfInBounds_toArray]; try simp only [List.set_cons_zero, List.set_cons_succ])
    refine wpAnyL_pass (i := 22) (d := some 60) rfl rfl (by kernel_rfl) (by kernel_rfl) (by kernel_rfl) (fun _ _ _ h => h) (by rfl) ?_
    try (simp only [Act.put]; try simp only [List.setIfInBounds_toArray]; try simp only [List.set_cons_zero, List.set_cons_succ])
    refine wpAnyL_pass (i := 23) (d := some 61) rfl rfl (by kernel_rfl) (by kernel_rfl) (by kernel_rfl) (fun _ _ _ h => h) (by rfl) ?_
    try (simp only [Act.put]; try simp only [List.setIfInBounds_toArray]; try simp only [List.set_cons_zero, List.set_cons_succ])
    refine wpAnyL_pass (i := 24) (d := some 62) rfl rfl (by kernel_rfl) (by kernel_rfl) (by kernel_rfl) (fun _ _ _ h => h) (by rfl) ?_
    try (simp only [Act.put]; try simp only [List.setIfInBounds_toArray]; try simp only [List.set_cons_zero, List.set_cons_succ])
    refine wpAnyL_pass (i := 25) (d := some 63) rfl rfl (by kernel_rfl) (by kernel_rfl) (by kernel_rfl) (fun _ _ _ h => h) (by rfl) ?_
    try (simp only [Act.put]; try simp only [List.setIfInBounds_toArray]; try simp only [List.set_cons_zero, List.set_cons_succ])
    refine wpAnyL_pass (i := 26) (d := some 64) rfl rfl (by kernel_rfl) (by kernel_rfl) (by kernel_rfl) (fun _ _ _ h => h) (by rfl) ?_
    try (simp only [Act.put]; try simp only [List.setIfInBounds_toArray]; try simp only [List.set_cons_zero, List.set_cons_succ])
    refine wpAnyL_take (i := 27) (d := some 65) (v := ?vaa27) rfl rfl (by kernel_rfl) (by kernel_rfl) (by kernel_rfl) (fun _ _ _ h => h) (by rfl) ?yaa27 ?_
    case yaa27 => (intro w' hw'; go_simp; try (with_reducible rfl))
    simp only [Act.put]; try simp only [List.setIfInBounds_toArray]; try simp only [List.set_cons_zero, List.set_cons_succ]
    refine wpAnyL_take (i := 28) (d := some 2) (v := ?vaa28) rfl rfl (by kernel_rfl) (by kernel_rfl) (by kernel_rfl) (fun _ _ _ h => h) (by rfl) ?yaa28 ?_
    case yaa28 => (intro w' hw'; go_simp; try (with_reducible rfl))
    simp only [Act.put]; try simp only [List.setIfInBounds_toArray]; try simp only [List.set_cons_zero, List.set_cons_succ]
    refine wpAnyL_done (by kernel_rfl) ?_ _
    go_wp2
    go_ret
    exact ⟨rfl, LD.out⟩

set_option maxHeartbeats 8000000 in
theorem good_done {F : Nat → Prop} {s : SagaD} {l : List StepD} (h : StepsAt F w s.v l) (hw : ∀ x ∈ l, x.wf) (h1 : I64 s.step) (he : (checkF s.name l).2 = 0) (hst : s.st = 3) : Calls Tryz.prog 45 #[s.val] w (Gives (.bool (decide (s.tr = 0) && (decide (s.step = 0) && decide (s.hit = upH (s.n : Int))))) w) := by
  obtain ⟨W1, hW1⟩ : ∃ W1, W1 = (w.alloc (.cells s.cells.toArray 36 (0, 0))) := ⟨_, rfl⟩
  obtain ⟨g, hg⟩ : ∃ g, g = w.heap.size := ⟨_, rfl⟩
  have X1 : Hid (SBox 36 g s W1) := by rw [hW1, hg]; exact heap_alloc_new _ _
  have L1 : Hid (Later w W1) := by rw [hW1]; exact (Below.refl _ _).alloc (Nat.le_refl _) _
  have HG0 : Hid (w.heap.size ≤ g) := Nat.le_of_eq hg.symm
  have CC : Hid (Calls Tryz.prog 75 #[.agg #[.string s.name, .slice s.p s.n s.c]] W1 fun e w' => e = .returned (.tuple #[.int .i64 (((checkF s.name l).1 : Nat) : Int), .int .i64 (((checkF s.name l).2 : Nat) : Int)]) ∧ Later W1 w') := check_any (StepsAt.kept h (Kept.of_below L1.out _))
  have C : Hid (∀ W, Later W1 W → Calls Tryz.prog 76 #[.agg #[.string s.name, .slice s.p s.n s.c], .int .i64 s.step] W fun e w' => e = .returned (.int .i64 (triesN l s.step)) ∧ Later W w') := fun W hW => Tries_any (StepsAt.kept h (Kept.of_below (L1.out.trans hW) _)) h1 hw
  have HS : Hid (∀ W, Later W1 W → StepsAt F W s.v l) := fun W hW => StepsAt.kept h (Kept.of_below (L1.out.trans hW) _)
  obtain ⟨k1, hk1⟩ : ∃ k1, (checkF s.name l).1 = k1 := ⟨_, rfl⟩
  obtain ⟨k2, hk2⟩ : ∃ k2, (checkF s.name l).2 = k2 := ⟨_, rfl⟩
  rw [hk1, hk2] at CC
  have HN := hide (steps_n h)
  have HW1 := hide hW1.symm
  have HG := hide hg.symm
  clear hW1 hg h hk1 h1 hw
  have e0 := X1.out.c0
  have e1 := X1.out.c1
  rw [← HW1.out, ← HG.out] at e0 e1
  obtain ⟨T, hT⟩ : ∃ T, triesN l s.step = T := ⟨_, rfl⟩
  rw [hT] at C
  obtain rfl : k2 = 0 := by rw [← hk2]; exact he
  have CU : Hid (∀ (W : World) (k : Int), k ≤ 8 → Calls Tryz.prog 78 #[.int .i64 k] W (Gives (upH k).val W)) := fun W k hk => upTo_any k hk
  obtain ⟨R, hR⟩ : ∃ R, (decide (s.tr = 0) && (decide (s.step = 0) && decide (s.hit = upH (s.n : Int)))) = R := ⟨_, rfl⟩
  rw [hR]
  have HR : Hid (R = (decide (s.tr = 0) && (decide (s.step = 0) && decide (s.hit = upH (s.n : Int))))) := hR.symm
  have h8 : s.n ≤ 8 := by rw [HN.out]; exact (check_good he).1
  clear hR hT
  clear he hk2
  go_enter Tryz.func45, Tryz.ntmps45
  go_wp2_with (fail)
  simp only [HW1.out, HG.out]
  refine CC.out.mono ?_
  rintro e w2 ⟨rfl, hl⟩
  have L12 := hide hl
  have L2 := hide (L1.out.trans hl)
  have X2 := hide (X1.out.below hl)
  clear hl CC e0 e1
  have d0 := X2.out.c0
  have d1 := X2.out.c1
  have d3 := X2.out.c3
  go_wp2_with (fail)
  refine (C.out _ L12.out).mono ?_
  rintro e w3 ⟨rfl, hl⟩
  have L13 := hide (L12.out.trans hl)
  have L3 := hide (L2.out.trans hl)
  have X3 := hide (X2.out.below hl)
  clear hl C d0 d1 d3
  have c2 := X3.out.c2
  rw [hst] at c2
  clear hst
  by_cases g1 : s.tr = 0
  · have HT0 := hide g1
    by_cases g2 : s.step = 0
    · have HS0 := hide g2
      obtain rfl : R = decide (s.hit = upH (s.n : Int)) := by rw [HR.out, decide_eq_true g1, decide_eq_true g2]; rfl
      clear g1 g2
      go_wp2_with (fail)
      have XD := hide (show SBox 36 g s w3.drew from X3.out)
      have LD := hide (L3.out.trans (Later.drew w3))
      have LD1 := hide (L13.out.trans (Later.drew w3))
      refine wp_region_L (by kernel_rfl) ?_
      refine wpAnyL_take (i := 0) (d := some 81) (v := ?vac0) rfl rfl (by kernel_rfl) (by kernel_rfl) (by kernel_rfl) (fun _ _ _ h => h) (by rfl) ?yac0 ?_
      case yac0 => (intro w' hw'; go_simp; try (with_reducible rfl))
      simp only [Act.put]; try simp only [List.setIfInBounds_toArray]; try simp only [List.set_cons_zero, List.set_cons_succ]
      refine wpAnyL_take (i := 1) (d := some 82) (v := ?vac1) rfl rfl (by kernel_rfl) (by kernel_rfl) (by kernel_rfl) (fun _ _ _ h => h) (by rfl) ?yac1 ?_
      case yac1 => (intro w' hw'; have c4 := (XD.out.below hw').c4; rw [HT0.out] at c4; go_simp; try (with_reducible rfl))
      simp only [Act.put]; try simp only [List.setIfInBounds_toArray]; try simp only [List.set_cons_zero, List.set_cons_succ]
      refine wpAnyL_take (i := 2) (d := some 83) (v := ?vac2) rfl rfl (by kernel_rfl) (by kernel_rfl) (by kernel_rfl) (fun _ _ _ h => h) (by rfl) ?yac2 ?_
      case yac2 => (intro w' hw'; go_simp; try (with_reducible rfl))
      simp only [Act.put]; try simp only [List.setIfInBounds_toArray]; try simp only [List.set_cons_zero, List.set_cons_succ]
      refine wpAnyL_take (i := 3) (d := some 84) (v := ?vac3) rfl rfl (by kernel_rfl) (by kernel_rfl) (by kernel_rfl) (fun _ _ _ h => h) (by rfl) ?yac3 ?_
      case yac3 => (intro w' hw'; go_simp; try (with_reducible rfl))
      simp only [Act.put]; try simp only [List.setIfInBounds_toArray]; try simp only [List.set_cons_zero, List.set_cons_succ]
      refine wpAnyL_take (i := 4) (d := some 85) (v := ?vac4) rfl rfl (by kernel_rfl) (by kernel_rfl) (by kernel_rfl) (fun _ _ _ h => h) (by rfl) ?yac4 ?_
      case yac4 => (intro w' hw'; go_simp; try (with_reducible rfl))
      simp only [Act.put]; try simp only [List.setIfInBounds_toArray]; try simp only [List.set_cons_zero, List.set_cons_succ]
      refine wpAnyL_take (i := 5) (d := some 86) (v := ?vac5) rfl rfl (by kernel_rfl) (by kernel_rfl) (by kernel_rfl) (fun _ _ _ h => h) (by rfl) ?yac5 ?_
      case yac5 => (intro w' hw'; have c3 := (XD.out.below hw').c3; rw [HS0.out] at c3; go_simp; try (with_reducible rfl))
      simp only [Act.put]; try simp only [List.setIfInBounds_toArray]; try simp only [List.set_cons_zero, List.set_cons_succ]
      refine wpAnyL_take (i := 6) (d := some 87) (v := ?vac6) rfl rfl (by kernel_rfl) (by kernel_rfl) (by kernel_rfl) (fun _ _ _ h => h) (by rfl) ?yac6 ?_
      case yac6 => (intro w' hw'; go_simp; try (with_reducible rfl))
      simp only [Act.put]; try simp only [List.setIfInBounds_toArray]; try simp only [List.set_cons_zero, List.set_cons_succ]
      refine wpAnyL_take (i := 7) (d := some 88) (v := ?vac7) rfl rfl (by kernel_rfl) (by kernel_rfl) (by kernel_rfl) (fun _ _ _ h => h) (by rfl) ?yac7 ?_
      case yac7 => (intro w' hw'; go_simp; try (with_reducible rfl))
      simp only [Act.put]; try simp only [List.setIfInBounds_toArray]; try simp only [List.set_cons_zero, List.set_cons_succ]
      refine wpAnyL_take (i := 8) (d := some 89) (v := ?vac8) rfl rfl (by kernel_rfl) (by kernel_rfl) (by kernel_rfl) (fun _ _ _ h => h) (by rfl) ?yac8 ?_
      case yac8 => (intro w' hw'; go_simp; try (with_reducible rfl))
      simp only [Act.put]; try simp only [List.setIfInBounds_toArray]; try simp only [List.set_cons_zero, List.set_cons_succ]
      refine wpAnyL_take (i := 9) (d := some 90) (v := ?vac9) rfl rfl (by kernel_rfl) (by kernel_rfl) (by kernel_rfl) (fun _ _ _ h => h) (by rfl) ?yac9 ?_
      case yac9 => (intro w' hw'; go_simp; try (with_reducible rfl))
      simp only [Act.put]; try simp only [List.setIfInBounds_toArray]; try simp only [List.set_cons_zero, List.set_cons_succ]
      refine wpAnyL_take (i := 10) (d := some 91) (v := s.hit.val) rfl rfl (by kernel_rfl) (by kernel_rfl) (by kernel_rfl) (fun _ _ _ h => h) (by rfl) ?yac10 ?_
      case yac10 => (intro w' hw'; exact exec_load_hits _ (by rfl) (by rfl) (XD.out.below hw'))
      simp only [Act.put]; try simp only [List.setIfInBounds_toArray]; try simp only [List.set_cons_zero, List.set_cons_succ]
      refine wpAnyL_take (i := 11) (d := some 92) (v := ?vac11) rfl rfl (by kernel_rfl) (by kernel_rfl) (by kernel_rfl) (fun _ _ _ h => h) (by rfl) ?yac11 ?_
      case yac11 => (intro w' hw'; go_simp; try (with_reducible rfl))
      simp only [Act.put]; try simp only [List.setIfInBounds_toArray]; try simp only [List.set_cons_zero, List.set_cons_succ]
      refine wpAnyL_take (i := 12) (d := some 93) (v := ?vac12) rfl rfl (by kernel_rfl) (by kernel_rfl) (by kernel_rfl) (fun _ _ _ h => h) (by rfl) ?yac12 ?_
      case yac12 => (intro w' hw'; go_simp; try (with_reducible rfl))
      simp only [Act.put]; try simp only [List.setIfInBounds_toArray]; try simp only [List.set_cons_zero, List.set_cons_succ]
      refine wpAnyL_take (i := 13) (d := some 94) (v := ?vac13) rfl rfl (by kernel_rfl) (by kernel_rfl) (by kernel_rfl) (fun _ _ _ h => h) (by rfl) ?yac13 ?_
      case yac13 => (intro w' hw'; have c1 := (XD.out.below hw').c1; go_simp; try (with_reducible rfl))
      simp only [Act.put]; try simp only [List.setIfInBounds_toArray]; try simp only [List.set_cons_zero, List.set_cons_succ]
      refine wpAnyL_take (i := 14) (d := some 95) (v := ?vac14) rfl rfl (by kernel_rfl) (by kernel_rfl) (by kernel_rfl) (fun _ _ _ h => h) (by rfl) ?yac14 ?_
      case yac14 => (intro w' hw'; go_simp; try (with_reducible rfl))
      simp only [Act.put]; try simp only [List.setIfInBounds_toArray]; try simp only [List.set_cons_zero, List.set_cons_succ]
      refine wpAnyL_only (i := 15) rfl (by kernel_rfl) (by rfl) fun K hK => ?_
      go_simp
      refine (CU.out _ ((s.n : Int)) (by omega)).mono ?_
      rintro e w_15 ⟨rfl, hl_⟩
      have L15 := hide (LD.out.trans hl_)
      have L115 := hide (LD1.out.trans hl_)
      have L315 := hide ((Later.drew w3).trans hl_)
      have X15 := hide (XD.out.below hl_)
      refine hK.out _ _ hl_ ?_
      clear hl_
      clear hK K
      try (simp only [Act.put]; try simp only [List.setIfInBounds_toArray]; try simp only [List.set_cons_zero, List.set_cons_succ])
      refine wpAnyL_take (i := 16) (d := some 97) (v := .bool (decide (s.hit = upH ((s.n : Int))))) rfl rfl (by kernel_rfl) (by kernel_rfl) (by kernel_rfl) (fun _ _ _ h => h) (by rfl) ?yac16 ?_
      case yac16 => (intro w' hw'; exact exec_eql_hits s.hit (upH ((s.n : Int))) _ _ _ (by rfl) (by rfl) (by rfl))
      simp only [Act.put]; try simp only [List.setIfInBounds_toArray]; try simp only [List.set_cons_zero, List.set_cons_succ]
      refine wpAnyL_take (i := 17) (d := some 98) (v := ?vac17) rfl rfl (by kernel_rfl) (by kernel_rfl) (by kernel_rfl) (fun _ _ _ h => h) (by rfl) ?yac17 ?_
      case yac17 => (intro w' hw'; go_simp; try (with_reducible rfl))
      simp only [Act.put]; try simp only [List.setIfInBounds_toArray]; try simp only [List.set_cons_zero, List.set_cons_succ]
      refine wpAnyL_take (i := 18) (d := some 2) (v := ?vac18) rfl rfl (by kernel_rfl) (by kernel_rfl) (by kernel_rfl) (fun _ _ _ h => h) (by rfl) ?yac18 ?_
      case yac18 => (intro w' hw'; go_simp; try (with_reducible rfl))
      simp only [Act.put]; try simp only [List.setIfInBounds_toArray]; try simp only [List.set_cons_zero, List.set_cons_succ]
      refine wpAnyL_done (by kernel_rfl) ?_ _
      go_wp2
      go_ret
      exact ⟨rfl, L15.out⟩

    · obtain rfl : R = false := by rw [HR.out, decide_eq_true g1, decide_eq_false g2]; rfl
      have hb : (s.step == 0) = false := by rw [beq_eq_false_iff_ne]; exact g2
      clear g1 g2
      go_wp2_with (fail)
      have XD := hide (show SBox 36 g s w3.drew from X3.out)
      have LD := hide (L3.out.trans (Later.drew w3))
      have LD1 := hide (L13.out.trans (Later.drew w3))
      refine wp_region_L (by kernel_rfl) ?_
      refine wpAnyL_take (i := 0) (d := some 81) (v := ?vab0) rfl rfl (by kernel_rfl) (by kernel_rfl) (by kernel_rfl) (fun _ _ _ h => h) (by rfl) ?yab0 ?_
      case yab0 => (intro w' hw'; go_simp; try (with_reducible rfl))
      simp only [Act.put]; try simp only [List.setIfInBounds_toArray]; try simp only [List.set_cons_zero, List.set_cons_succ]
      refine wpAnyL_take (i := 1) (d := some 82) (v := ?vab1) rfl rfl (by kernel_rfl) (by kernel_rfl) (by kernel_rfl) (fun _ _ _ h => h) (by rfl) ?yab1 ?_
      case yab1 => (intro w' hw'; have c4 := (XD.out.below hw').c4; rw [HT0.out] at c4; go_simp; try (with_reducible rfl))
      simp only [Act.put]; try simp only [List.setIfInBounds_toArray]; try simp only [List.set_cons_zero, List.set_cons_succ]
      refine wpAnyL_take (i := 2) (d := some 83) (v := ?vab2) rfl rfl (by kernel_rfl) (by kernel_rfl) (by kernel_rfl) (fun _ _ _ h => h) (by rfl) ?yab2 ?_
      case yab2 => (intro w' hw'; go_simp; try (with_reducible rfl))
      simp only [Act.put]; try simp only [List.setIfInBounds_toArray]; try simp only [List.set_cons_zero, List.set_cons_succ]
      refine wpAnyL_take (i := 3) (d := some 84) (v := ?vab3) rfl rfl (by kernel_rfl) (by kernel_rfl) (by kernel_rfl) (fun _ _ _ h => h) (by rfl) ?yab3 ?_
      case yab3 => (intro w' hw'; go_simp; try (with_reducible rfl))
      simp only [Act.put]; try simp only [List.setIfInBounds_toArray]; try simp only [List.set_cons_zero, List.set_cons_succ]
      refine wpAnyL_take (i := 4) (d := some 85) (v := ?vab4) rfl rfl (by kernel_rfl) (by kernel_rfl) (by kernel_rfl) (fun _ _ _ h => h) (by rfl) ?yab4 ?_
      case yab4 => (intro w' hw'; go_simp; try (with_reducible rfl))
      simp only [Act.put]; try simp only [List.setIfInBounds_toArray]; try simp only [List.set_cons_zero, List.set_cons_succ]
      refine wpAnyL_take (i := 5) (d := some 86) (v := ?vab5) rfl rfl (by kernel_rfl) (by kernel_rfl) (by kernel_rfl) (fun _ _ _ h => h) (by rfl) ?yab5 ?_
      case yab5 => (intro w' hw'; have c3 := (XD.out.below hw').c3; go_simp; try (with_reducible rfl))
      simp only [Act.put]; try simp only [List.setIfInBounds_toArray]; try simp only [List.set_cons_zero, List.set_cons_succ]
      refine wpAnyL_take (i := 6) (d := some 87) (v := ?vab6) rfl rfl (by kernel_rfl) (by kernel_rfl) (by kernel_rfl) (fun _ _ _ h => h) (by rfl) ?yab6 ?_
      case yab6 => (intro w' hw'; go_simp; try (with_reducible rfl))
      simp only [Act.put]; try simp only [List.setIfInBounds_toArray]; try simp only [List.set_cons_zero, List.set_cons_succ]
      refine wpAnyL_take (i := 7) (d := some 88) (v := ?vab7) rfl rfl (by kernel_rfl) (by kernel_rfl) (by kernel_rfl) (fun _ _ _ h => h) (by rfl) ?yab7 ?_
      case yab7 => (intro w' hw'; go_simp; try (with_reducible rfl))
      simp only [Act.put]; try simp only [List.setIfInBounds_toArray]; try simp only [List.set_cons_zero, List.set_cons_succ]
      refine wpAnyL_take (i := 8) (d := some 89) (v := ?vab8) rfl rfl (by kernel_rfl) (by kernel_rfl) (by kernel_rfl) (fun _ _ _ h => h) (by rfl) ?yab8 ?_
      case yab8 => (intro w' hw'; go_simp; try (with_reducible rfl))
      simp only [Act.put]; try simp only [List.setIfInBounds_toArray]; try simp only [List.set_cons_zero, List.set_cons_succ]
      refine wpAnyL_pass (i := 9) (d := some 90) rfl rfl (by kernel_rfl) (by kernel_rfl) (by kernel_rfl) (fun _ _ _ h => h) (by rfl) ?_
      try (simp only [Act.put]; try simp only [List.setIfInBounds_toArray]; try simp only [List.set_cons_zero, List.set_cons_succ])
      refine wpAnyL_pass (i := 10) (d := some 91) rfl rfl (by kernel_rfl) (by kernel_rfl) (by kernel_rfl) (fun _ _ _ h => h) (by rfl) ?_
      try (simp only [Act.put]; try simp only [List.setIfInBounds_toArray]; try simp only [List.set_cons_zero, List.set_cons_succ])
      refine wpAnyL_pass (i := 11) (d := some 92) rfl rfl (by kernel_rfl) (by kernel_rfl) (by kernel_rfl) (fun _ _ _ h => h) (by rfl) ?_
      try (simp only [Act.put]; try simp only [List.setIfInBounds_toArray]; try simp only [List.set_cons_zero, List.set_cons_succ])
      refine wpAnyL_pass (i := 12) (d := some 93) rfl rfl (by kernel_rfl) (by kernel_rfl) (by kernel_rfl) (fun _ _ _ h => h) (by rfl) ?_
      try (simp only [Act.put]; try simp only [List.setIfInBounds_toArray]; try simp only [List.set_cons_zero, List.set_cons_succ])
      refine wpAnyL_pass (i := 13) (d := some 94) rfl rfl (by kernel_rfl) (by kernel_rfl) (by kernel_rfl) (fun _ _ _ h => h) (by rfl) ?_
      try (simp only [Act.put]; try simp only [List.setIfInBounds_toArray]; try simp only [List.set_cons_zero, List.set_cons_succ])
      refine wpAnyL_pass (i := 14) (d := some 95) rfl rfl (by kernel_rfl) (by kernel_rfl) (by kernel_rfl) (fun _ _ _ h => h) (by rfl) ?_
      try (simp only [Act.put]; try simp only [List.setIfInBounds_toArray]; try simp only [List.set_cons_zero, List.set_cons_succ])
      refine wpAnyL_pass (i := 15) (d := some 96) rfl rfl (by kernel_rfl) (by kernel_rfl) (by kernel_rfl) (fun _ _ _ h => h) (by rfl) ?_
      try (simp only [Act.put]; try simp only [List.setIfInBounds_toArray]; try simp only [List.set_cons_zero, List.set_cons_succ])
      refine wpAnyL_pass (i := 16) (d := some 97) rfl rfl (by kernel_rfl) (by kernel_rfl) (by kernel_rfl) (fun _ _ _ h => h) (by rfl) ?_
      try (simp only [Act.put]; try simp only [List.setIfInBounds_toArray]; try simp only [List.set_cons_zero, List.set_cons_succ])
      refine wpAnyL_take (i := 17) (d := some 98) (v := ?vab17) rfl rfl (by kernel_rfl) (by kernel_rfl) (by kernel_rfl) (fun _ _ _ h => h) (by rfl) ?yab17 ?_
      case yab17 => (intro w' hw'; go_simp; try (with_reducible rfl))
      simp only [Act.put]; try simp only [List.setIfInBounds_toArray]; try simp only [List.set_cons_zero, List.set_cons_succ]
      refine wpAnyL_take (i := 18) (d := some 2) (v := ?vab18) rfl rfl (by kernel_rfl) (by kernel_rfl) (by kernel_rfl) (fun _ _ _ h => h) (by rfl) ?yab18 ?_
      case yab18 => (intro w' hw'; go_simp; try (with_reducible rfl))
      simp only [Act.put]; try simp only [List.setIfInBounds_toArray]; try simp only [List.set_cons_zero, List.set_cons_succ]
      refine wpAnyL_done (by kernel_rfl) ?_ _
      go_wp2
      go_ret
      exact ⟨rfl, LD.out⟩

  · obtain rfl : R = false := by rw [HR.out, decide_eq_false g1]; rfl
    have hb : (s.tr == 0) = false := by rw [beq_eq_false_iff_ne]; exact g1
    clear g1
    go_wp2_with (fail)
    have XD := hide (show SBox 36 g s w3.drew from X3.out)
    have LD := hide (L3.out.trans (Later.drew w3))
    have LD1 := hide (L13.out.trans (Later.drew w3))
    refine wp_region_L (by kernel_rfl) ?_
    refine wpAnyL_take (i := 0) (d := some 81) (v := ?vaa0) rfl rfl (by kernel_rfl) (by kernel_rfl) (by kernel_rfl) (fun _ _ _ h => h) (by rfl) ?yaa0 ?_
    case yaa0 => (intro w' hw'; go_simp; try (with_reducible rfl))
    simp only [Act.put]; try simp only [List.setIfInBounds_toArray]; try simp only [List.set_cons_zero, List.set_cons_succ]
    refine wpAnyL_take (i := 1) (d := some 82) (v := ?vaa1) rfl rfl (by kernel_rfl) (by kernel_rfl) (by kernel_rfl) (fun _ _ _ h => h) (by rfl) ?yaa1 ?_
    case yaa1 => (intro w' hw'; have c4 := (XD.out.below hw').c4; go_simp; try (with_reducible rfl))
    simp only [Act.put]; try simp only [List.setIfInBounds_toArray]; try simp only [List.set_cons_zero, List.set_cons_succ]
    refine wpAnyL_take (i := 2) (d := some 83) (v := ?vaa2) rfl rfl (by kernel_rfl) (by kernel_rfl) (by kernel_rfl) (fun _ _ _ h => h) (by rfl) ?yaa2 ?_
    case yaa2 => (intro w' hw'; go_simp; try (with_reducible rfl))
    simp only [Act.put]; try simp only [List.setIfInBounds_toArray]; try simp only [List.set_cons_zero, List.set_cons_succ]
    refine wpAnyL_take (i := 3) (d := some 84) (v := ?vaa3) rfl rfl (by kernel_rfl) (by kernel_rfl) (by kernel_rfl) (fun _ _ _ h => h) (by rfl) ?yaa3 ?_
    case yaa3 => (intro w' hw'; go_simp; try (with_reducible rfl))
    simp only [Act.put]; try simp only [List.setIfInBounds_toArray]; try simp only [List.set_cons_zero, List.set_cons_succ]
    refine wpAnyL_pass (i := 4) (d := some 85) rfl rfl (by kernel_rfl) (by kernel_rfl) (by kernel_rfl) (fun _ _ _ h => h) (by rfl) ?_
    try (simp only [Act.put]; try simp only [List.setIfInBounds_toArray]; try simp only [List.set_cons_zero, List.set_cons_succ])
    refine wpAnyL_pass (i := 5) (d := some 86) rfl rfl (by kernel_rfl) (by kernel_rfl) (by kernel_rfl) (fun _ _ _ h => h) (by rfl) ?_
    try (simp only [Act.put]; try simp only [List.setIfInBounds_toArray]; try simp only [List.set_cons_zero, List.set_cons_succ])
    refine wpAnyL_pass (i := 6) (d := some 87) rfl rfl (by kernel_rfl) (by kernel_rfl) (by kernel_rfl) (fun _ _ _ h => h) (by rfl) ?_
    try (simp only [Act.put]; try simp only [List.setIfInBounds_toArray]; try simp only [List.set_cons_zero, List.set_cons_succ])
    refine wpAnyL_take (i := 7) (d := some 88) (v := ?vaa7) rfl rfl (by kernel_rfl) (by kernel_rfl) (by kernel_rfl) (fun _ _ _ h => h) (by rfl) ?yaa7 ?_
    case yaa7 => (intro w' hw'; go_simp; try (with_reducible rfl))
    simp only [Act.put]; try simp only [List.setIfInBounds_toArray]; try simp only [List.set_cons_zero, List.set_cons_succ]
    refine wpAnyL_take (i := 8) (d := some 89) (v := ?vaa8) rfl rfl (by kernel_rfl) (by kernel_rfl) (by kernel_rfl) (fun _ _ _ h => h) (by rfl) ?yaa8 ?_
    case yaa8 => (intro w' hw'; go_simp; try (with_reducible rfl))
    simp only [Act.put]; try simp only [List.setIfInBounds_toArray]; try simp only [List.set_cons_zero, List.set_cons_succ]
    refine wpAnyL_pass (i := 9) (d := some 90) rfl rfl (by kernel_rfl) (by kernel_rfl) (by kernel_rfl) (fun _ _ _ h => h) (by rfl) ?_
    try (simp only [Act.put]; try simp only [List.setIfInBounds_toArray]; try simp only [List.set_cons_zero, List.set_cons_succ])
    refine wpAnyL_pass (i := 10) (d := some 91) rfl rfl (by kernel_rfl) (by kernel_rfl) (by kernel_rfl) (fun _ _ _ h => h) (by rfl) ?_
    try (simp only [Act.put]; try simp only [List.setIfInBounds_toArray]; try simp only [List.set_cons_zero, List.set_cons_succ])
    refine wpAnyL_pass (i := 11) (d := some 92) rfl rfl (by kernel_rfl) (by kernel_rfl) (by kernel_rfl) (fun _ _ _ h => h) (by rfl) ?_
    try (simp only [Act.put]; try simp only [List.setIfInBounds_toArray]; try simp only [List.set_cons_zero, List.set_cons_succ])
    refine wpAnyL_pass (i := 12) (d := some 93) rfl rfl (by kernel_rfl) (by kernel_rfl) (by kernel_rfl) (fun _ _ _ h => h) (by rfl) ?_
    try (simp only [Act.put]; try simp only [List.setIfInBounds_toArray]; try simp only [List.set_cons_zero, List.set_cons_succ])
    refine wpAnyL_pass (i := 13) (d := some 94) rfl rfl (by kernel_rfl) (by kernel_rfl) (by kernel_rfl) (fun _ _ _ h => h) (by rfl) ?_
    try (simp only [Act.put]; try simp only [List.setIfInBounds_toArray]; try simp only [List.set_cons_zero, List.set_cons_succ])
    refine wpAnyL_pass (i := 14) (d := some 95) rfl rfl (by kernel_rfl) (by kernel_rfl) (by kernel_rfl) (fun _ _ _ h => h) (by rfl) ?_
    try (simp only [Act.put]; try simp only [List.setIfInBounds_toArray]; try simp only [List.set_cons_zero, List.set_cons_succ])
    refine wpAnyL_pass (i := 15) (d := some 96) rfl rfl (by kernel_rfl) (by kernel_rfl) (by kernel_rfl) (fun _ _ _ h => h) (by rfl) ?_
    try (simp only [Act.put]; try simp only [List.setIfInBounds_toArray]; try simp only [List.set_cons_zero, List.set_cons_succ])
    refine wpAnyL_pass (i := 16) (d := some 97) rfl rfl (by kernel_rfl) (by kernel_rfl) (by kernel_rfl) (fun _ _ _ h => h) (by rfl) ?_
    try (simp only [Act.put]; try simp only [List.setIfInBounds_toArray]; try simp only [List.set_cons_zero, List.set_cons_succ])
    refine wpAnyL_take (i := 17) (d := some 98) (v := ?vaa17) rfl rfl (by kernel_rfl) (by kernel_rfl) (by kernel_rfl) (fun _ _ _ h => h) (by rfl) ?yaa17 ?_
    case yaa17 => (intro w' hw'; go_simp; try (with_reducible rfl))
    simp only [Act.put]; try simp only [List.setIfInBounds_toArray]; try simp only [List.set_cons_zero, List.set_cons_succ]
    refine wpAnyL_take (i := 18) (d := some 2) (v := ?vaa18) rfl rfl (by kernel_rfl) (by kernel_rfl) (by kernel_rfl) (fun _ _ _ h => h) (by rfl) ?yaa18 ?_
    case yaa18 => (intro w' hw'; go_simp; try (with_reducible rfl))
    simp only [Act.put]; try simp only [List.setIfInBounds_toArray]; try simp only [List.set_cons_zero, List.set_cons_succ]
    refine wpAnyL_done (by kernel_rfl) ?_ _
    go_wp2
    go_ret
    exact ⟨rfl, LD.out⟩

set_option maxHeartbeats 8000000 in
theorem good_gone {F : Nat → Prop} {s : SagaD} {l : List StepD} (h : StepsAt F w s.v l) (hw : ∀ x ∈ l, x.wf) (h1 : I64 s.step) (he : (checkF s.name l).2 = 0) (hst : s.st = 4) : Calls Tryz.prog 45 #[s.val] w (Gives (.bool (decide (s.tr = 0) && (decide (s.step = 0) && decide (s.hit = upH 0)))) w) := by
  obtain ⟨W1, hW1⟩ : ∃ W1, W1 = (w.alloc (.cells s.cells.toArray 36 (0, 0))) := ⟨_, rfl⟩
  obtain ⟨g, hg⟩ : ∃ g, g = w.heap.size := ⟨_, rfl⟩
  have X1 : Hid (SBox 36 g s W1) := by rw [hW1, hg]; exact heap_alloc_new _ _
  have L1 : Hid (Later w W1) := by rw [hW1]; exact (Below.refl _ _).alloc (Nat.le_refl _) _
  have HG0 : Hid (w.heap.size ≤ g) := Nat.le_of_eq hg.symm
  have CC : Hid (Calls Tryz.prog 75 #[.agg #[.string s.name, .slice s.p s.n s.c]] W1 fun e w' => e = .returned (.tuple #[.int .i64 (((checkF s.name l).1 : Nat) : Int), .int .i64 (((checkF s.name l).2 : Nat) : Int)]) ∧ Later W1 w') := check_any (StepsAt.kept h (Kept.of_below L1.out _))
  have C : Hid (∀ W, Later W1 W → Calls Tryz.prog 76 #[.agg #[.string s.name, .slice s.p s.n s.c], .int .i64 s.step] W fun e w' => e = .returned (.int .i64 (triesN l s.step)) ∧ Later W w') := fun W hW => Tries_any (StepsAt.kept h (Kept.of_below (L1.out.trans hW) _)) h1 hw
  have HS : Hid (∀ W, Later W1 W → StepsAt F W s.v l) := fun W hW => StepsAt.kept h (Kept.of_below (L1.out.trans hW) _)
  obtain ⟨k1, hk1⟩ : ∃ k1, (checkF s.name l).1 = k1 := ⟨_, rfl⟩
  obtain ⟨k2, hk2⟩ : ∃ k2, (checkF s.name l).2 = k2 := ⟨_, rfl⟩
  rw [hk1, hk2] at CC
  have HN := hide (steps_n h)
  have HW1 := hide hW1.symm
  have HG := hide hg.symm
  clear hW1 hg h hk1 h1 hw
  have e0 := X1.out.c0
  have e1 := X1.out.c1
  rw [← HW1.out, ← HG.out] at e0 e1
  obtain ⟨T, hT⟩ : ∃ T, triesN l s.step = T := ⟨_, rfl⟩
  rw [hT] at C
  obtain rfl : k2 = 0 := by rw [← hk2]; exact he
  have CU : Hid (∀ (W : World) (k : Int), k ≤ 8 → Calls Tryz.prog 78 #[.int .i64 k] W (Gives (upH k).val W)) := fun W k hk => upTo_any k hk
  obtain ⟨R, hR⟩ : ∃ R, (decide (s.tr = 0) && (decide (s.step = 0) && decide (s.hit = upH 0))) = R := ⟨_, rfl⟩
  rw [hR]
  have HR : Hid (R = (decide (s.tr = 0) && (decide (s.step = 0) && decide (s.hit = upH 0)))) := hR.symm
  have h8 : s.n ≤ 8 := by rw [HN.out]; exact (check_good he).1
  clear hR hT
  clear he hk2
  go_enter Tryz.func45, Tryz.ntmps45
  go_wp2_with (fail)
  simp only [HW1.out, HG.out]
  refine CC.out.mono ?_
  rintro e w2 ⟨rfl, hl⟩
  have L12 := hide hl
  have L2 := hide (L1.out.trans hl)
  have X2 := hide (X1.out.below hl)
  clear hl CC e0 e1
  have d0 := X2.out.c0
  have d1 := X2.out.c1
  have d3 := X2.out.c3
  go_wp2_with (fail)
  refine (C.out _ L12.out).mono ?_
  rintro e w3 ⟨rfl, hl⟩
  have L13 := hide (L12.out.trans hl)
  have L3 := hide (L2.out.trans hl)
  have X3 := hide (X2.out.below hl)
  clear hl C d0 d1 d3
  have c2 := X3.out.c2
  rw [hst] at c2
  clear hst
  by_cases g1 : s.tr = 0
  · have HT0 := hide g1
    by_cases g2 : s.step = 0
    · have HS0 := hide g2
      obtain rfl : R = decide (s.hit = upH 0) := by rw [HR.out, decide_eq_true g1, decide_eq_true g2]; rfl
      clear g1 g2
      go_wp2_with (fail)
      have XD := hide (show SBox 36 g s w3.drew from X3.out)
      have LD := hide (L3.out.trans (Later.drew w3))
      have LD1 := hide (L13.out.trans (Later.drew w3))
      refine wp_region_L (by kernel_rfl) ?_
      refine wpAnyL_take (i := 0) (d := some 101) (v := ?vac0) rfl rfl (by kernel_rfl) (by kernel_rfl) (by kernel_rfl) (fun _ _ _ h => h) (by rfl) ?yac0 ?_
      case yac0 => (intro w' hw'; go_simp; try (with_reducible rfl))
      simp only [Act.put]; try simp only [List.setIfInBounds_toArray]; try simp only [List.set_cons_zero, List.set_cons_succ]
      refine wpAnyL_take (i := 1) (d := some 102) (v := ?vac1) rfl rfl (by kernel_rfl) (by kernel_rfl) (by kernel_rfl) (fun _ _ _ h => h) (by rfl) ?yac1 ?_
      case yac1 => (intro w' hw'; have c4 := (XD.out.below hw').c4; rw [HT0.out] at c4; go_simp; try (with_reducible rfl))
      simp only [Act.put]; try simp only [List.setIfInBounds_toArray]; try simp only [List.set_cons_zero, List.set_cons_succ]
      refine wpAnyL_take (i := 2) (d := some 103) (v := ?vac2) rfl rfl (by kernel_rfl) (by kernel_rfl) (by kernel_rfl) (fun _ _ _ h => h) (by rfl) ?yac2 ?_
      case yac2 => (intro w' hw'; go_simp; try (with_reducible rfl))
      simp only [Act.put]; try simp only [List.setIfInBounds_toArray]; try simp only [List.set_cons_zero, List.set_cons_succ]
      refine wpAnyL_take (i := 3) (d := some 104) (v := ?vac3) rfl rfl (by kernel_rfl) (by kernel_rfl) (by kernel_rfl) (fun _ _ _ h => h) (by rfl) ?yac3 ?_
      case yac3 => (intro w' hw'; go_simp; try (with_reducible rfl))
      simp only [Act.put]; try simp only [List.setIfInBounds_toArray]; try simp only [List.set_cons_zero, List.set_cons_succ]
      refine wpAnyL_take (i := 4) (d := some 105) (v := ?vac4) rfl rfl (by kernel_rfl) (by kernel_rfl) (by kernel_rfl) (fun _ _ _ h => h) (by rfl) ?yac4 ?_
      case yac4 => (intro w' hw'; go_simp; try (with_reducible rfl))
      simp only [Act.put]; try simp only [List.setIfInBounds_toArray]; try simp only [List.set_cons_zero, List.set_cons_succ]
      refine wpAnyL_take (i := 5) (d := some 106) (v := ?vac5) rfl rfl (by kernel_rfl) (by kernel_rfl) (by kernel_rfl) (fun _ _ _ h => h) (by rfl) ?yac5 ?_
      case yac5 => (intro w' hw'; have c3 := (XD.out.below hw').c3; rw [HS0.out] at c3; go_simp; try (with_reducible rfl))
      simp only [Act.put]; try simp only [List.setIfInBounds_toArray]; try simp only [List.set_cons_zero, List.set_cons_succ]
      refine wpAnyL_take (i := 6) (d := some 107) (v := ?vac6) rfl rfl (by kernel_rfl) (by kernel_rfl) (by kernel_rfl) (fun _ _ _ h => h) (by rfl) ?yac6 ?_
      case yac6 => (intro w' hw'; go_simp; try (with_reducible rfl))
      simp only [Act.put]; try simp only [List.setIfInBounds_toArray]; try simp only [List.set_cons_zero, List.set_cons_succ]
      refine wpAnyL_take (i := 7) (d := some 108) (v := ?vac7) rfl rfl (by kernel_rfl) (by kernel_rfl) (by kernel_rfl) (fun _ _ _ h => h) (by rfl) ?yac7 ?_
      case yac7 => (intro w' hw'; go_simp; try (with_reducible rfl))
      simp only [Act.put]; try simp only [List.setIfInBounds_toArray]; try simp only [List.set_cons_zero, List.set_cons_succ]
      refine wpAnyL_take (i := 8) (d := some 109) (v := ?vac8) rfl rfl (by kernel_rfl) (by kernel_rfl) (by kernel_rfl) (fun _ _ _ h => h) (by rfl) ?yac8 ?_
      case yac8 => (intro w' hw'; go_simp; try (with_reducible rfl))
      simp only [Act.put]; try simp only [List.setIfInBounds_toArray]; try simp only [List.set_cons_zero, List.set_cons_succ]
      refine wpAnyL_take (i := 9) (d := some 110) (v := ?vac9) rfl rfl (by kernel_rfl) (by kernel_rfl) (by kernel_rfl) (fun _ _ _ h => h) (by rfl) ?yac9 ?_
      case yac9 => (intro w' hw'; go_simp; try (with_reducible rfl))
      simp only [Act.put]; try simp only [List.setIfInBounds_toArray]; try simp only [List.set_cons_zero, List.set_cons_succ]
      refine wpAnyL_take (i := 10) (d := some 111) (v := s.hit.val) rfl rfl (by kernel_rfl) (by kernel_rfl) (by kernel_rfl) (fun _ _ _ h => h) (by rfl) ?yac10 ?_
      case yac10 => (intro w' hw'; exact exec_load_hits _ (by rfl) (by rfl) (XD.out.below hw'))
      simp only [Act.put]; try simp only [List.setIfInBounds_toArray]; try simp only [List.set_cons_zero, List.set_cons_succ]
      refine wpAnyL_only (i := 11) rfl (by kernel_rfl) (by rfl) fun K hK => ?_
      go_simp
      refine (CU.out _ (0) (by omega)).mono ?_
      rintro e w_11 ⟨rfl, hl_⟩
      have L11 := hide (LD.out.trans hl_)
      have L111 := hide (LD1.out.trans hl_)
      have L311 := hide ((Later.drew w3).trans hl_)
      have X11 := hide (XD.out.below hl_)
      refine hK.out _ _ hl_ ?_
      clear hl_
      clear hK K
      try (simp only [Act.put]; try simp only [List.setIfInBounds_toArray]; try simp only [List.set_cons_zero, List.set_cons_succ])
      refine wpAnyL_take (i := 12) (d := some 113) (v := .bool (decide (s.hit = upH (0)))) rfl rfl (by kernel_rfl) (by kernel_rfl) (by kernel_rfl) (fun _ _ _ h => h) (by rfl) ?yac12 ?_
      case yac12 => (intro w' hw'; exact exec_eql_hits s.hit (upH (0)) _ _ _ (by rfl) (by rfl) (by rfl))
      simp only [Act.put]; try simp only [List.setIfInBounds_toArray]; try simp only [List.set_cons_zero, List.set_cons_succ]
      refine wpAnyL_take (i := 13) (d := some 114) (v := ?vac13) rfl rfl (by kernel_rfl) (by kernel_rfl) (by kernel_rfl) (fun _ _ _ h => h) (by rfl) ?yac13 ?_
      case yac13 => (intro w' hw'; go_simp; try (with_reducible rfl))
      simp only [Act.put]; try simp only [List.setIfInBounds_toArray]; try simp only [List.set_cons_zero, List.set_cons_succ]
      refine wpAnyL_take (i := 14) (d := some 2) (v := ?vac14) rfl rfl (by kernel_rfl) (by kernel_rfl) (by kernel_rfl) (fun _ _ _ h => h) (by rfl) ?yac14 ?_
      case yac14 => (intro w' hw'; go_simp; try (with_reducible rfl))
      simp only [Act.put]; try simp only [List.setIfInBounds_toArray]; try simp only [List.set_cons_zero, List.set_cons_succ]
      refine wpAnyL_done (by kernel_rfl) ?_ _
      go_wp2
      go_ret
      exact ⟨rfl, L11.out⟩

    · obtain rfl : R = false := by rw [HR.out, decide_eq_true g1, decide_eq_false g2]; rfl
      have hb : (s.step == 0) = false := by rw [beq_eq_false_iff_ne]; exact g2
      clear g1 g2
      go_wp2_with (fail)
      have XD := hide (show SBox 36 g s w3.drew from X3.out)
      have LD := hide (L3.out.trans (Later.drew w3))
      have LD1 := hide (L13.out.trans (Later.drew w3))
      refine wp_region_L (by kernel_rfl) ?_
      refine wpAnyL_take (i := 0) (d := some 101) (v := ?vab0) rfl rfl (by kernel_rfl) (by kernel_rfl) (by kernel_rfl) (fun _ _ _ h => h) (by rfl) ?yab0 ?_
      case yab0 => (intro w' hw'; go_simp; try (with_reducible rfl))
      simp only [Act.put]; try simp only [List.setIfInBounds_toArray]; try simp only [List.set_cons_zero, List.set_cons_succ]
      refine wpAnyL_take (i := 1) (d := some 102) (v := ?vab1) rfl rfl (by kernel_rfl) (by kernel_rfl) (by kernel_rfl) (fun _ _ _ h => h) (by rfl) ?yab1 ?_
      case yab1 => (intro w' hw'; have c4 := (XD.out.below hw').c4; rw [HT0.out] at c4; go_simp; try (with_reducible rfl))
      simp only [Act.put]; try simp only [List.setIfInBounds_toArray]; try simp only [List.set_cons_zero, List.set_cons_succ]
      refine wpAnyL_take (i := 2) (d := some 103) (v := ?vab2) rfl rfl (by kernel_rfl) (by kernel_rfl) (by kernel_rfl) (fun _ _ _ h => h) (by rfl) ?yab2 ?_
      case yab2 => (intro w' hw'; go_simp; try (with_reducible rfl))
      simp only [Act.put]; try simp only [List.setIfInBounds_toArray]; try simp only [List.set_cons_zero, List.set_cons_succ]
      refine wpAnyL_take (i := 3) (d := some 104) (v := ?vab3) rfl rfl (by kernel_rfl) (by kernel_rfl) (by kernel_rfl) (fun _ _ _ h => h) (by rfl) ?yab3 ?_
      case yab3 => (intro w' hw'; go_simp; try (with_reducible rfl))
      simp only [Act.put]; try simp only [List.setIfInBounds_toArray]; try simp only [List.set_cons_zero, List.set_cons_succ]
      refine wpAnyL_take (i := 4) (d := some 105) (v := ?vab4) rfl rfl (by kernel_rfl) (by kernel_rfl) (by kernel_rfl) (fun _ _ _ h => h) (by rfl) ?yab4 ?_
      case yab4 => (intro w' hw'; go_simp; try (with_reducible rfl))
      simp only [Act.put]; try simp only [List.setIfInBounds_toArray]; try simp only [List.set_cons_zero, List.set_cons_succ]
      refine wpAnyL_take (i := 5) (d := some 106) (v := ?vab5) rfl rfl (by kernel_rfl) (by kernel_rfl) (by kernel_rfl) (fun _ _ _ h => h) (by rfl) ?yab5 ?_
      case yab5 => (intro w' hw'; have c3 := (XD.out.below hw').c3; go_simp; try (with_reducible rfl))
      simp only [Act.put]; try simp only [List.setIfInBounds_toArray]; try simp only [List.set_cons_zero, List.set_cons_succ]
      refine wpAnyL_take (i := 6) (d := some 107) (v := ?vab6) rfl rfl (by kernel_rfl) (by kernel_rfl) (by kernel_rfl) (fun _ _ _ h => h) (by rfl) ?yab6 ?_
      case yab6 => (intro w' hw'; go_simp; try (with_reducible rfl))
      simp only [Act.put]; try simp only [List.setIfInBounds_toArray]; try simp only [List.set_cons_zero, List.set_cons_succ]
      refine wpAnyL_take (i := 7) (d := some 108) (v := ?vab7) rfl rfl (by kernel_rfl) (by kernel_rfl) (by kernel_rfl) (fun _ _ _ h => h) (by rfl) ?yab7 ?_
      case yab7 => (intro w' hw'; go_simp; try (with_reducible rfl))
      simp only [Act.put]; try simp only [List.setIfInBounds_toArray]; try simp only [List.set_cons_zero, List.set_cons_succ]
      refine wpAnyL_take (i := 8) (d := some 109) (v := ?vab8) rfl rfl (by kernel_rfl) (by kernel_rfl) (by kernel_rfl) (fun _ _ _ h => h) (by rfl) ?yab8 ?_
      case yab8 => (intro w' hw'; go_simp; try (with_reducible rfl))
      simp only [Act.put]; try simp only [List.setIfInBounds_toArray]; try simp only [List.set_cons_zero, List.set_cons_succ]
      refine wpAnyL_pass (i := 9) (d := some 110) rfl rfl (by kernel_rfl) (by kernel_rfl) (by kernel_rfl) (fun _ _ _ h => h) (by rfl) ?_
      try (simp only [Act.put]; try simp only [List.setIfInBounds_toArray]; try simp only [List.set_cons_zero, List.set_cons_succ])
      refine wpAnyL_pass (i := 10) (d := some 111) rfl rfl (by kernel_rfl) (by kernel_rfl) (by kernel_rfl) (fun _ _ _ h => h) (by rfl) ?_
      try (simp only [Act.put]; try simp only [List.setIfInBounds_toArray]; try simp only [List.set_cons_zero, List.set_cons_succ])
      refine wpAnyL_pass (i := 11) (d := some 112) rfl rfl (by kernel_rfl) (by kernel_rfl) (by kernel_rfl) (fun _ _ _ h => h) (by rfl) ?_
      try (simp only [Act.put]; try simp only [List.setIfInBounds_toArray]; try simp only [List.set_cons_zero, List.set_cons_succ])
      refine wpAnyL_pass (i := 12) (d := some 113) rfl rfl (by kernel_rfl) (by kernel_rfl) (by kernel_rfl) (fun _ _ _ h => h) (by rfl) ?_
      try (simp only [Act.put]; try simp only [List.setIfInBounds_toArray]; try simp only [List.set_cons_zero, List.set_cons_succ])
      refine wpAnyL_take (i := 13) (d := some 114) (v := ?vab13) rfl rfl (by kernel_rfl) (by kernel_rfl) (by kernel_rfl) (fun _ _ _ h => h) (by rfl) ?yab13 ?_
      case yab13 => (intro w' hw'; go_simp; try (with_reducible rfl))
      simp only [Act.put]; try simp only [List.setIfInBounds_toArray]; try simp only [List.set_cons_zero, List.set_cons_succ]
      refine wpAnyL_take (i := 14) (d := some 2) (v := ?vab14) rfl rfl (by kernel_rfl) (by kernel_rfl) (by kernel_rfl) (fun _ _ _ h => h) (by rfl) ?yab14 ?_
      case yab14 => (intro w' hw'; go_simp; try (with_reducible rfl))
      simp only [Act.put]; try simp only [List.setIfInBounds_toArray]; try simp only [List.set_cons_zero, List.set_cons_succ]
      refine wpAnyL_done (by kernel_rfl) ?_ _
      go_wp2
      go_ret
      exact ⟨rfl, LD.out⟩

  · obtain rfl : R = false := by rw [HR.out, decide_eq_false g1]; rfl
    have hb : (s.tr == 0) = false := by rw [beq_eq_false_iff_ne]; exact g1
    clear g1
    go_wp2_with (fail)
    have XD := hide (show SBox 36 g s w3.drew from X3.out)
    have LD := hide (L3.out.trans (Later.drew w3))
    have LD1 := hide (L13.out.trans (Later.drew w3))
    refine wp_region_L (by kernel_rfl) ?_
    refine wpAnyL_take (i := 0) (d := some 101) (v := ?vaa0) rfl rfl (by kernel_rfl) (by kernel_rfl) (by kernel_rfl) (fun _ _ _ h => h) (by rfl) ?yaa0 ?_
    case yaa0 => (intro w' hw'; go_simp; try (with_reducible rfl))
    simp only [Act.put]; try simp only [List.setIfInBounds_toArray]; try simp only [List.set_cons_zero, List.set_cons_succ]
    refine wpAnyL_take (i := 1) (d := some 102) (v := ?vaa1) rfl rfl (by kernel_rfl) (by kernel_rfl) (by kernel_rfl) (fun _ _ _ h => h) (by rfl) ?yaa1 ?_
    case yaa1 => (intro w' hw'; have c4 := (XD.out.below hw').c4; go_simp; try (with_reducible rfl))
    simp only [Act.put]; try simp only [List.setIfInBounds_toArray]; try simp only [List.set_cons_zero, List.set_cons_succ]
    refine wpAnyL_take (i := 2) (d := some 103) (v := ?vaa2) rfl rfl (by kernel_rfl) (by kernel_rfl) (by kernel_rfl) (fun _ _ _ h => h) (by rfl) ?yaa2 ?_
    case yaa2 => (intro w' hw'; go_simp; try (with_reducible rfl))
    simp only [Act.put]; try simp only [List.setIfInBounds_toArray]; try simp only [List.set_cons_zero, List.set_cons_succ]
    refine wpAnyL_take (i := 3) (d := some 104) (v := ?vaa3) rfl rfl (by kernel_rfl) (by kernel_rfl) (by kernel_rfl) (fun _ _ _ h => h) (by rfl) ?yaa3 ?_
    case yaa3 => (intro w' hw'; go_simp; try (with_reducible rfl))
    simp only [Act.put]; try simp only [List.setIfInBounds_toArray]; try simp only [List.set_cons_zero, List.set_cons_succ]
    refine wpAnyL_pass (i := 4) (d := some 105) rfl rfl (by kernel_rfl) (by kernel_rfl) (by kernel_rfl) (fun _ _ _ h => h) (by rfl) ?_
    try (simp only [Act.put]; try simp only [List.setIfInBounds_toArray]; try simp only [List.set_cons_zero, List.set_cons_succ])
    refine wpAnyL_pass (i := 5) (d := some 106) rfl rfl (by kernel_rfl) (by kernel_rfl) (by kernel_rfl) (fun _ _ _ h => h) (by rfl) ?_
    try (simp only [Act.put]; try simp only [List.setIfInBounds_toArray]; try simp only [List.set_cons_zero, List.set_cons_succ])
    refine wpAnyL_pass (i := 6) (d := some 107) rfl rfl (by kernel_rfl) (by kernel_rfl) (by kernel_rfl) (fun _ _ _ h => h) (by rfl) ?_
    try (simp only [Act.put]; try simp only [List.setIfInBounds_toArray]; try simp only [List.set_cons_zero, List.set_cons_succ])
    refine wpAnyL_take (i := 7) (d := some 108) (v := ?vaa7) rfl rfl (by kernel_rfl) (by kernel_rfl) (by kernel_rfl) (fun _ _ _ h => h) (by rfl) ?yaa7 ?_
    case yaa7 => (intro w' hw'; go_simp; try (with_reducible rfl))
    simp only [Act.put]; try simp only [List.setIfInBounds_toArray]; try simp only [List.set_cons_zero, List.set_cons_succ]
    refine wpAnyL_take (i := 8) (d := some 109) (v := ?vaa8) rfl rfl (by kernel_rfl) (by kernel_rfl) (by kernel_rfl) (fun _ _ _ h => h) (by rfl) ?yaa8 ?_
    case yaa8 => (intro w' hw'; go_simp; try (with_reducible rfl))
    simp only [Act.put]; try simp only [List.setIfInBounds_toArray]; try simp only [List.set_cons_zero, List.set_cons_succ]
    refine wpAnyL_pass (i := 9) (d := some 110) rfl rfl (by kernel_rfl) (by kernel_rfl) (by kernel_rfl) (fun _ _ _ h => h) (by rfl) ?_
    try (simp only [Act.put]; try simp only [List.setIfInBounds_toArray]; try simp only [List.set_cons_zero, List.set_cons_succ])
    refine wpAnyL_pass (i := 10) (d := some 111) rfl rfl (by kernel_rfl) (by kernel_rfl) (by kernel_rfl) (fun _ _ _ h => h) (by rfl) ?_
    try (simp only [Act.put]; try simp only [List.setIfInBounds_toArray]; try simp only [List.set_cons_zero, List.set_cons_succ])
    refine wpAnyL_pass (i := 11) (d := some 112) rfl rfl (by kernel_rfl) (by kernel_rfl) (by kernel_rfl) (fun _ _ _ h => h) (by rfl) ?_
    try (simp only [Act.put]; try simp only [List.setIfInBounds_toArray]; try simp only [List.set_cons_zero, List.set_cons_succ])
    refine wpAnyL_pass (i := 12) (d := some 113) rfl rfl (by kernel_rfl) (by kernel_rfl) (by kernel_rfl) (fun _ _ _ h => h) (by rfl) ?_
    try (simp only [Act.put]; try simp only [List.setIfInBounds_toArray]; try simp only [List.set_cons_zero, List.set_cons_succ])
    refine wpAnyL_take (i := 13) (d := some 114) (v := ?vaa13) rfl rfl (by kernel_rfl) (by kernel_rfl) (by kernel_rfl) (fun _ _ _ h => h) (by rfl) ?yaa13 ?_
    case yaa13 => (intro w' hw'; go_simp; try (with_reducible rfl))
    simp only [Act.put]; try simp only [List.setIfInBounds_toArray]; try simp only [List.set_cons_zero, List.set_cons_succ]
    refine wpAnyL_take (i := 14) (d := some 2) (v := ?vaa14) rfl rfl (by kernel_rfl) (by kernel_rfl) (by kernel_rfl) (fun _ _ _ h => h) (by rfl) ?yaa14 ?_
    case yaa14 => (intro w' hw'; go_simp; try (with_reducible rfl))
    simp only [Act.put]; try simp only [List.setIfInBounds_toArray]; try simp only [List.set_cons_zero, List.set_cons_succ]
    refine wpAnyL_done (by kernel_rfl) ?_ _
    go_wp2
    go_ret
    exact ⟨rfl, LD.out⟩

set_option maxHeartbeats 8000000 in
theorem good_other {F : Nat → Prop} {s : SagaD} {l : List StepD} (h : StepsAt F w s.v l) (hw : ∀ x ∈ l, x.wf) (h1 : I64 s.step) (he : (checkF s.name l).2 = 0) (n1 : s.st ≠ 1) (n2 : s.st ≠ 2) (n3 : s.st ≠ 3) (n4 : s.st ≠ 4) (n5 : s.st ≠ 5) : Calls Tryz.prog 45 #[s.val] w (Gives (.bool false) w) := by
  obtain ⟨W1, hW1⟩ : ∃ W1, W1 = (w.alloc (.cells s.cells.toArray 36 (0, 0))) := ⟨_, rfl⟩
  obtain ⟨g, hg⟩ : ∃ g, g = w.heap.size := ⟨_, rfl⟩
  have X1 : Hid (SBox 36 g s W1) := by rw [hW1, hg]; exact heap_alloc_new _ _
  have L1 : Hid (Later w W1) := by rw [hW1]; exact (Below.refl _ _).alloc (Nat.le_refl _) _
  have HG0 : Hid (w.heap.size ≤ g) := Nat.le_of_eq hg.symm
  have CC : Hid (Calls Tryz.prog 75 #[.agg #[.string s.name, .slice s.p s.n s.c]] W1 fun e w' => e = .returned (.tuple #[.int .i64 (((checkF s.name l).1 : Nat) : Int), .int .i64 (((checkF s.name l).2 : Nat) : Int)]) ∧ Later W1 w') := check_any (StepsAt.kept h (Kept.of_below L1.out _))
  have C : Hid (∀ W, Later W1 W → Calls Tryz.prog 76 #[.agg #[.string s.name, .slice s.p s.n s.c], .int .i64 s.step] W fun e w' => e = .returned (.int .i64 (triesN l s.step)) ∧ Later W w') := fun W hW => Tries_any (StepsAt.kept h (Kept.of_below (L1.out.trans hW) _)) h1 hw
  have HS : Hid (∀ W, Later W1 W → StepsAt F W s.v l) := fun W hW => StepsAt.kept h (Kept.of_below (L1.out.trans hW) _)
  obtain ⟨k1, hk1⟩ : ∃ k1, (checkF s.name l).1 = k1 := ⟨_, rfl⟩
  obtain ⟨k2, hk2⟩ : ∃ k2, (checkF s.name l).2 = k2 := ⟨_, rfl⟩
  rw [hk1, hk2] at CC
  have HN := hide (steps_n h)
  have HW1 := hide hW1.symm
  have HG := hide hg.symm
  clear hW1 hg h hk1 h1 hw
  have e0 := X1.out.c0
  have e1 := X1.out.c1
  rw [← HW1.out, ← HG.out] at e0 e1
  obtain ⟨T, hT⟩ : ∃ T, triesN l s.step = T := ⟨_, rfl⟩
  rw [hT] at C
  obtain rfl : k2 = 0 := by rw [← hk2]; exact he
  clear he hk2
  go_enter Tryz.func45, Tryz.ntmps45
  go_wp2_with (fail)
  simp only [HW1.out, HG.out]
  refine CC.out.mono ?_
  rintro e w2 ⟨rfl, hl⟩
  have L12 := hide hl
  have L2 := hide (L1.out.trans hl)
  have X2 := hide (X1.out.below hl)
  clear hl CC e0 e1
  have d0 := X2.out.c0
  have d1 := X2.out.c1
  have d3 := X2.out.c3
  go_wp2_with (fail)
  refine (C.out _ L12.out).mono ?_
  rintro e w3 ⟨rfl, hl⟩
  have L13 := hide (L12.out.trans hl)
  have L3 := hide (L2.out.trans hl)
  have X3 := hide (X2.out.below hl)
  clear hl C d0 d1 d3
  have c2 := X3.out.c2
  have b1 : (s.st == 1) = false := by rw [beq_eq_false_iff_ne]; exact n1
  have b2 : (s.st == 2) = false := by rw [beq_eq_false_iff_ne]; exact n2
  have b3 : (s.st == 3) = false := by rw [beq_eq_false_iff_ne]; exact n3
  have b4 : (s.st == 4) = false := by rw [beq_eq_false_iff_ne]; exact n4
  have b5 : (s.st == 5) = false := by rw [beq_eq_false_iff_ne]; exact n5
  clear n1 n2 n3 n4 n5
  go_wp2
  go_ret
  exact ⟨rfl, L3.out⟩
theorem good_any {F : Nat → Prop} {s : SagaD} {l : List StepD} (h : StepsAt F w s.v l) (hw : ∀ x ∈ l, x.wf) (h1 : I64 s.step) : Calls Tryz.prog 45 #[s.val] w (Gives (.bool (goodF l s)) w) := by
  unfold goodF
  by_cases he : (checkF s.name l).2 = 0
  · rw [if_neg (by rw [he]; decide)]
    by_cases n1 : s.st = 1
    · rw [if_pos n1]; exact good_run h hw h1 he n1
    · rw [if_neg n1]
      by_cases n2 : s.st = 2
      · rw [if_pos n2]; exact good_undo h hw h1 he n2
      · rw [if_neg n2]
        by_cases n5 : s.st = 5
        · rw [if_pos n5]; exact good_stuck h hw h1 he n5
        · rw [if_neg n5]
          by_cases n3 : s.st = 3
          · rw [if_pos n3, ← steps_n h]; exact good_done h hw h1 he n3
          · rw [if_neg n3]
            by_cases n4 : s.st = 4
            · rw [if_pos n4]; exact good_gone h hw h1 he n4
            · rw [if_neg n4]; exact good_other h hw h1 he n1 n2 n3 n4 n5
  · rw [if_pos he]; exact good_err h hw h1 he
end
end Go.Proofs.YtpckdhjnhnonhaaGreat
/- What a saga wants. -/
namespace Go.Proofs.YtpckdhjnhnonhaaGreat
open Go.RowKit
def CmdD.zero : CmdD := ⟨0, 0, 0, false⟩
def CBox (g : Nat) (c : CmdD) (w : World) : Prop := w.heap[g]? = some (.cells c.cells.toArray 62 (0, 0))
theorem CmdD.one (s : CmdD) : ∀ u ∈ s.cells, u.oneCell' = true := by
  intro u hu
  simp only [CmdD.cells, List.mem_cons, List.not_mem_nil, or_false] at hu
  rcases hu with rfl | rfl | rfl | rfl | rfl | rfl <;> rfl
theorem cmd_put (x y : CmdD) : putAt x.cells.toArray 0 y.cells = y.cells.toArray := by simp [putAt, CmdD.cells]
section
variable {w w' : World} {g : Nat} {c z : CmdD}
theorem CBox.lt (h : CBox g c w) : g < w.heap.size := lt_of_block h
theorem CBox.below (h : CBox g c w) (hl : Later w w') : CBox g c w' := (Below.block hl g (lt_of_block h)).trans h
theorem CBox.cells (h : CBox g c w) : w.cell? ⟨g, 0, none⟩ = some (.int .i64 0) ∧ w.cell? ⟨g, 1, none⟩ = some (.int .i64 c.stub) ∧ w.cell? ⟨g, 2, none⟩ = some (.int .i64 0) ∧ w.cell? ⟨g, 3, none⟩ = some (.int .i64 c.step) ∧ w.cell? ⟨g, 4, none⟩ = some (.int .i64 c.tr) ∧ w.cell? ⟨g, 5, none⟩ = some (.bool c.back) ∧ ∀ i, w.frozen? ⟨g, i, none⟩ = false :=
  ⟨(cell_of_row w g 0 _ _ _ h).trans rfl, (cell_of_row w g 1 _ _ _ h).trans rfl, (cell_of_row w g 2 _ _ _ h).trans rfl, (cell_of_row w g 3 _ _ _ h).trans rfl, (cell_of_row w g 4 _ _ _ h).trans rfl, (cell_of_row w g 5 _ _ _ h).trans rfl, fun i => frozen_of_row w g i _ _ h⟩
variable {ops : Array Oper} {rest : List Oper} {op : Oper} {a : Act} {Q : Exit → Act → World → Prop}
theorem wpList_store_cmd (hgd : op.guard = none) (x y : Operand) (ho : op.op = .store 62 x y) (hx : a.eval x = .pointer (some ⟨g, 0, none⟩)) (hg : CBox g z w) (hy : a.eval y = c.val)
    (h : ∀ w', CBox g c w' → w.grownBy w' (some g) → wpList Tryz.prog ops Q rest (a.put op.dst undef) w') : wpList Tryz.prog ops Q (op :: rest) a w :=
  wpList_store_box hgd 62 x y ho g 0 c.cells.toArray hx hy 62 _ hg (by kernel_rfl) (by exact Nat.le_of_ble_eq_true rfl) (by exact c.one) (fun w' hb hg' => h w' (by rw [show c.cells.toArray.toList = c.cells from rfl, cmd_put] at hb; exact hb) hg')
end
/-- The results of a function: a struct in a block of its own, and two plain ones. -/
theorem results_box3 {P : Program} {fn : Func} {p q r : Tmp} {ty : TypeId} (h : fn.results = #[.cell p ty, .tmp q, .tmp r]) (tmps : Array Value) (w : World) (g : Nat) (T : TypeId) (cs : Array Value) (d : TypeDesc)
    (hp : tmps.getD p undef = .pointer (some ⟨g, 0, none⟩)) (hg : w.heap[g]? = some (.cells cs T (0, 0)))
    (hu : P.underlying ty = some d) (hd : (match d with | .struct _ | .array _ _ => true | _ => false) = true) (hi : (P.info? ty).map (·.size) = some cs.size) (v : Value) (hv : tmps.getD q undef = v) (u : Value) (huv : tmps.getD r undef = u) :
    (results fn tmps).run P w = .ok (.tuple #[.agg cs, v, u]) w := by
  have hp' : tmps[p]?.getD undef = .pointer (some ⟨g, 0, none⟩) := by simpa using hp
  have hv' : tmps[q]?.getD undef = v := by simpa using hv
  have hu' : tmps[r]?.getD undef = u := by simpa using huv
  simp [results, h, hp', hv', hu', asAddr, run_loadVar_row w g T ty cs (0, 0) d hg hu hd hi]
theorem wants_parts {l : List StepD} {s : SagaD} (h : wantsB l s = true) : (checkF s.name l).2 = 0 ∧ 1 ≤ s.step ∧ s.step ≤ (l.length : Int) ∧ s.step ≤ 8 ∧ 1 ≤ s.tr ∧ s.tr ≤ triesN l s.step ∧ (s.st = 1 ∨ s.st = 2) ∧ goodF l s = true := by
  unfold wantsB at h
  rw [Bool.and_eq_true] at h
  obtain ⟨hg, hs⟩ := h
  have hs2 : s.st = 1 ∨ s.st = 2 := by simpa using hs
  have hg0 := hg
  unfold goodF at hg
  by_cases he : (checkF s.name l).2 = 0
  · rw [if_neg (by rw [he]; decide)] at hg
    have h8 := (check_good he).1
    rcases hs2 with h1 | h1
    · rw [if_pos h1] at hg
      simp only [Bool.and_eq_true, decide_eq_true_eq] at hg
      have := tries_pos (l := l) (k := s.step) (by omega)
      exact ⟨he, this.1, this.2, by omega, hg.1, hg.2.1, .inl h1, hg0⟩
    · rw [if_neg (by omega), if_pos h1] at hg
      simp only [Bool.and_eq_true, decide_eq_true_eq] at hg
      have := tries_pos (l := l) (k := s.step) (by omega)
      exact ⟨he, this.1, this.2, by omega, hg.1, hg.2.1, .inr h1, hg0⟩
  · rw [if_pos he] at hg; cases hg
/-- A command's six cells are written one by one. -/
theorem cmd_wrote {W : World} {b : Nat} {z : CmdD} (s t r : Int) (d : Bool) (h : CBox b z W) : CBox b ⟨s, t, r, d⟩ ((((((W.setCell ⟨b, 0, none⟩ (.int .i64 0)).setCell ⟨b, 1, none⟩ (.int .i64 s)).setCell ⟨b, 2, none⟩ (.int .i64 0)).setCell ⟨b, 3, none⟩ (.int .i64 t)).setCell ⟨b, 4, none⟩ (.int .i64 r)).setCell ⟨b, 5, none⟩ (.bool d)) ∧ W.grownBy ((((((W.setCell ⟨b, 0, none⟩ (.int .i64 0)).setCell ⟨b, 1, none⟩ (.int .i64 s)).setCell ⟨b, 2, none⟩ (.int .i64 0)).setCell ⟨b, 3, none⟩ (.int .i64 t)).setCell ⟨b, 4, none⟩ (.int .i64 r)).setCell ⟨b, 5, none⟩ (.bool d)) (some b) := by
  have h6 := heap_setCells b (CmdD.cells ⟨s, t, r, d⟩) 0 W _ h
  rw [cmd_put] at h6
  exact ⟨h6, grown_setCells b (CmdD.cells ⟨s, t, r, d⟩) 0 W⟩
/-- What Wants says. -/
def Wanted (l : List StepD) (s : SagaD) (w : World) (e : Ending) (w' : World) : Prop := e = .returned (.tuple #[(wantsC l s).val, .int .i64 (wantsW l s), .bool (wantsB l s)]) ∧ Later w w'
section
variable {w : World}
set_option maxHeartbeats 4000000 in
theorem wants_no {F : Nat → Prop} {s : SagaD} {l : List StepD} (h : StepsAt F w s.v l) (hw : ∀ x ∈ l, x.wf) (h1 : I64 s.step) (hq : wantsB l s = false) : Calls Tryz.prog 87 #[s.val] w (Wanted l s w) := by
  obtain ⟨W1, hW1⟩ : ∃ W1, W1 = (w.alloc (.cells s.cells.toArray 36 (0, 0))).alloc (.cells #[.int .i64 0, .int .i64 0, .int .i64 0, .int .i64 0, .int .i64 0, .bool false] 62 (0, 0)) := ⟨_, rfl⟩
  obtain ⟨g, hg⟩ : ∃ g, g = w.heap.size := ⟨_, rfl⟩
  have X1 : Hid (SBox 36 g s W1) := by rw [hW1, hg]; exact (heap_alloc_old _ _ (by simp)).trans (heap_alloc_new _ _)
  have Y1 : Hid (CBox (g + 1) CmdD.zero W1) := by rw [hW1, hg]; exact heap_second _ _ _
  have L1 : Hid (Later w W1) := by rw [hW1]; exact ((Below.refl _ _).alloc (Nat.le_refl _) _).alloc (by simp) _
  have HG0 : Hid (w.heap.size ≤ g) := Nat.le_of_eq hg.symm
  have C : Hid (∀ W, Later W1 W → Calls Tryz.prog 45 #[s.val] W (Gives (.bool (goodF l s)) W)) := fun W hW => good_any (StepsAt.kept h (Kept.of_below (L1.out.trans hW) _)) hw h1
  have HR : Hid (Value.tuple #[(wantsC l s).val, .int .i64 (wantsW l s), .bool (wantsB l s)] = .tuple #[CmdD.zero.val, .int .i64 0, .bool false]) := by
    show _ = _
    unfold wantsC wantsW
    rw [hq]
    rfl
  have HB : Hid (goodF l s = false ∨ (s.st ≠ 1 ∧ s.st ≠ 2)) := by
    unfold wantsB at hq
    cases hg : goodF l s with
    | false => exact .inl rfl
    | true => rw [hg] at hq; exact .inr (by simpa using hq)
  obtain ⟨q, hq2⟩ : ∃ q, goodF l s = q := ⟨_, rfl⟩
  rw [hq2] at C HB
  have HW1 := hide hW1.symm
  have HG := hide hg.symm
  clear hW1 hg h hw h1 hq hq2
  have xe := X1.out
  rw [← HW1.out, ← HG.out] at xe
  have XE := hide xe
  clear xe
  go_enter Tryz.func87, Tryz.ntmps87
  go_wp2_with (refine wpList_load_saga (by rfl) _ (by rfl) (by rfl) XE.out ?_; simp only [HW1.out, HG.out])
  refine (C.out _ (Later.refl _)).mono ?_
  rintro e w2 ⟨rfl, hl⟩
  have L12 := hide hl
  have L2 := hide (L1.out.trans hl)
  have X2 := hide (X1.out.below hl)
  have Y2 := hide (Y1.out.below hl)
  clear hl C
  cases q with
  | false =>
    go_wp2_with (refine wpList_store_cmd (c := CmdD.zero) (by rfl) _ _ (by rfl) (by rfl) Y2.out (by rfl) ?_; intro w3 Z3 G3)
    have HLF : Hid (Later w _) := L2.out.grown G3 (Below.size L2.out) (fun k hk => by have := Option.some.inj hk; have := HG0.out; omega)
    refine bodyPost_ret (results_box3 Tryz.results87 _ _ (g + 1) 62 _ _ (by rfl) Z3 Tryz.underlying62 (by rfl) (by kernel_rfl) (.int .i64 0) (by rfl) (.bool false) (by rfl)) (by rfl) ?_
    exact ⟨congrArg _ HR.out.symm, HLF.out⟩
  | true =>
    obtain ⟨n1, n2⟩ : s.st ≠ 1 ∧ s.st ≠ 2 := HB.out.resolve_left (by simp)
    have b1 : (s.st != 1) = true := by simpa using n1
    have b2 : (s.st != 2) = true := by simpa using n2
    have c2 := X2.out.c2
    clear n1 n2
    go_wp2_with (refine wpList_store_cmd (c := CmdD.zero) (by rfl) _ _ (by rfl) (by rfl) Y2.out (by rfl) ?_; intro w3 Z3 G3)
    have HLF : Hid (Later w _) := L2.out.grown G3 (Below.size L2.out) (fun k hk => by have := Option.some.inj hk; have := HG0.out; omega)
    refine bodyPost_ret (results_box3 Tryz.results87 _ _ (g + 1) 62 _ _ (by rfl) Z3 Tryz.underlying62 (by rfl) (by kernel_rfl) (.int .i64 0) (by rfl) (.bool false) (by rfl)) (by rfl) ?_
    exact ⟨congrArg _ HR.out.symm, HLF.out⟩
end
end Go.Proofs.YtpckdhjnhnonhaaGreat
/- What a saga wants, whole. -/
namespace Go.Proofs.YtpckdhjnhnonhaaGreat
open Go.RowKit
section
variable {w : World}
set_option maxHeartbeats 4000000 in
theorem wants_yes {F : Nat → Prop} {s : SagaD} {l : List StepD} (st : Int) (h : StepsAt F w s.v l) (hw : ∀ x ∈ l, x.wf) (h1 : I64 s.step) (hq : wantsB l s = true) (hs : s.st = st) (hst : st = 1 ∨ st = 2) : Calls Tryz.prog 87 #[s.val] w (Wanted l s w) := by
  obtain ⟨W1, hW1⟩ : ∃ W1, W1 = (w.alloc (.cells s.cells.toArray 36 (0, 0))).alloc (.cells #[.int .i64 0, .int .i64 0, .int .i64 0, .int .i64 0, .int .i64 0, .bool false] 62 (0, 0)) := ⟨_, rfl⟩
  obtain ⟨g, hg⟩ : ∃ g, g = w.heap.size := ⟨_, rfl⟩
  have X1 : Hid (SBox 36 g s W1) := by rw [hW1, hg]; exact (heap_alloc_old _ _ (by simp)).trans (heap_alloc_new _ _)
  have Y1 : Hid (CBox (g + 1) CmdD.zero W1) := by rw [hW1, hg]; exact heap_second _ _ _
  have L1 : Hid (Later w W1) := by rw [hW1]; exact ((Below.refl _ _).alloc (Nat.le_refl _) _).alloc (by simp) _
  have HG0 : Hid (w.heap.size ≤ g) := Nat.le_of_eq hg.symm
  have C : Hid (∀ W, Later W1 W → Calls Tryz.prog 45 #[s.val] W (Gives (.bool (goodF l s)) W)) := fun W hW => good_any (StepsAt.kept h (Kept.of_below (L1.out.trans hW) _)) hw h1
  obtain ⟨he, p1, p2, p3, p4, p5, p6, p7⟩ := wants_parts hq
  rw [p7] at C
  obtain ⟨q, hqk⟩ : ∃ q : Nat, s.step = (q : Int) + 1 := ⟨(s.step - 1).toNat, by omega⟩
  have hql : q < l.length := by omega
  obtain ⟨x, b, off, c', hx, hvv, _, _, hb, hr⟩ := StepsAt.at_ h (i := q) hql
  have hn := steps_n h
  rw [← hn] at hvv
  have hv1 : s.p = some ⟨b, off, none⟩ := by
    unfold SagaD.v at hvv
    injection hvv
  have HV := hide hv1
  have HK := hide hqk
  have hqn : q < s.n := by omega
  have hq8 : q < 8 := by omega
  have HX : Hid (stepAt l s.step = x) := by show _ = _; unfold stepAt; rw [hqk, show ((q : Int) + 1 - 1).toNat = q from by omega, hx]; rfl
  have HR : Hid (Value.tuple #[(wantsC l s).val, .int .i64 (wantsW l s), .bool (wantsB l s)] = .tuple #[.agg #[.int .i64 0, .int .i64 x.stub, .int .i64 0, .int .i64 ((q : Int) + 1), .int .i64 s.tr, .bool (decide (st = 2))], .int .i64 x.wait, .bool true]) := by
    show _ = _
    unfold wantsC wantsW
    rw [hq, if_pos rfl, if_pos rfl, HX.out, hqk, hs]
    rfl
  have HRB : Hid (∀ W, Later W1 W → W.rangeAt b (off + q * 6) x.cells) := fun W hW j u hj => (Below.cell (L1.out.trans hW) (p := ⟨b, off + q * 6 + j, none⟩) hb).trans (hr j u hj)
  have HS := hide hs
  have HW1 := hide hW1.symm
  have HG := hide hg.symm
  clear hW1 hg h hw h1 hq he p1 p2 p3 p4 p5 p6 p7 hx hvv hr hb hql hqk hv1 hs hn
  have xe := X1.out
  rw [← HW1.out, ← HG.out] at xe
  have XE := hide xe
  clear xe
  go_enter Tryz.func87, Tryz.ntmps87
  go_wp2_with (refine wpList_load_saga (by rfl) _ (by rfl) (by rfl) XE.out ?_; simp only [HW1.out, HG.out])
  refine (C.out _ (Later.refl _)).mono ?_
  rintro e w2 ⟨rfl, hl⟩
  have L12 := hide hl
  have L2 := hide (L1.out.trans hl)
  have X2 := hide (X1.out.below hl)
  have Y2 := hide (Y1.out.below hl)
  clear hl C
  have c1 := X2.out.c1
  have c2 := X2.out.c2
  have c3 := X2.out.c3
  have c4 := X2.out.c4
  rw [HV.out] at c1
  rw [HS.out] at c2
  rw [HK.out] at c3
  obtain ⟨r0, r1, r2, r3, r4, r5⟩ := range_step (HRB.out _ L12.out)
  have hwr : IntKind.i64.wrap ((q : Int) + 1 - 1) = (q : Int) := by rw [show (q : Int) + 1 - 1 = (q : Int) from by omega]; exact wrap_fits (by omega)
  obtain ⟨W5, hW5⟩ : ∃ W5, W5 = w2.alloc (.cells #[.string x.name, .int .i64 x.stub, .int .i64 x.retry, .int .i64 x.wait, .bool x.undo, .bool x.pivot] 67 (0, 0)) := ⟨_, rfl⟩
  obtain ⟨y, hy⟩ : ∃ y, y = w2.heap.size := ⟨_, rfl⟩
  have B5 : Hid (StepBox y x W5) := by rw [hW5, hy]; exact heap_alloc_new w2 _
  have L25 : Hid (Later w2 W5) := by rw [hW5]; exact (Below.refl _ _).alloc (Nat.le_refl _) _
  have HW5 := hide hW5.symm
  have HY := hide hy.symm
  clear hW5 hy
  rcases hst with rfl | rfl
  · go_wp2_with (fail)
    simp only [HW5.out, HY.out]
    have X5 := hide (X2.out.below L25.out)
    have Y5 := hide (Y2.out.below L25.out)
    have d2 := X5.out.c2
    have d3 := X5.out.c3
    have d4 := X5.out.c4
    rw [HS.out] at d2
    rw [HK.out] at d3
    obtain ⟨s0, s1, s2, s3, s4, s5, sf⟩ := B5.out.cells
    obtain ⟨k0, k1, k2, k3, k4, k5, kf⟩ := Y5.out.cells
    have L5 := hide (L2.out.trans L25.out)
    have hne1 : ¬ (g + 1 = y) := by have := Y2.out.lt; rw [HY.out] at this; omega
    have hne2 : ¬ (y = g + 1) := fun e => hne1 e.symm
    clear c1 c2 c3 c4 r0 r1 r2 r3 r4 r5
    go_region
    obtain ⟨h6, g6⟩ := cmd_wrote x.stub ((q : Int) + 1) s.tr false Y5.out
    have HLF0 := hide (Below.grown L5.out g6 (Below.size L5.out) (fun k hk => by have := Option.some.inj hk; have := HG0.out; omega))
    have Z6 := hide (h6.below (Later.drew _))
    have HLF := hide (Later.trans (b := ((((((W5.setCell ⟨g + 1, 0, none⟩ (.int .i64 0)).setCell ⟨g + 1, 1, none⟩ (.int .i64 x.stub)).setCell ⟨g + 1, 2, none⟩ (.int .i64 0)).setCell ⟨g + 1, 3, none⟩ (.int .i64 ((q : Int) + 1))).setCell ⟨g + 1, 4, none⟩ (.int .i64 s.tr)).setCell ⟨g + 1, 5, none⟩ (.bool false))) HLF0.out (Later.drew _))
    clear h6 g6
    go_wp2
    refine bodyPost_ret (results_box3 Tryz.results87 _ _ (g + 1) 62 _ _ (by rfl) Z6.out Tryz.underlying62 (by rfl) (by kernel_rfl) (.int .i64 x.wait) (by rfl) (.bool true) (by rfl)) (by rfl) ?_
    exact ⟨congrArg _ HR.out.symm, HLF.out⟩
  · go_wp2_with (fail)
    simp only [HW5.out, HY.out]
    have X5 := hide (X2.out.below L25.out)
    have Y5 := hide (Y2.out.below L25.out)
    have d2 := X5.out.c2
    have d3 := X5.out.c3
    have d4 := X5.out.c4
    rw [HS.out] at d2
    rw [HK.out] at d3
    obtain ⟨s0, s1, s2, s3, s4, s5, sf⟩ := B5.out.cells
    obtain ⟨k0, k1, k2, k3, k4, k5, kf⟩ := Y5.out.cells
    have L5 := hide (L2.out.trans L25.out)
    have hne1 : ¬ (g + 1 = y) := by have := Y2.out.lt; rw [HY.out] at this; omega
    have hne2 : ¬ (y = g + 1) := fun e => hne1 e.symm
    clear c1 c2 c3 c4 r0 r1 r2 r3 r4 r5
    go_region
    obtain ⟨h6, g6⟩ := cmd_wrote x.stub ((q : Int) + 1) s.tr true Y5.out
    have HLF0 := hide (Below.grown L5.out g6 (Below.size L5.out) (fun k hk => by have := Option.some.inj hk; have := HG0.out; omega))
    have Z6 := hide (h6.below (Later.drew _))
    have HLF := hide (Later.trans (b := ((((((W5.setCell ⟨g + 1, 0, none⟩ (.int .i64 0)).setCell ⟨g + 1, 1, none⟩ (.int .i64 x.stub)).setCell ⟨g + 1, 2, none⟩ (.int .i64 0)).setCell ⟨g + 1, 3, none⟩ (.int .i64 ((q : Int) + 1))).setCell ⟨g + 1, 4, none⟩ (.int .i64 s.tr)).setCell ⟨g + 1, 5, none⟩ (.bool true))) HLF0.out (Later.drew _))
    clear h6 g6
    go_wp2
    refine bodyPost_ret (results_box3 Tryz.results87 _ _ (g + 1) 62 _ _ (by rfl) Z6.out Tryz.underlying62 (by rfl) (by kernel_rfl) (.int .i64 x.wait) (by rfl) (.bool true) (by rfl)) (by rfl) ?_
    exact ⟨congrArg _ HR.out.symm, HLF.out⟩
theorem wants_any {F : Nat → Prop} {s : SagaD} {l : List StepD} (h : StepsAt F w s.v l) (hw : ∀ x ∈ l, x.wf) (h1 : I64 s.step) : Calls Tryz.prog 87 #[s.val] w (Wanted l s w) := by
  cases hq : wantsB l s with
  | false => exact wants_no h hw h1 hq
  | true => exact wants_yes s.st h hw h1 hq rfl (wants_parts hq).2.2.2.2.2.2.1
end
end Go.Proofs.YtpckdhjnhnonhaaGreat
/- What an event makes of a saga. -/
namespace Go.Proofs.YtpckdhjnhnonhaaGreat
open Go.RowKit
theorem tries_le {name : ByteArray} {l : List StepD} {k : Int} (h : (checkF name l).2 = 0) : triesN l k ≤ 10 := by
  by_cases hk : k < 1 ∨ (l.length : Int) < k
  · rw [triesN_no hk]; omega
  · obtain ⟨q, rfl⟩ : ∃ q : Nat, k = (q : Int) + 1 := ⟨(k - 1).toNat, by omega⟩
    have hq : q < l.length := by omega
    rw [triesN_at (List.getElem?_eq_getElem hq)]
    have hg := (check_good h).2.2.2 _ (List.getElem_mem hq)
    rw [tries_good hg]
    have := good_nums hg
    omega
/-- What a call says of a saga's next state, its steps in new memory, and whether it did something. -/
def Told (s : SagaD) (ok : Bool) (l : List StepD) (w : World) (e : Ending) (w' : World) : Prop := ∃ p n c, e = .returned (.tuple #[(s.withV p n c).val, .bool ok]) ∧ StepsAt (w.heap.size ≤ ·) w' (.slice p n c) l ∧ Later w w'
theorem hitN_v (s : SagaD) (b : Bool) : (s.hitN b).v = s.v := rfl
theorem nextS_v (l : List StepD) (s : SagaD) : (nextS l s).v = s.v := by unfold nextS; split <;> rfl
theorem downS_v (l : List StepD) (s : SagaD) : (downS l s).v = s.v := by unfold downS; split <;> rfl
theorem failsS_v (l : List StepD) (s : SagaD) : (failsS l s).v = s.v := by
  unfold failsS
  split
  · rfl
  · exact downS_v l s
theorem missedS_v (l : List StepD) (s : SagaD) : (missedS l s).v = s.v := by
  unfold missedS
  split
  · rfl
  · split
    · rfl
    · exact failsS_v l s
theorem reportE_v (l : List StepD) (s : SagaD) (back good : Bool) : (reportE l s back good).v = s.v := by
  unfold reportE
  split
  · split
    · rw [downS_v, hitN_v]
    · rw [nextS_v, hitN_v]
  · exact missedS_v l s
theorem lapseE_v (l : List StepD) (s : SagaD) : (lapseE l s).v = s.v := by unfold lapseE; rw [missedS_v, hitN_v]
section
variable {w : World}
set_option maxHeartbeats 4000000 in
theorem rep_bad {F : Nat → Prop} {s : SagaD} {l : List StepD} {pg pb : Nat} {back : Bool} (h : StepsAt F w s.v l) (hl : l.length ≤ 8) (hw : ∀ x ∈ l, x.wf) (p1 : 1 ≤ s.step) (p8 : s.step ≤ 8) (p2 : 0 ≤ s.tr) (p3 : s.tr ≤ 900) (hpg : pg < w.heap.size) (hpb : pb < w.heap.size) (hgd : w.cell? ⟨pg, 0, none⟩ = some (.bool false)) (hbk : w.cell? ⟨pb, 0, none⟩ = some (.bool back)) : Calls Tryz.prog 61 #[s.val, .pointer (some ⟨pg, 0, none⟩), .pointer (some ⟨pb, 0, none⟩)] w (Gives (missedS l s).val w) := by
  obtain ⟨W1, hW1⟩ : ∃ W1, W1 = (w.alloc (.cells s.cells.toArray 36 (0, 0))).alloc (.cells #[.string ⟨#[]⟩, .slice none 0 0, .int .i64 0, .int .i64 0, .int .i64 0, .bool false, .bool false, .bool false, .bool false, .bool false, .bool false, .bool false, .bool false] 36 (0, 0)) := ⟨_, rfl⟩
  obtain ⟨g, hg⟩ : ∃ g, g = w.heap.size := ⟨_, rfl⟩
  have X1 : Hid (SBox 36 g s W1) := by rw [hW1, hg]; exact (heap_alloc_old _ _ (by simp)).trans (heap_alloc_new _ _)
  have Y1 : Hid (SBox 36 (g + 1) SagaD.zero W1) := by rw [hW1, hg]; exact heap_second _ _ _
  have L1 : Hid (Later w W1) := by rw [hW1]; exact ((Below.refl _ _).alloc (Nat.le_refl _) _).alloc (by simp) _
  have HG0 : Hid (w.heap.size ≤ g) := Nat.le_of_eq hg.symm
  have C : Hid (∀ W, Later W1 W → Calls Tryz.prog 62 #[s.val] W (Gives (missedS l s).val W)) := fun W hW => missed_any (StepsAt.kept h (Kept.of_below (L1.out.trans hW) _)) (by omega) hw (by unfold I64; omega) p2 p3
  have hg1 := (Below.cell L1.out (p := ⟨pg, 0, none⟩) hpg).trans hgd
  have hb1 := (Below.cell L1.out (p := ⟨pb, 0, none⟩) hpb).trans hbk
  rw [hW1] at hg1 hb1
  clear hgd hbk
  have HW1 := hide hW1.symm
  have HG := hide hg.symm
  clear hW1 hg h hl p1 p8 hw p2 p3
  have xe := X1.out
  rw [← HW1.out, ← HG.out] at xe
  have XE := hide xe
  clear xe
  go_enter Tryz.func61, Tryz.ntmps61
  go_wp2_with (refine wpList_load_saga (by rfl) _ (by rfl) (by rfl) XE.out ?_; simp only [HW1.out, HG.out])
  refine (C.out _ (Later.refl _)).mono ?_
  rintro e w2 ⟨rfl, hl⟩
  have L12 := hide (hl)
  have L2 := hide (L1.out.trans hl)
  have Y2 := hide (Y1.out.below hl)
  clear hl
  go_wp2_with (first | (refine wpList_load_saga (by rfl) _ (by rfl) (by rfl) X1.out ?_) | (refine wpList_store_saga (by rfl) _ _ (by rfl) (by rfl) Y2.out (by rfl) ?_; intro w3 Z3 G3))
  have HLF : Hid (Later w _) := L2.out.grown G3 (Below.size L2.out) (fun k hk => by have := Option.some.inj hk; have := HG0.out; omega)
  refine bodyPost_ret (results_cell_row Tryz.results61 _ _ (g + 1) 36 _ (0, 0) _ (by rfl) Z3 Tryz.underlying36 (by rfl) (by kernel_rfl)) (by rfl) ?_
  exact ⟨rfl, HLF.out⟩
set_option maxHeartbeats 4000000 in
theorem rep_back {F : Nat → Prop} {s : SagaD} {l : List StepD} {pg pb : Nat} (h : StepsAt F w s.v l) (hl : l.length ≤ 8) (_hw : ∀ x ∈ l, x.wf) (p1 : 1 ≤ s.step) (p8 : s.step ≤ 8) (_p2 : 0 ≤ s.tr) (_p3 : s.tr ≤ 900) (hpg : pg < w.heap.size) (hpb : pb < w.heap.size) (hgd : w.cell? ⟨pg, 0, none⟩ = some (.bool true)) (hbk : w.cell? ⟨pb, 0, none⟩ = some (.bool true)) : Calls Tryz.prog 61 #[s.val, .pointer (some ⟨pg, 0, none⟩), .pointer (some ⟨pb, 0, none⟩)] w (Gives (downS l (s.hitN false)).val w) := by
  obtain ⟨W1, hW1⟩ : ∃ W1, W1 = (w.alloc (.cells s.cells.toArray 36 (0, 0))).alloc (.cells #[.string ⟨#[]⟩, .slice none 0 0, .int .i64 0, .int .i64 0, .int .i64 0, .bool false, .bool false, .bool false, .bool false, .bool false, .bool false, .bool false, .bool false] 36 (0, 0)) := ⟨_, rfl⟩
  obtain ⟨g, hg⟩ : ∃ g, g = w.heap.size := ⟨_, rfl⟩
  have X1 : Hid (SBox 36 g s W1) := by rw [hW1, hg]; exact (heap_alloc_old _ _ (by simp)).trans (heap_alloc_new _ _)
  have Y1 : Hid (SBox 36 (g + 1) SagaD.zero W1) := by rw [hW1, hg]; exact heap_second _ _ _
  have L1 : Hid (Later w W1) := by rw [hW1]; exact ((Below.refl _ _).alloc (Nat.le_refl _) _).alloc (by simp) _
  have HG0 : Hid (w.heap.size ≤ g) := Nat.le_of_eq hg.symm
  have C : Hid (∀ W, Later W1 W → Calls Tryz.prog 58 #[s.val, .bool false] W (Gives (s.hitN false).val W)) := fun W hW => hit_any s false p1 p8
  have C2 : Hid (∀ W, Later W1 W → Calls Tryz.prog 63 #[(s.hitN false).val] W (Gives (downS l (s.hitN false)).val W)) := fun W hW => downS_any (s := s.hitN false) (StepsAt.kept h (Kept.of_below (L1.out.trans hW) _)) (by omega) (by show I64 s.step; unfold I64; omega)
  have hg1 := (Below.cell L1.out (p := ⟨pg, 0, none⟩) hpg).trans hgd
  have hb1 := (Below.cell L1.out (p := ⟨pb, 0, none⟩) hpb).trans hbk
  rw [hW1] at hg1 hb1
  clear hgd hbk
  have HW1 := hide hW1.symm
  have HG := hide hg.symm
  clear hW1 hg h hl p1 p8
  have xe := X1.out
  rw [← HW1.out, ← HG.out] at xe
  have XE := hide xe
  clear xe
  go_enter Tryz.func61, Tryz.ntmps61
  go_wp2_with (refine wpList_load_saga (by rfl) _ (by rfl) (by rfl) XE.out ?_; simp only [HW1.out, HG.out])
  refine (C.out _ (Later.refl _)).mono ?_
  rintro e w2 ⟨rfl, hl⟩
  have L12 := hide (hl)
  have L2 := hide (L1.out.trans hl)
  have Y2 := hide (Y1.out.below hl)
  clear hl
  go_wp2_with (fail)
  refine (C2.out _ L12.out).mono ?_
  rintro e w3 ⟨rfl, hl⟩
  have L13 := hide (L12.out.trans hl)
  have L3 := hide (L2.out.trans hl)
  have Y3 := hide (Y2.out.below hl)
  clear hl
  go_wp2_with (first | (refine wpList_load_saga (by rfl) _ (by rfl) (by rfl) X1.out ?_) | (refine wpList_store_saga (by rfl) _ _ (by rfl) (by rfl) Y3.out (by rfl) ?_; intro w4 Z4 G4))
  have HLF : Hid (Later w _) := L3.out.grown G4 (Below.size L3.out) (fun k hk => by have := Option.some.inj hk; have := HG0.out; omega)
  refine bodyPost_ret (results_cell_row Tryz.results61 _ _ (g + 1) 36 _ (0, 0) _ (by rfl) Z4 Tryz.underlying36 (by rfl) (by kernel_rfl)) (by rfl) ?_
  exact ⟨rfl, HLF.out⟩
set_option maxHeartbeats 4000000 in
theorem rep_on {F : Nat → Prop} {s : SagaD} {l : List StepD} {pg pb : Nat} (h : StepsAt F w s.v l) (_hl : l.length ≤ 8) (_hw : ∀ x ∈ l, x.wf) (p1 : 1 ≤ s.step) (p8 : s.step ≤ 8) (_p2 : 0 ≤ s.tr) (_p3 : s.tr ≤ 900) (hpg : pg < w.heap.size) (hpb : pb < w.heap.size) (hgd : w.cell? ⟨pg, 0, none⟩ = some (.bool true)) (hbk : w.cell? ⟨pb, 0, none⟩ = some (.bool false)) : Calls Tryz.prog 61 #[s.val, .pointer (some ⟨pg, 0, none⟩), .pointer (some ⟨pb, 0, none⟩)] w (Gives (nextS l (s.hitN true)).val w) := by
  obtain ⟨W1, hW1⟩ : ∃ W1, W1 = (w.alloc (.cells s.cells.toArray 36 (0, 0))).alloc (.cells #[.string ⟨#[]⟩, .slice none 0 0, .int .i64 0, .int .i64 0, .int .i64 0, .bool false, .bool false, .bool false, .bool false, .bool false, .bool false, .bool false, .bool false] 36 (0, 0)) := ⟨_, rfl⟩
  obtain ⟨g, hg⟩ : ∃ g, g = w.heap.size := ⟨_, rfl⟩
  have X1 : Hid (SBox 36 g s W1) := by rw [hW1, hg]; exact (heap_alloc_old _ _ (by simp)).trans (heap_alloc_new _ _)
  have Y1 : Hid (SBox 36 (g + 1) SagaD.zero W1) := by rw [hW1, hg]; exact heap_second _ _ _
  have L1 : Hid (Later w W1) := by rw [hW1]; exact ((Below.refl _ _).alloc (Nat.le_refl _) _).alloc (by simp) _
  have HG0 : Hid (w.heap.size ≤ g) := Nat.le_of_eq hg.symm
  have C : Hid (∀ W, Later W1 W → Calls Tryz.prog 58 #[s.val, .bool true] W (Gives (s.hitN true).val W)) := fun W hW => hit_any s true p1 p8
  have C2 : Hid (∀ W, Later W1 W → Calls Tryz.prog 64 #[(s.hitN true).val] W (Gives (nextS l (s.hitN true)).val W)) := fun W hW => next_any (s := s.hitN true) (steps_n h) p1 p8
  have hg1 := (Below.cell L1.out (p := ⟨pg, 0, none⟩) hpg).trans hgd
  have hb1 := (Below.cell L1.out (p := ⟨pb, 0, none⟩) hpb).trans hbk
  rw [hW1] at hg1 hb1
  clear hgd hbk
  have HW1 := hide hW1.symm
  have HG := hide hg.symm
  clear hW1 hg h p1 p8
  have xe := X1.out
  rw [← HW1.out, ← HG.out] at xe
  have XE := hide xe
  clear xe
  go_enter Tryz.func61, Tryz.ntmps61
  go_wp2_with (refine wpList_load_saga (by rfl) _ (by rfl) (by rfl) XE.out ?_; simp only [HW1.out, HG.out])
  refine (C.out _ (Later.refl _)).mono ?_
  rintro e w2 ⟨rfl, hl⟩
  have L12 := hide (hl)
  have L2 := hide (L1.out.trans hl)
  have Y2 := hide (Y1.out.below hl)
  clear hl
  go_wp2_with (fail)
  refine (C2.out _ L12.out).mono ?_
  rintro e w3 ⟨rfl, hl⟩
  have L13 := hide (L12.out.trans hl)
  have L3 := hide (L2.out.trans hl)
  have Y3 := hide (Y2.out.below hl)
  clear hl
  go_wp2_with (first | (refine wpList_load_saga (by rfl) _ (by rfl) (by rfl) X1.out ?_) | (refine wpList_store_saga (by rfl) _ _ (by rfl) (by rfl) Y3.out (by rfl) ?_; intro w4 Z4 G4))
  have HLF : Hid (Later w _) := L3.out.grown G4 (Below.size L3.out) (fun k hk => by have := Option.some.inj hk; have := HG0.out; omega)
  refine bodyPost_ret (results_cell_row Tryz.results61 _ _ (g + 1) 36 _ (0, 0) _ (by rfl) Z4 Tryz.underlying36 (by rfl) (by kernel_rfl)) (by rfl) ?_
  exact ⟨rfl, HLF.out⟩
theorem rep_any {F : Nat → Prop} {s : SagaD} {l : List StepD} {pg pb : Nat} {good back : Bool} (h : StepsAt F w s.v l) (hl : l.length ≤ 8) (hw : ∀ x ∈ l, x.wf) (p1 : 1 ≤ s.step) (p8 : s.step ≤ 8) (p2 : 0 ≤ s.tr) (p3 : s.tr ≤ 900) (hpg : pg < w.heap.size) (hpb : pb < w.heap.size) (hgd : w.cell? ⟨pg, 0, none⟩ = some (.bool good)) (hbk : w.cell? ⟨pb, 0, none⟩ = some (.bool back)) : Calls Tryz.prog 61 #[s.val, .pointer (some ⟨pg, 0, none⟩), .pointer (some ⟨pb, 0, none⟩)] w (Gives (reportE l s back good).val w) := by
  cases good with
  | false => exact rep_bad h hl hw p1 p8 p2 p3 hpg hpb hgd hbk
  | true =>
    cases back with
    | true => exact rep_back h hl hw p1 p8 p2 p3 hpg hpb hgd hbk
    | false => exact rep_on h hl hw p1 p8 p2 p3 hpg hpb hgd hbk
set_option maxHeartbeats 4000000 in
theorem lap_any {F : Nat → Prop} {s : SagaD} {l : List StepD} (h : StepsAt F w s.v l) (hl : l.length ≤ 8) (hw : ∀ x ∈ l, x.wf) (p1 : 1 ≤ s.step) (p8 : s.step ≤ 8) (p2 : 0 ≤ s.tr) (p3 : s.tr ≤ 900) : Calls Tryz.prog 65 #[s.val] w (Gives (lapseE l s).val w) := by
  unfold lapseE
  obtain ⟨W1, hW1⟩ : ∃ W1, W1 = (w.alloc (.cells s.cells.toArray 36 (0, 0))).alloc (.cells #[.string ⟨#[]⟩, .slice none 0 0, .int .i64 0, .int .i64 0, .int .i64 0, .bool false, .bool false, .bool false, .bool false, .bool false, .bool false, .bool false, .bool false] 36 (0, 0)) := ⟨_, rfl⟩
  obtain ⟨g, hg⟩ : ∃ g, g = w.heap.size := ⟨_, rfl⟩
  have X1 : Hid (SBox 36 g s W1) := by rw [hW1, hg]; exact (heap_alloc_old _ _ (by simp)).trans (heap_alloc_new _ _)
  have Y1 : Hid (SBox 36 (g + 1) SagaD.zero W1) := by rw [hW1, hg]; exact heap_second _ _ _
  have L1 : Hid (Later w W1) := by rw [hW1]; exact ((Below.refl _ _).alloc (Nat.le_refl _) _).alloc (by simp) _
  have HG0 : Hid (w.heap.size ≤ g) := Nat.le_of_eq hg.symm
  have C : Hid (∀ W, Later W1 W → Calls Tryz.prog 58 #[s.val, .bool true] W (Gives (s.hitN true).val W)) := fun W hW => hit_any s true p1 p8
  have C2 : Hid (∀ W, Later W1 W → Calls Tryz.prog 62 #[(s.hitN true).val] W (Gives (missedS l (s.hitN true)).val W)) := fun W hW => missed_any (s := s.hitN true) (StepsAt.kept h (Kept.of_below (L1.out.trans hW) _)) (by omega) hw (by show I64 s.step; unfold I64; omega) p2 p3
  have HW1 := hide hW1.symm
  have HG := hide hg.symm
  clear hW1 hg h hl hw p1 p8 p2 p3
  have xe := X1.out
  rw [← HW1.out, ← HG.out] at xe
  have XE := hide xe
  clear xe
  go_enter Tryz.func65, Tryz.ntmps65
  go_wp2_with (refine wpList_load_saga (by rfl) _ (by rfl) (by rfl) XE.out ?_; simp only [HW1.out, HG.out])
  refine (C.out _ (Later.refl _)).mono ?_
  rintro e w2 ⟨rfl, hl⟩
  have L12 := hide (hl)
  have L2 := hide (L1.out.trans hl)
  have Y2 := hide (Y1.out.below hl)
  clear hl
  go_wp2_with (fail)
  refine (C2.out _ L12.out).mono ?_
  rintro e w3 ⟨rfl, hl⟩
  have L13 := hide (L12.out.trans hl)
  have L3 := hide (L2.out.trans hl)
  have Y3 := hide (Y2.out.below hl)
  clear hl
  go_wp2_with (first | (refine wpList_load_saga (by rfl) _ (by rfl) (by rfl) X1.out ?_) | (refine wpList_store_saga (by rfl) _ _ (by rfl) (by rfl) Y3.out (by rfl) ?_; intro w4 Z4 G4))
  have HLF : Hid (Later w _) := L3.out.grown G4 (Below.size L3.out) (fun k hk => by have := Option.some.inj hk; have := HG0.out; omega)
  refine bodyPost_ret (results_cell_row Tryz.results65 _ _ (g + 1) 36 _ (0, 0) _ (by rfl) Z4 Tryz.underlying36 (by rfl) (by kernel_rfl)) (by rfl) ?_
  exact ⟨rfl, HLF.out⟩
theorem own_kept {w w' : World} {v : Value} {l : List StepD} {b g : Nat} (h : StepsAt (b ≤ ·) w v l) (hb : g < b) (hg : w.grownBy w' (some g)) : StepsAt (b ≤ ·) w' v l :=
  StepsAt.kept h (Kept.of_grown hg (fun k hk hf => by have := Option.some.inj hk; omega))
set_option maxHeartbeats 4000000 in
theorem bl_none {F : Nat → Prop} {s : SagaD} {l : List StepD} {step tr : Int} {back : Bool}  (h : StepsAt F w s.v l) (hl6 : l.length ≤ 1000000) (hw : ∀ x ∈ l, x.wf) (h1 : I64 s.step) (hq : wantsB l s = false) : Calls Tryz.prog 60 #[s.val, .int .i64 step, .int .i64 tr, .bool back, .func (.func 65) #[] #[]] w (Told s false l w) := by
  obtain ⟨W1, hW1⟩ : ∃ W1, W1 = (w.alloc (.cells s.cells.toArray 36 (0, 0))).alloc (.cells #[.string ⟨#[]⟩, .slice none 0 0, .int .i64 0, .int .i64 0, .int .i64 0, .bool false, .bool false, .bool false, .bool false, .bool false, .bool false, .bool false, .bool false] 36 (0, 0)) := ⟨_, rfl⟩
  obtain ⟨g, hg⟩ : ∃ g, g = w.heap.size := ⟨_, rfl⟩
  have X1 : Hid (SBox 36 g s W1) := by rw [hW1, hg]; exact (heap_alloc_old _ _ (by simp)).trans (heap_alloc_new _ _)
  have Y1 : Hid (SBox 36 (g + 1) SagaD.zero W1) := by rw [hW1, hg]; exact heap_second _ _ _
  have L1 : Hid (Later w W1) := by rw [hW1]; exact ((Below.refl _ _).alloc (Nat.le_refl _) _).alloc (by simp) _
  have HG0 : Hid (w.heap.size ≤ g) := Nat.le_of_eq hg.symm
  have CW0 : Hid (∀ W, Later W1 W → Calls Tryz.prog 87 #[s.val] W (Wanted l s W)) := fun W hW => wants_any (StepsAt.kept h (Kept.of_below (L1.out.trans hW) _)) hw h1
  have CO : Hid (∀ W, Later W1 W → Calls Tryz.prog 55 #[s.val] W (Owns s l W)) := fun W hW => own_any (StepsAt.kept h (Kept.of_below (L1.out.trans hW) _)) hl6
  have CW : Hid (∀ W, Later W1 W → Calls Tryz.prog 87 #[s.val] W fun e w' => e = .returned (.tuple #[.agg #[.int .i64 0, .int .i64 0, .int .i64 0, .int .i64 0, .int .i64 0, .bool false], .int .i64 (wantsW l s), .bool false]) ∧ Later W w') := fun W hW => (CW0.out W hW).mono (fun e w' he => ⟨by rw [he.1]; unfold wantsC; rw [hq]; rfl, he.2⟩)
  obtain ⟨ticks, ht⟩ : ∃ t, wantsW l s = t := ⟨_, rfl⟩
  rw [ht] at CW
  have HW1 := hide hW1.symm
  have HG := hide hg.symm
  clear hW1 hg h hl6 hw h1 hq ht CW0
  have xe := X1.out
  rw [← HW1.out, ← HG.out] at xe
  have XE := hide xe
  clear xe
  go_enter Tryz.func60, Tryz.ntmps60
  go_wp2_with (refine wpList_load_saga (by rfl) _ (by rfl) (by rfl) XE.out ?_; simp only [HW1.out, HG.out])
  refine (CW.out _ (Later.refl _)).mono ?_
  rintro e w2 ⟨rfl, hl⟩
  have L12 := hide hl
  have L2 := hide (L1.out.trans hl)
  have X2 := hide (X1.out.below hl)
  have Y2 := hide (Y1.out.below hl)
  clear hl CW
  obtain ⟨w3, hw3⟩ : ∃ w3, w3 = w2.alloc (.cells #[.int .i64 0, .int .i64 0, .int .i64 0, .int .i64 0, .int .i64 0, .bool false] 62 (0, 0)) := ⟨_, rfl⟩
  obtain ⟨y, hy⟩ : ∃ y, y = w2.heap.size := ⟨_, rfl⟩
  have B3 : Hid (CBox y ⟨0, 0, 0, false⟩ w3) := by rw [hw3, hy]; exact heap_alloc_new w2 _
  have L23 : Hid (Later w2 w3) := by rw [hw3]; exact (Below.refl _ _).alloc (Nat.le_refl _) _
  have L13 := hide (L12.out.trans L23.out)
  have L3 := hide (L2.out.trans L23.out)
  have X3 := hide (X2.out.below L23.out)
  have Y3 := hide (Y2.out.below L23.out)
  obtain ⟨k0, k1, k2, k3, k4, k5, kf⟩ := B3.out.cells
  rw [hw3, hy] at k3 k4 k5
  have x3 := X3.out
  have y3 := Y3.out
  rw [hw3] at x3 y3
  have XR := hide x3
  have HW3 := hide hw3.symm
  have HY := hide hy.symm
  clear k0 k1 k2 kf hw3 hy x3 y3
  go_wp2_with (refine wpList_load_saga (by rfl) _ (by rfl) (by rfl) XR.out ?_; simp only [HW3.out, HY.out])
  refine (CO.out _ L13.out).mono ?_
  rintro e w4 ⟨P, N, K, rfl, hs, hl⟩
  have HS9 := hide hs
  have HLT := hide (Y3.out.lt)
  have L4 := hide (L3.out.trans hl)
  have HSZ := hide (Below.size L3.out)
  have Y4 := hide (Y3.out.below hl)
  clear hl hs
  go_wp2_with (first | (refine wpList_load_saga (by rfl) _ (by rfl) (by rfl) X3.out ?_) | (refine wpList_store_saga (by rfl) _ _ (by rfl) (by rfl) Y4.out (by rfl) ?_; intro w5 Z5 G5))
  have S9 : Hid (StepsAt (w.heap.size ≤ ·) w5 (.slice P N K) l) := FlatAt.mono (own_kept HS9.out HLT.out G5) (fun i _ hf => Nat.le_trans HSZ.out hf)
  have HLF : Hid (Later w _) := L4.out.grown G5 (Below.size L4.out) (fun k hk => by have := Option.some.inj hk; have := HG0.out; omega)
  refine bodyPost_ret (results_box2 Tryz.results60 _ _ (g + 1) 36 _ _ (by rfl) Z5 Tryz.underlying36 (by rfl) (by kernel_rfl) (.bool false) (by rfl)) (by rfl) ?_
  exact ⟨P, N, K, rfl, S9.out, HLF.out⟩
set_option maxHeartbeats 4000000 in
theorem bl_some {F : Nat → Prop} {s : SagaD} {l : List StepD} {step tr : Int} {back : Bool}  (h : StepsAt F w s.v l) (hl6 : l.length ≤ 1000000) (hw : ∀ x ∈ l, x.wf) (h1 : I64 s.step) (hl8 : l.length ≤ 8) (p1 : 1 ≤ s.step) (p8 : s.step ≤ 8) (p2 : 0 ≤ s.tr) (p3 : s.tr ≤ 900) (hq : wantsB l s = true) (Q : Bool) (hQ : isIt l s step tr back = Q) : Calls Tryz.prog 60 #[s.val, .int .i64 step, .int .i64 tr, .bool back, .func (.func 65) #[] #[]] w (Told (if Q then lapseE l s else s) Q l w) := by
  obtain ⟨W1, hW1⟩ : ∃ W1, W1 = (w.alloc (.cells s.cells.toArray 36 (0, 0))).alloc (.cells #[.string ⟨#[]⟩, .slice none 0 0, .int .i64 0, .int .i64 0, .int .i64 0, .bool false, .bool false, .bool false, .bool false, .bool false, .bool false, .bool false, .bool false] 36 (0, 0)) := ⟨_, rfl⟩
  obtain ⟨g, hg⟩ : ∃ g, g = w.heap.size := ⟨_, rfl⟩
  have X1 : Hid (SBox 36 g s W1) := by rw [hW1, hg]; exact (heap_alloc_old _ _ (by simp)).trans (heap_alloc_new _ _)
  have Y1 : Hid (SBox 36 (g + 1) SagaD.zero W1) := by rw [hW1, hg]; exact heap_second _ _ _
  have L1 : Hid (Later w W1) := by rw [hW1]; exact ((Below.refl _ _).alloc (Nat.le_refl _) _).alloc (by simp) _
  have HG0 : Hid (w.heap.size ≤ g) := Nat.le_of_eq hg.symm
  have CW0 : Hid (∀ W, Later W1 W → Calls Tryz.prog 87 #[s.val] W (Wanted l s W)) := fun W hW => wants_any (StepsAt.kept h (Kept.of_below (L1.out.trans hW) _)) hw h1
  have CO : Hid (∀ W, Later W1 W → Calls Tryz.prog 55 #[s.val] W (Owns s l W)) := fun W hW => own_any (StepsAt.kept h (Kept.of_below (L1.out.trans hW) _)) hl6
  obtain ⟨cs, hcs⟩ : ∃ c, (stepAt l s.step).stub = c := ⟨_, rfl⟩
  obtain ⟨ct, hct⟩ : ∃ c, s.step = c := ⟨_, rfl⟩
  obtain ⟨cr, hcr⟩ : ∃ c, s.tr = c := ⟨_, rfl⟩
  obtain ⟨cb, hcb⟩ : ∃ c, decide (s.st = 2) = c := ⟨_, rfl⟩
  have CW : Hid (∀ W, Later W1 W → Calls Tryz.prog 87 #[s.val] W fun e w' => e = .returned (.tuple #[.agg #[.int .i64 0, .int .i64 cs, .int .i64 0, .int .i64 ct, .int .i64 cr, .bool cb], .int .i64 (wantsW l s), .bool true]) ∧ Later W w') := fun W hW => (CW0.out W hW).mono (fun e w' he => ⟨by rw [he.1]; unfold wantsC; rw [hq, if_pos rfl, hcs, hct, hcr, hcb]; rfl, he.2⟩)
  obtain ⟨ticks, ht⟩ : ∃ t, wantsW l s = t := ⟨_, rfl⟩
  rw [ht] at CW
  have HQ : Hid (Q = (decide (ct = step) && (decide (cr = tr) && (cb == back)))) := by show _ = _; rw [← hQ]; unfold isIt; rw [hq, hct, hcr, hcb, Bool.true_and]
  obtain ⟨R, hR⟩ : ∃ R, (if Q then lapseE l s else s) = R := ⟨_, rfl⟩
  have HR : Hid (R = if Q then lapseE l s else s) := hR.symm
  rw [hR]
  have CE : Hid (∀ W, Later W1 W → Calls Tryz.prog 65 #[s.val] W (Gives (lapseE l s).val W)) := fun W hW => lap_any (StepsAt.kept h (Kept.of_below (L1.out.trans hW) _)) hl8 hw p1 p8 p2 p3
  have COE : Hid (∀ W, Later W1 W → Calls Tryz.prog 55 #[(lapseE l s).val] W (Owns (lapseE l s) l W)) := fun W hW => own_any (s := lapseE l s) (by rw [lapseE_v]; exact StepsAt.kept h (Kept.of_below (L1.out.trans hW) _)) hl6
  have HW1 := hide hW1.symm
  have HG := hide hg.symm
  clear hW1 hg h hl6 hw h1 hq hQ ht CW0 hR hcs hct hcr hcb p1 p8 p2 p3 hl8
  have xe := X1.out
  rw [← HW1.out, ← HG.out] at xe
  have XE := hide xe
  clear xe
  go_enter Tryz.func60, Tryz.ntmps60
  go_wp2_with (refine wpList_load_saga (by rfl) _ (by rfl) (by rfl) XE.out ?_; simp only [HW1.out, HG.out])
  refine (CW.out _ (Later.refl _)).mono ?_
  rintro e w2 ⟨rfl, hl⟩
  have L12 := hide hl
  have L2 := hide (L1.out.trans hl)
  have X2 := hide (X1.out.below hl)
  have Y2 := hide (Y1.out.below hl)
  clear hl CW
  obtain ⟨w3, hw3⟩ : ∃ w3, w3 = w2.alloc (.cells #[.int .i64 0, .int .i64 cs, .int .i64 0, .int .i64 ct, .int .i64 cr, .bool cb] 62 (0, 0)) := ⟨_, rfl⟩
  obtain ⟨y, hy⟩ : ∃ y, y = w2.heap.size := ⟨_, rfl⟩
  have B3 : Hid (CBox y ⟨cs, ct, cr, cb⟩ w3) := by rw [hw3, hy]; exact heap_alloc_new w2 _
  have L23 : Hid (Later w2 w3) := by rw [hw3]; exact (Below.refl _ _).alloc (Nat.le_refl _) _
  have L13 := hide (L12.out.trans L23.out)
  have L3 := hide (L2.out.trans L23.out)
  have X3 := hide (X2.out.below L23.out)
  have Y3 := hide (Y2.out.below L23.out)
  obtain ⟨k0, k1, k2, k3, k4, k5, kf⟩ := B3.out.cells
  rw [hw3, hy] at k3 k4 k5
  have x3 := X3.out
  have y3 := Y3.out
  rw [hw3] at x3 y3
  have XR := hide x3
  have HW3 := hide hw3.symm
  have HY := hide hy.symm
  clear k0 k1 k2 kf hw3 hy x3 y3
  by_cases g1 : ct = step
  · subst g1
    by_cases g2 : cr = tr
    · subst g2
      cases hcmp : (cb == back) with
      | true =>
        obtain rfl : back = cb := (show cb = back by simpa using hcmp).symm
        obtain rfl : Q = true := by rw [HQ.out]; simp
        obtain rfl : R = lapseE l s := by rw [HR.out]; rfl
        clear HQ HR hcmp
        go_wp2_with (refine wpList_load_saga (by rfl) _ (by rfl) (by rfl) XR.out ?_; simp only [HW3.out, HY.out])
        refine (CE.out _ L13.out).mono ?_
        rintro e w5 ⟨rfl, hl⟩
        have L15 := hide (L13.out.trans hl)
        have L5 := hide (L3.out.trans hl)
        have Y5 := hide (Y3.out.below hl)
        clear hl
        go_wp2_with (fail)
        refine (COE.out _ L15.out).mono ?_
        rintro e w6 ⟨P, N, K, rfl, hs, hl⟩
        have HS9 := hide hs
        have HLT := hide (Y5.out.lt)
        have L6 := hide (L5.out.trans hl)
        have HSZ := hide (Below.size L5.out)
        have Y6 := hide (Y5.out.below hl)
        clear hl hs
        go_wp2_with (first | (refine wpList_load_saga (by rfl) _ (by rfl) (by rfl) X3.out ?_) | (refine wpList_store_saga (by rfl) _ _ (by rfl) (by rfl) Y6.out (by rfl) ?_; intro w7 Z7 G7))
        have S9 : Hid (StepsAt (w.heap.size ≤ ·) w7 (.slice P N K) l) := FlatAt.mono (own_kept HS9.out HLT.out G7) (fun i _ hf => Nat.le_trans HSZ.out hf)
        have HLF : Hid (Later w _) := L6.out.grown G7 (Below.size L6.out) (fun k hk => by have := Option.some.inj hk; have := HG0.out; omega)
        refine bodyPost_ret (results_box2 Tryz.results60 _ _ (g + 1) 36 _ _ (by rfl) Z7 Tryz.underlying36 (by rfl) (by kernel_rfl) (.bool true) (by rfl)) (by rfl) ?_
        exact ⟨P, N, K, rfl, S9.out, HLF.out⟩

      | false =>
        have hne : (cb != back) = true := by cases cb <;> cases back <;> simp_all
        obtain rfl : Q = false := by rw [HQ.out]; simp [hcmp]
        obtain rfl : R = s := by rw [HR.out]; rfl
        clear HQ HR
        go_wp2_with (refine wpList_load_saga (by rfl) _ (by rfl) (by rfl) XR.out ?_; simp only [HW3.out, HY.out])
        refine (CO.out _ L13.out).mono ?_
        rintro e w4 ⟨P, N, K, rfl, hs, hl⟩
        have HS9 := hide hs
        have HLT := hide (Y3.out.lt)
        have L4 := hide (L3.out.trans hl)
        have HSZ := hide (Below.size L3.out)
        have Y4 := hide (Y3.out.below hl)
        clear hl hs
        go_wp2_with (first | (refine wpList_load_saga (by rfl) _ (by rfl) (by rfl) X3.out ?_) | (refine wpList_store_saga (by rfl) _ _ (by rfl) (by rfl) Y4.out (by rfl) ?_; intro w5 Z5 G5))
        have S9 : Hid (StepsAt (w.heap.size ≤ ·) w5 (.slice P N K) l) := FlatAt.mono (own_kept HS9.out HLT.out G5) (fun i _ hf => Nat.le_trans HSZ.out hf)
        have HLF : Hid (Later w _) := L4.out.grown G5 (Below.size L4.out) (fun k hk => by have := Option.some.inj hk; have := HG0.out; omega)
        refine bodyPost_ret (results_box2 Tryz.results60 _ _ (g + 1) 36 _ _ (by rfl) Z5 Tryz.underlying36 (by rfl) (by kernel_rfl) (.bool false) (by rfl)) (by rfl) ?_
        exact ⟨P, N, K, rfl, S9.out, HLF.out⟩

    · have hne : (cr != tr) = true := by simpa using g2
      obtain rfl : Q = false := by rw [HQ.out]; simp [g2]
      obtain rfl : R = s := by rw [HR.out]; rfl
      clear HQ HR
      go_wp2_with (refine wpList_load_saga (by rfl) _ (by rfl) (by rfl) XR.out ?_; simp only [HW3.out, HY.out])
      refine (CO.out _ L13.out).mono ?_
      rintro e w4 ⟨P, N, K, rfl, hs, hl⟩
      have HS9 := hide hs
      have HLT := hide (Y3.out.lt)
      have L4 := hide (L3.out.trans hl)
      have HSZ := hide (Below.size L3.out)
      have Y4 := hide (Y3.out.below hl)
      clear hl hs
      go_wp2_with (first | (refine wpList_load_saga (by rfl) _ (by rfl) (by rfl) X3.out ?_) | (refine wpList_store_saga (by rfl) _ _ (by rfl) (by rfl) Y4.out (by rfl) ?_; intro w5 Z5 G5))
      have S9 : Hid (StepsAt (w.heap.size ≤ ·) w5 (.slice P N K) l) := FlatAt.mono (own_kept HS9.out HLT.out G5) (fun i _ hf => Nat.le_trans HSZ.out hf)
      have HLF : Hid (Later w _) := L4.out.grown G5 (Below.size L4.out) (fun k hk => by have := Option.some.inj hk; have := HG0.out; omega)
      refine bodyPost_ret (results_box2 Tryz.results60 _ _ (g + 1) 36 _ _ (by rfl) Z5 Tryz.underlying36 (by rfl) (by kernel_rfl) (.bool false) (by rfl)) (by rfl) ?_
      exact ⟨P, N, K, rfl, S9.out, HLF.out⟩

  · have hne : (ct != step) = true := by simpa using g1
    obtain rfl : Q = false := by rw [HQ.out]; simp [g1]
    obtain rfl : R = s := by rw [HR.out]; rfl
    clear HQ HR
    go_wp2_with (refine wpList_load_saga (by rfl) _ (by rfl) (by rfl) XR.out ?_; simp only [HW3.out, HY.out])
    refine (CO.out _ L13.out).mono ?_
    rintro e w4 ⟨P, N, K, rfl, hs, hl⟩
    have HS9 := hide hs
    have HLT := hide (Y3.out.lt)
    have L4 := hide (L3.out.trans hl)
    have HSZ := hide (Below.size L3.out)
    have Y4 := hide (Y3.out.below hl)
    clear hl hs
    go_wp2_with (first | (refine wpList_load_saga (by rfl) _ (by rfl) (by rfl) X3.out ?_) | (refine wpList_store_saga (by rfl) _ _ (by rfl) (by rfl) Y4.out (by rfl) ?_; intro w5 Z5 G5))
    have S9 : Hid (StepsAt (w.heap.size ≤ ·) w5 (.slice P N K) l) := FlatAt.mono (own_kept HS9.out HLT.out G5) (fun i _ hf => Nat.le_trans HSZ.out hf)
    have HLF : Hid (Later w _) := L4.out.grown G5 (Below.size L4.out) (fun k hk => by have := Option.some.inj hk; have := HG0.out; omega)
    refine bodyPost_ret (results_box2 Tryz.results60 _ _ (g + 1) 36 _ _ (by rfl) Z5 Tryz.underlying36 (by rfl) (by kernel_rfl) (.bool false) (by rfl)) (by rfl) ?_
    exact ⟨P, N, K, rfl, S9.out, HLF.out⟩

set_option maxHeartbeats 4000000 in
theorem br_none {F : Nat → Prop} {s : SagaD} {l : List StepD} {step tr : Int} {back : Bool} {pg pb : Nat}  (h : StepsAt F w s.v l) (hl6 : l.length ≤ 1000000) (hw : ∀ x ∈ l, x.wf) (h1 : I64 s.step) (hq : wantsB l s = false) : Calls Tryz.prog 60 #[s.val, .int .i64 step, .int .i64 tr, .bool back, .func (.func 61) #[] #[.pointer (some ⟨pg, 0, none⟩), .pointer (some ⟨pb, 0, none⟩)]] w (Told s false l w) := by
  obtain ⟨W1, hW1⟩ : ∃ W1, W1 = (w.alloc (.cells s.cells.toArray 36 (0, 0))).alloc (.cells #[.string ⟨#[]⟩, .slice none 0 0, .int .i64 0, .int .i64 0, .int .i64 0, .bool false, .bool false, .bool false, .bool false, .bool false, .bool false, .bool false, .bool false] 36 (0, 0)) := ⟨_, rfl⟩
  obtain ⟨g, hg⟩ : ∃ g, g = w.heap.size := ⟨_, rfl⟩
  have X1 : Hid (SBox 36 g s W1) := by rw [hW1, hg]; exact (heap_alloc_old _ _ (by simp)).trans (heap_alloc_new _ _)
  have Y1 : Hid (SBox 36 (g + 1) SagaD.zero W1) := by rw [hW1, hg]; exact heap_second _ _ _
  have L1 : Hid (Later w W1) := by rw [hW1]; exact ((Below.refl _ _).alloc (Nat.le_refl _) _).alloc (by simp) _
  have HG0 : Hid (w.heap.size ≤ g) := Nat.le_of_eq hg.symm
  have CW0 : Hid (∀ W, Later W1 W → Calls Tryz.prog 87 #[s.val] W (Wanted l s W)) := fun W hW => wants_any (StepsAt.kept h (Kept.of_below (L1.out.trans hW) _)) hw h1
  have CO : Hid (∀ W, Later W1 W → Calls Tryz.prog 55 #[s.val] W (Owns s l W)) := fun W hW => own_any (StepsAt.kept h (Kept.of_below (L1.out.trans hW) _)) hl6
  have CW : Hid (∀ W, Later W1 W → Calls Tryz.prog 87 #[s.val] W fun e w' => e = .returned (.tuple #[.agg #[.int .i64 0, .int .i64 0, .int .i64 0, .int .i64 0, .int .i64 0, .bool false], .int .i64 (wantsW l s), .bool false]) ∧ Later W w') := fun W hW => (CW0.out W hW).mono (fun e w' he => ⟨by rw [he.1]; unfold wantsC; rw [hq]; rfl, he.2⟩)
  obtain ⟨ticks, ht⟩ : ∃ t, wantsW l s = t := ⟨_, rfl⟩
  rw [ht] at CW
  have HW1 := hide hW1.symm
  have HG := hide hg.symm
  clear hW1 hg h hl6 hw h1 hq ht CW0
  have xe := X1.out
  rw [← HW1.out, ← HG.out] at xe
  have XE := hide xe
  clear xe
  go_enter Tryz.func60, Tryz.ntmps60
  go_wp2_with (refine wpList_load_saga (by rfl) _ (by rfl) (by rfl) XE.out ?_; simp only [HW1.out, HG.out])
  refine (CW.out _ (Later.refl _)).mono ?_
  rintro e w2 ⟨rfl, hl⟩
  have L12 := hide hl
  have L2 := hide (L1.out.trans hl)
  have X2 := hide (X1.out.below hl)
  have Y2 := hide (Y1.out.below hl)
  clear hl CW
  obtain ⟨w3, hw3⟩ : ∃ w3, w3 = w2.alloc (.cells #[.int .i64 0, .int .i64 0, .int .i64 0, .int .i64 0, .int .i64 0, .bool false] 62 (0, 0)) := ⟨_, rfl⟩
  obtain ⟨y, hy⟩ : ∃ y, y = w2.heap.size := ⟨_, rfl⟩
  have B3 : Hid (CBox y ⟨0, 0, 0, false⟩ w3) := by rw [hw3, hy]; exact heap_alloc_new w2 _
  have L23 : Hid (Later w2 w3) := by rw [hw3]; exact (Below.refl _ _).alloc (Nat.le_refl _) _
  have L13 := hide (L12.out.trans L23.out)
  have L3 := hide (L2.out.trans L23.out)
  have X3 := hide (X2.out.below L23.out)
  have Y3 := hide (Y2.out.below L23.out)
  obtain ⟨k0, k1, k2, k3, k4, k5, kf⟩ := B3.out.cells
  rw [hw3, hy] at k3 k4 k5
  have x3 := X3.out
  have y3 := Y3.out
  rw [hw3] at x3 y3
  have XR := hide x3
  have HW3 := hide hw3.symm
  have HY := hide hy.symm
  clear k0 k1 k2 kf hw3 hy x3 y3
  go_wp2_with (refine wpList_load_saga (by rfl) _ (by rfl) (by rfl) XR.out ?_; simp only [HW3.out, HY.out])
  refine (CO.out _ L13.out).mono ?_
  rintro e w4 ⟨P, N, K, rfl, hs, hl⟩
  have HS9 := hide hs
  have HLT := hide (Y3.out.lt)
  have L4 := hide (L3.out.trans hl)
  have HSZ := hide (Below.size L3.out)
  have Y4 := hide (Y3.out.below hl)
  clear hl hs
  go_wp2_with (first | (refine wpList_load_saga (by rfl) _ (by rfl) (by rfl) X3.out ?_) | (refine wpList_store_saga (by rfl) _ _ (by rfl) (by rfl) Y4.out (by rfl) ?_; intro w5 Z5 G5))
  have S9 : Hid (StepsAt (w.heap.size ≤ ·) w5 (.slice P N K) l) := FlatAt.mono (own_kept HS9.out HLT.out G5) (fun i _ hf => Nat.le_trans HSZ.out hf)
  have HLF : Hid (Later w _) := L4.out.grown G5 (Below.size L4.out) (fun k hk => by have := Option.some.inj hk; have := HG0.out; omega)
  refine bodyPost_ret (results_box2 Tryz.results60 _ _ (g + 1) 36 _ _ (by rfl) Z5 Tryz.underlying36 (by rfl) (by kernel_rfl) (.bool false) (by rfl)) (by rfl) ?_
  exact ⟨P, N, K, rfl, S9.out, HLF.out⟩
set_option maxHeartbeats 4000000 in
theorem br_some {F : Nat → Prop} {s : SagaD} {l : List StepD} {step tr : Int} {back : Bool} {pg pb : Nat} {good : Bool} (h : StepsAt F w s.v l) (hl6 : l.length ≤ 1000000) (hw : ∀ x ∈ l, x.wf) (h1 : I64 s.step) (hl8 : l.length ≤ 8) (p1 : 1 ≤ s.step) (p8 : s.step ≤ 8) (p2 : 0 ≤ s.tr) (p3 : s.tr ≤ 900) (hpg : pg < w.heap.size) (hpb : pb < w.heap.size) (hgd : w.cell? ⟨pg, 0, none⟩ = some (.bool good)) (hbk : w.cell? ⟨pb, 0, none⟩ = some (.bool back)) (hq : wantsB l s = true) (Q : Bool) (hQ : isIt l s step tr back = Q) : Calls Tryz.prog 60 #[s.val, .int .i64 step, .int .i64 tr, .bool back, .func (.func 61) #[] #[.pointer (some ⟨pg, 0, none⟩), .pointer (some ⟨pb, 0, none⟩)]] w (Told (if Q then reportE l s back good else s) Q l w) := by
  obtain ⟨W1, hW1⟩ : ∃ W1, W1 = (w.alloc (.cells s.cells.toArray 36 (0, 0))).alloc (.cells #[.string ⟨#[]⟩, .slice none 0 0, .int .i64 0, .int .i64 0, .int .i64 0, .bool false, .bool false, .bool false, .bool false, .bool false, .bool false, .bool false, .bool false] 36 (0, 0)) := ⟨_, rfl⟩
  obtain ⟨g, hg⟩ : ∃ g, g = w.heap.size := ⟨_, rfl⟩
  have X1 : Hid (SBox 36 g s W1) := by rw [hW1, hg]; exact (heap_alloc_old _ _ (by simp)).trans (heap_alloc_new _ _)
  have Y1 : Hid (SBox 36 (g + 1) SagaD.zero W1) := by rw [hW1, hg]; exact heap_second _ _ _
  have L1 : Hid (Later w W1) := by rw [hW1]; exact ((Below.refl _ _).alloc (Nat.le_refl _) _).alloc (by simp) _
  have HG0 : Hid (w.heap.size ≤ g) := Nat.le_of_eq hg.symm
  have CW0 : Hid (∀ W, Later W1 W → Calls Tryz.prog 87 #[s.val] W (Wanted l s W)) := fun W hW => wants_any (StepsAt.kept h (Kept.of_below (L1.out.trans hW) _)) hw h1
  have CO : Hid (∀ W, Later W1 W → Calls Tryz.prog 55 #[s.val] W (Owns s l W)) := fun W hW => own_any (StepsAt.kept h (Kept.of_below (L1.out.trans hW) _)) hl6
  obtain ⟨cs, hcs⟩ : ∃ c, (stepAt l s.step).stub = c := ⟨_, rfl⟩
  obtain ⟨ct, hct⟩ : ∃ c, s.step = c := ⟨_, rfl⟩
  obtain ⟨cr, hcr⟩ : ∃ c, s.tr = c := ⟨_, rfl⟩
  obtain ⟨cb, hcb⟩ : ∃ c, decide (s.st = 2) = c := ⟨_, rfl⟩
  have CW : Hid (∀ W, Later W1 W → Calls Tryz.prog 87 #[s.val] W fun e w' => e = .returned (.tuple #[.agg #[.int .i64 0, .int .i64 cs, .int .i64 0, .int .i64 ct, .int .i64 cr, .bool cb], .int .i64 (wantsW l s), .bool true]) ∧ Later W w') := fun W hW => (CW0.out W hW).mono (fun e w' he => ⟨by rw [he.1]; unfold wantsC; rw [hq, if_pos rfl, hcs, hct, hcr, hcb]; rfl, he.2⟩)
  obtain ⟨ticks, ht⟩ : ∃ t, wantsW l s = t := ⟨_, rfl⟩
  rw [ht] at CW
  have HQ : Hid (Q = (decide (ct = step) && (decide (cr = tr) && (cb == back)))) := by show _ = _; rw [← hQ]; unfold isIt; rw [hq, hct, hcr, hcb, Bool.true_and]
  obtain ⟨R, hR⟩ : ∃ R, (if Q then reportE l s back good else s) = R := ⟨_, rfl⟩
  have HR : Hid (R = if Q then reportE l s back good else s) := hR.symm
  rw [hR]
  have CE : Hid (∀ W, Later W1 W → Calls Tryz.prog 61 #[s.val, .pointer (some ⟨pg, 0, none⟩), .pointer (some ⟨pb, 0, none⟩)] W (Gives (reportE l s back good).val W)) := fun W hW => rep_any (StepsAt.kept h (Kept.of_below (L1.out.trans hW) _)) hl8 hw p1 p8 p2 p3 (Nat.lt_of_lt_of_le hpg (Below.size (L1.out.trans hW))) (Nat.lt_of_lt_of_le hpb (Below.size (L1.out.trans hW))) ((Below.cell (L1.out.trans hW) (p := ⟨pg, 0, none⟩) hpg).trans hgd) ((Below.cell (L1.out.trans hW) (p := ⟨pb, 0, none⟩) hpb).trans hbk)
  have COE : Hid (∀ W, Later W1 W → Calls Tryz.prog 55 #[(reportE l s back good).val] W (Owns (reportE l s back good) l W)) := fun W hW => own_any (s := reportE l s back good) (by rw [reportE_v]; exact StepsAt.kept h (Kept.of_below (L1.out.trans hW) _)) hl6
  have HW1 := hide hW1.symm
  have HG := hide hg.symm
  clear hW1 hg h hl6 hw h1 hq hQ ht CW0 hR hcs hct hcr hcb p1 p8 p2 p3 hl8 hpg hpb hgd hbk
  have xe := X1.out
  rw [← HW1.out, ← HG.out] at xe
  have XE := hide xe
  clear xe
  go_enter Tryz.func60, Tryz.ntmps60
  go_wp2_with (refine wpList_load_saga (by rfl) _ (by rfl) (by rfl) XE.out ?_; simp only [HW1.out, HG.out])
  refine (CW.out _ (Later.refl _)).mono ?_
  rintro e w2 ⟨rfl, hl⟩
  have L12 := hide hl
  have L2 := hide (L1.out.trans hl)
  have X2 := hide (X1.out.below hl)
  have Y2 := hide (Y1.out.below hl)
  clear hl CW
  obtain ⟨w3, hw3⟩ : ∃ w3, w3 = w2.alloc (.cells #[.int .i64 0, .int .i64 cs, .int .i64 0, .int .i64 ct, .int .i64 cr, .bool cb] 62 (0, 0)) := ⟨_, rfl⟩
  obtain ⟨y, hy⟩ : ∃ y, y = w2.heap.size := ⟨_, rfl⟩
  have B3 : Hid (CBox y ⟨cs, ct, cr, cb⟩ w3) := by rw [hw3, hy]; exact heap_alloc_new w2 _
  have L23 : Hid (Later w2 w3) := by rw [hw3]; exact (Below.refl _ _).alloc (Nat.le_refl _) _
  have L13 := hide (L12.out.trans L23.out)
  have L3 := hide (L2.out.trans L23.out)
  have X3 := hide (X2.out.below L23.out)
  have Y3 := hide (Y2.out.below L23.out)
  obtain ⟨k0, k1, k2, k3, k4, k5, kf⟩ := B3.out.cells
  rw [hw3, hy] at k3 k4 k5
  have x3 := X3.out
  have y3 := Y3.out
  rw [hw3] at x3 y3
  have XR := hide x3
  have HW3 := hide hw3.symm
  have HY := hide hy.symm
  clear k0 k1 k2 kf hw3 hy x3 y3
  by_cases g1 : ct = step
  · subst g1
    by_cases g2 : cr = tr
    · subst g2
      cases hcmp : (cb == back) with
      | true =>
        obtain rfl : back = cb := (show cb = back by simpa using hcmp).symm
        obtain rfl : Q = true := by rw [HQ.out]; simp
        obtain rfl : R = reportE l s back good := by rw [HR.out]; rfl
        clear HQ HR hcmp
        go_wp2_with (refine wpList_load_saga (by rfl) _ (by rfl) (by rfl) XR.out ?_; simp only [HW3.out, HY.out])
        refine (CE.out _ L13.out).mono ?_
        rintro e w5 ⟨rfl, hl⟩
        have L15 := hide (L13.out.trans hl)
        have L5 := hide (L3.out.trans hl)
        have Y5 := hide (Y3.out.below hl)
        clear hl
        go_wp2_with (fail)
        refine (COE.out _ L15.out).mono ?_
        rintro e w6 ⟨P, N, K, rfl, hs, hl⟩
        have HS9 := hide hs
        have HLT := hide (Y5.out.lt)
        have L6 := hide (L5.out.trans hl)
        have HSZ := hide (Below.size L5.out)
        have Y6 := hide (Y5.out.below hl)
        clear hl hs
        go_wp2_with (first | (refine wpList_load_saga (by rfl) _ (by rfl) (by rfl) X3.out ?_) | (refine wpList_store_saga (by rfl) _ _ (by rfl) (by rfl) Y6.out (by rfl) ?_; intro w7 Z7 G7))
        have S9 : Hid (StepsAt (w.heap.size ≤ ·) w7 (.slice P N K) l) := FlatAt.mono (own_kept HS9.out HLT.out G7) (fun i _ hf => Nat.le_trans HSZ.out hf)
        have HLF : Hid (Later w _) := L6.out.grown G7 (Below.size L6.out) (fun k hk => by have := Option.some.inj hk; have := HG0.out; omega)
        refine bodyPost_ret (results_box2 Tryz.results60 _ _ (g + 1) 36 _ _ (by rfl) Z7 Tryz.underlying36 (by rfl) (by kernel_rfl) (.bool true) (by rfl)) (by rfl) ?_
        exact ⟨P, N, K, rfl, S9.out, HLF.out⟩

      | false =>
        have hne : (cb != back) = true := by cases cb <;> cases back <;> simp_all
        obtain rfl : Q = false := by rw [HQ.out]; simp [hcmp]
        obtain rfl : R = s := by rw [HR.out]; rfl
        clear HQ HR
        go_wp2_with (refine wpList_load_saga (by rfl) _ (by rfl) (by rfl) XR.out ?_; simp only [HW3.out, HY.out])
        refine (CO.out _ L13.out).mono ?_
        rintro e w4 ⟨P, N, K, rfl, hs, hl⟩
        have HS9 := hide hs
        have HLT := hide (Y3.out.lt)
        have L4 := hide (L3.out.trans hl)
        have HSZ := hide (Below.size L3.out)
        have Y4 := hide (Y3.out.below hl)
        clear hl hs
        go_wp2_with (first | (refine wpList_load_saga (by rfl) _ (by rfl) (by rfl) X3.out ?_) | (refine wpList_store_saga (by rfl) _ _ (by rfl) (by rfl) Y4.out (by rfl) ?_; intro w5 Z5 G5))
        have S9 : Hid (StepsAt (w.heap.size ≤ ·) w5 (.slice P N K) l) := FlatAt.mono (own_kept HS9.out HLT.out G5) (fun i _ hf => Nat.le_trans HSZ.out hf)
        have HLF : Hid (Later w _) := L4.out.grown G5 (Below.size L4.out) (fun k hk => by have := Option.some.inj hk; have := HG0.out; omega)
        refine bodyPost_ret (results_box2 Tryz.results60 _ _ (g + 1) 36 _ _ (by rfl) Z5 Tryz.underlying36 (by rfl) (by kernel_rfl) (.bool false) (by rfl)) (by rfl) ?_
        exact ⟨P, N, K, rfl, S9.out, HLF.out⟩

    · have hne : (cr != tr) = true := by simpa using g2
      obtain rfl : Q = false := by rw [HQ.out]; simp [g2]
      obtain rfl : R = s := by rw [HR.out]; rfl
      clear HQ HR
      go_wp2_with (refine wpList_load_saga (by rfl) _ (by rfl) (by rfl) XR.out ?_; simp only [HW3.out, HY.out])
      refine (CO.out _ L13.out).mono ?_
      rintro e w4 ⟨P, N, K, rfl, hs, hl⟩
      have HS9 := hide hs
      have HLT := hide (Y3.out.lt)
      have L4 := hide (L3.out.trans hl)
      have HSZ := hide (Below.size L3.out)
      have Y4 := hide (Y3.out.below hl)
      clear hl hs
      go_wp2_with (first | (refine wpList_load_saga (by rfl) _ (by rfl) (by rfl) X3.out ?_) | (refine wpList_store_saga (by rfl) _ _ (by rfl) (by rfl) Y4.out (by rfl) ?_; intro w5 Z5 G5))
      have S9 : Hid (StepsAt (w.heap.size ≤ ·) w5 (.slice P N K) l) := FlatAt.mono (own_kept HS9.out HLT.out G5) (fun i _ hf => Nat.le_trans HSZ.out hf)
      have HLF : Hid (Later w _) := L4.out.grown G5 (Below.size L4.out) (fun k hk => by have := Option.some.inj hk; have := HG0.out; omega)
      refine bodyPost_ret (results_box2 Tryz.results60 _ _ (g + 1) 36 _ _ (by rfl) Z5 Tryz.underlying36 (by rfl) (by kernel_rfl) (.bool false) (by rfl)) (by rfl) ?_
      exact ⟨P, N, K, rfl, S9.out, HLF.out⟩

  · have hne : (ct != step) = true := by simpa using g1
    obtain rfl : Q = false := by rw [HQ.out]; simp [g1]
    obtain rfl : R = s := by rw [HR.out]; rfl
    clear HQ HR
    go_wp2_with (refine wpList_load_saga (by rfl) _ (by rfl) (by rfl) XR.out ?_; simp only [HW3.out, HY.out])
    refine (CO.out _ L13.out).mono ?_
    rintro e w4 ⟨P, N, K, rfl, hs, hl⟩
    have HS9 := hide hs
    have HLT := hide (Y3.out.lt)
    have L4 := hide (L3.out.trans hl)
    have HSZ := hide (Below.size L3.out)
    have Y4 := hide (Y3.out.below hl)
    clear hl hs
    go_wp2_with (first | (refine wpList_load_saga (by rfl) _ (by rfl) (by rfl) X3.out ?_) | (refine wpList_store_saga (by rfl) _ _ (by rfl) (by rfl) Y4.out (by rfl) ?_; intro w5 Z5 G5))
    have S9 : Hid (StepsAt (w.heap.size ≤ ·) w5 (.slice P N K) l) := FlatAt.mono (own_kept HS9.out HLT.out G5) (fun i _ hf => Nat.le_trans HSZ.out hf)
    have HLF : Hid (Later w _) := L4.out.grown G5 (Below.size L4.out) (fun k hk => by have := Option.some.inj hk; have := HG0.out; omega)
    refine bodyPost_ret (results_box2 Tryz.results60 _ _ (g + 1) 36 _ _ (by rfl) Z5 Tryz.underlying36 (by rfl) (by kernel_rfl) (.bool false) (by rfl)) (by rfl) ?_
    exact ⟨P, N, K, rfl, S9.out, HLF.out⟩

end
end Go.Proofs.YtpckdhjnhnonhaaGreat
/- A struct literal at an operation, its parts said as a list. -/
namespace Go.Proofs.YtpckdhjnhnonhaaGreat
open Go.RowKit

section
variable {P : Program} {w : World} {op : Oper} {a : Act}
theorem parts_list (xs : Array (Nat × Operand)) (ps : List (Nat × Value)) (hp : xs.toList.map (fun q => (q.1, a.eval q.2)) = ps) : (xs.map fun (i, x) => (i, a.eval x)).toList = ps := by
  rw [Array.toList_map]
  exact hp
theorem wpList_build_parts {ops : Array Oper} {rest : List Oper} {Q : Exit → Act → World → Prop} (hgd : op.guard = none) (t : TypeId) (xs : Array (Nat × Operand)) (ho : op.op = .build t xs) (ps : List (Nat × Value))
    (hp : xs.toList.map (fun q => (q.1, a.eval q.2)) = ps) (cells : Array Value) (hb : P.built t ps = some cells) (h : wpList P ops Q rest (a.put op.dst (.agg cells)) w) : wpList P ops Q (op :: rest) a w := by
  have e := parts_list xs ps hp
  refine wpList_build hgd t _ ho ?_ ?_
  · rw [e, hb]; rfl
  · rw [e, hb]; exact h
theorem exec_build_parts (t : TypeId) (xs : Array (Nat × Operand)) (ho : op.op = .build t xs) (ps : List (Nat × Value)) (hp : xs.toList.map (fun q => (q.1, a.eval q.2)) = ps) (cells : Array Value) (hb : P.built t ps = some cells) :
    (execOp a.eval op).run P w = .ok (.value (.agg cells)) w := by
  have e := parts_list xs ps hp
  unfold execOp
  simp only [ho, Sem.run_bind, run_build w t _ cells (by rw [e]; exact hb), Result.andThen_ok]
  rfl
end
end Go.Proofs.YtpckdhjnhnonhaaGreat
/- How a saga begins; a try that is told of, or of which nothing is told in time. -/
namespace Go.Proofs.YtpckdhjnhnonhaaGreat
open Go.RowKit
section
variable {w : World}
theorem bl_any {F : Nat → Prop} {s : SagaD} {l : List StepD} {step tr : Int} {back : Bool} (h : StepsAt F w s.v l) (hl6 : l.length ≤ 1000000) (hw : ∀ x ∈ l, x.wf) (h1 : I64 s.step) : Calls Tryz.prog 60 #[s.val, .int .i64 step, .int .i64 tr, .bool back, .func (.func 65) #[] #[]] w (Told (lapseF l s step tr back) (isIt l s step tr back) l w) := by
  cases hq : wantsB l s with
  | false =>
    have hi : isIt l s step tr back = false := by unfold isIt; rw [hq]; rfl
    unfold lapseF
    rw [hi]
    exact bl_none h hl6 hw h1 hq
  | true =>
    obtain ⟨he, p1, p2, p3, p4, p5, p6, p7⟩ := wants_parts hq
    have := tries_le (k := s.step) he
    exact bl_some h hl6 hw h1 (check_good he).1 p1 p3 (by omega) (by omega) hq _ rfl
theorem br_any {F : Nat → Prop} {s : SagaD} {l : List StepD} {step tr : Int} {back good : Bool} {pg pb : Nat} (h : StepsAt F w s.v l) (hl6 : l.length ≤ 1000000) (hw : ∀ x ∈ l, x.wf) (h1 : I64 s.step) (hpg : pg < w.heap.size) (hpb : pb < w.heap.size) (hgd : w.cell? ⟨pg, 0, none⟩ = some (.bool good)) (hbk : w.cell? ⟨pb, 0, none⟩ = some (.bool back)) : Calls Tryz.prog 60 #[s.val, .int .i64 step, .int .i64 tr, .bool back, .func (.func 61) #[] #[.pointer (some ⟨pg, 0, none⟩), .pointer (some ⟨pb, 0, none⟩)]] w (Told (reportF l s step tr back good) (isIt l s step tr back) l w) := by
  cases hq : wantsB l s with
  | false =>
    have hi : isIt l s step tr back = false := by unfold isIt; rw [hq]; rfl
    unfold reportF
    rw [hi]
    exact br_none h hl6 hw h1 hq
  | true =>
    obtain ⟨he, p1, p2, p3, p4, p5, p6, p7⟩ := wants_parts hq
    have := tries_le (k := s.step) he
    exact br_some h hl6 hw h1 (check_good he).1 p1 p3 (by omega) (by omega) hpg hpb hgd hbk hq _ rfl
set_option maxHeartbeats 4000000 in
theorem lapse_any {F : Nat → Prop} {s : SagaD} {l : List StepD} {step tr : Int} {back : Bool} (h : StepsAt F w s.v l) (hl6 : l.length ≤ 1000000) (hw : ∀ x ∈ l, x.wf) (h1 : I64 s.step) : Calls Tryz.prog 33 #[s.val, .int .i64 step, .int .i64 tr, .bool back] w (Told (lapseF l s step tr back) (isIt l s step tr back) l w) := by
  obtain ⟨W1, hW1⟩ : ∃ W1, W1 = (w.alloc (.cells s.cells.toArray 36 (0, 0))).alloc (.cells #[.string ⟨#[]⟩, .slice none 0 0, .int .i64 0, .int .i64 0, .int .i64 0, .bool false, .bool false, .bool false, .bool false, .bool false, .bool false, .bool false, .bool false] 36 (0, 0)) := ⟨_, rfl⟩
  obtain ⟨g, hg⟩ : ∃ g, g = w.heap.size := ⟨_, rfl⟩
  have X1 : Hid (SBox 36 g s W1) := by rw [hW1, hg]; exact (heap_alloc_old _ _ (by simp)).trans (heap_alloc_new _ _)
  have Y1 : Hid (SBox 36 (g + 1) SagaD.zero W1) := by rw [hW1, hg]; exact heap_second _ _ _
  have L1 : Hid (Later w W1) := by rw [hW1]; exact ((Below.refl _ _).alloc (Nat.le_refl _) _).alloc (by simp) _
  have HG0 : Hid (w.heap.size ≤ g) := Nat.le_of_eq hg.symm
  have C : Hid (∀ W, Later W1 W → Calls Tryz.prog 60 #[s.val, .int .i64 step, .int .i64 tr, .bool back, .func (.func 65) #[] #[]] W (Told (lapseF l s step tr back) (isIt l s step tr back) l W)) := fun W hW => bl_any (StepsAt.kept h (Kept.of_below (L1.out.trans hW) _)) hl6 hw h1
  obtain ⟨s2, hs2⟩ : ∃ x, lapseF l s step tr back = x := ⟨_, rfl⟩
  obtain ⟨Q, hQ⟩ : ∃ x, isIt l s step tr back = x := ⟨_, rfl⟩
  rw [hs2, hQ] at C ⊢
  have HW1 := hide hW1.symm
  have HG := hide hg.symm
  clear hW1 hg h hl6 hw h1 hs2 hQ
  have xe := X1.out
  rw [← HW1.out, ← HG.out] at xe
  have XE := hide xe
  clear xe
  go_enter Tryz.func33, Tryz.ntmps33
  go_wp2_with (refine wpList_load_saga (by rfl) _ (by rfl) (by rfl) XE.out ?_; simp only [HW1.out, HG.out])
  refine (C.out _ (Later.refl _)).mono ?_
  rintro e w2 ⟨P, N, K, rfl, hs, hl⟩
  have HLT := hide (Y1.out.lt)
  have HSZ := hide (Below.size L1.out)
  have HS9 := hide hs
  have L2 := hide (L1.out.trans hl)
  have Y2 := hide (Y1.out.below hl)
  clear hl hs
  go_wp2_with (first | (refine wpList_load_saga (by rfl) _ (by rfl) (by rfl) X1.out ?_) | (refine wpList_store_saga (by rfl) _ _ (by rfl) (by rfl) Y2.out (by rfl) ?_; intro w3 Z3 G3))
  have S9 : Hid (StepsAt (w.heap.size ≤ ·) w3 (.slice P N K) l) := FlatAt.mono (own_kept HS9.out HLT.out G3) (fun i _ hf => Nat.le_trans HSZ.out hf)
  have HLF : Hid (Later w _) := L2.out.grown G3 (Below.size L2.out) (fun k hk => by have := Option.some.inj hk; have := HG0.out; omega)
  refine bodyPost_ret (results_box2 Tryz.results33 _ _ (g + 1) 36 _ _ (by rfl) Z3 Tryz.underlying36 (by rfl) (by kernel_rfl) (.bool Q) (by rfl)) (by rfl) ?_
  exact ⟨P, N, K, rfl, S9.out, HLF.out⟩
set_option maxHeartbeats 4000000 in
theorem report_any {F : Nat → Prop} {s : SagaD} {l : List StepD} {step tr : Int} {back good : Bool} (h : StepsAt F w s.v l) (hl6 : l.length ≤ 1000000) (hw : ∀ x ∈ l, x.wf) (h1 : I64 s.step) : Calls Tryz.prog 31 #[s.val, .int .i64 step, .int .i64 tr, .bool back, .bool good] w (Told (reportF l s step tr back good) (isIt l s step tr back) l w) := by
  obtain ⟨W1, hW1⟩ : ∃ W1, W1 = (((w.alloc (.cells s.cells.toArray 36 (0, 0))).alloc (.cells #[.bool back] 4 (0, 0))).alloc (.cells #[.bool good] 4 (0, 0))).alloc (.cells #[.string ⟨#[]⟩, .slice none 0 0, .int .i64 0, .int .i64 0, .int .i64 0, .bool false, .bool false, .bool false, .bool false, .bool false, .bool false, .bool false, .bool false] 36 (0, 0)) := ⟨_, rfl⟩
  obtain ⟨g, hg⟩ : ∃ g, g = w.heap.size := ⟨_, rfl⟩
  have hz : W1.heap.size = g + 4 := by rw [hW1, hg]; simp
  have X1 : Hid (SBox 36 g s W1) := by rw [hW1, hg]; exact (heap_alloc_old _ _ (by simp <;> omega)).trans ((heap_alloc_old _ _ (by simp <;> omega)).trans ((heap_alloc_old _ _ (by simp)).trans (heap_alloc_new _ _)))
  have K1 : Hid (W1.heap[g + 1]? = some (.cells #[.bool back] 4 (0, 0))) := by rw [hW1, hg]; exact (heap_alloc_old _ _ (by simp <;> omega)).trans ((heap_alloc_old _ _ (by simp)).trans (heap_second _ _ _))
  have K2 : Hid (W1.heap[g + 1 + 1]? = some (.cells #[.bool good] 4 (0, 0))) := by
    rw [hW1, hg]
    refine (heap_alloc_old _ _ (by simp)).trans ?_
    have hh := heap_second (w.alloc (.cells s.cells.toArray 36 (0, 0))) (.cells #[.bool back] 4 (0, 0)) (.cells #[.bool good] 4 (0, 0))
    rwa [show (w.alloc (.cells s.cells.toArray 36 (0, 0))).heap.size = w.heap.size + 1 from by simp] at hh
  have Y1 : Hid (SBox 36 (g + 1 + 1 + 1) SagaD.zero W1) := by
    rw [hW1, hg]
    have hh := heap_alloc_new (((w.alloc (.cells s.cells.toArray 36 (0, 0))).alloc (.cells #[.bool back] 4 (0, 0))).alloc (.cells #[.bool good] 4 (0, 0))) (.cells #[.string ⟨#[]⟩, .slice none 0 0, .int .i64 0, .int .i64 0, .int .i64 0, .bool false, .bool false, .bool false, .bool false, .bool false, .bool false, .bool false, .bool false] 36 (0, 0))
    rwa [show (((w.alloc (.cells s.cells.toArray 36 (0, 0))).alloc (.cells #[.bool back] 4 (0, 0))).alloc (.cells #[.bool good] 4 (0, 0))).heap.size = w.heap.size + 1 + 1 + 1 from by simp] at hh
  have L1 : Hid (Later w W1) := by rw [hW1]; exact ((((Below.refl _ _).alloc (Nat.le_refl _) _).alloc (by simp) _).alloc (by simp <;> omega) _).alloc (by simp; omega) _
  have HG0 : Hid (w.heap.size ≤ g) := Nat.le_of_eq hg.symm
  have cb := (cell_of_row W1 (g + 1) 0 _ _ _ K1.out).trans (show _ = some (Value.bool back) from rfl)
  have cg := (cell_of_row W1 (g + 1 + 1) 0 _ _ _ K2.out).trans (show _ = some (Value.bool good) from rfl)
  have C : Hid (∀ W, Later W1 W → Calls Tryz.prog 60 #[s.val, .int .i64 step, .int .i64 tr, .bool back, .func (.func 61) #[] #[.pointer (some ⟨g + 1 + 1, 0, none⟩), .pointer (some ⟨g + 1, 0, none⟩)]] W (Told (reportF l s step tr back good) (isIt l s step tr back) l W)) := fun W hW => br_any (StepsAt.kept h (Kept.of_below (L1.out.trans hW) _)) hl6 hw h1 (by have := Below.size hW; omega) (by have := Below.size hW; omega) ((Below.cell hW (p := ⟨g + 1 + 1, 0, none⟩) (by show g + 1 + 1 < _; omega)).trans cg) ((Below.cell hW (p := ⟨g + 1, 0, none⟩) (by show g + 1 < _; omega)).trans cb)
  obtain ⟨s2, hs2⟩ : ∃ x, reportF l s step tr back good = x := ⟨_, rfl⟩
  obtain ⟨Q, hQ⟩ : ∃ x, isIt l s step tr back = x := ⟨_, rfl⟩
  rw [hs2, hQ] at C ⊢
  have HW1 := hide hW1.symm
  have HG := hide hg.symm
  have xe := X1.out
  rw [hW1, hg] at xe
  have XE := hide xe
  clear hW1 hg h hl6 hw h1 hs2 hQ xe cg hz
  go_enter Tryz.func31, Tryz.ntmps31
  go_wp2_with (refine wpList_load_saga (by rfl) _ (by rfl) (by rfl) XE.out ?_; simp only [HW1.out, HG.out])
  refine (C.out _ (Later.refl _)).mono ?_
  rintro e w2 ⟨P, N, K, rfl, hs, hl⟩
  have HLT := hide (Y1.out.lt)
  have HSZ := hide (Below.size L1.out)
  have HS9 := hide hs
  have L2 := hide (L1.out.trans hl)
  have Y2 := hide (Y1.out.below hl)
  clear hl hs
  go_wp2_with (first | (refine wpList_load_saga (by rfl) _ (by rfl) (by rfl) X1.out ?_) | (refine wpList_store_saga (by rfl) _ _ (by rfl) (by rfl) Y2.out (by rfl) ?_; intro w3 Z3 G3))
  have S9 : Hid (StepsAt (w.heap.size ≤ ·) w3 (.slice P N K) l) := FlatAt.mono (own_kept HS9.out HLT.out G3) (fun i _ hf => Nat.le_trans HSZ.out hf)
  have HLF : Hid (Later w _) := L2.out.grown G3 (Below.size L2.out) (fun k hk => by have := Option.some.inj hk; have := HG0.out; omega)
  refine bodyPost_ret (results_box2 Tryz.results31 _ _ (g + 1 + 1 + 1) 36 _ _ (by rfl) Z3 Tryz.underlying36 (by rfl) (by kernel_rfl) (.bool Q) (by rfl)) (by rfl) ?_
  exact ⟨P, N, K, rfl, S9.out, HLF.out⟩
/-- What Begin says of a definition that may be: a saga that is running, its steps in new memory. -/
def Begun (name : ByteArray) (l : List StepD) (w : World) (e : Ending) (w' : World) : Prop := ∃ p n c, e = .returned (.tuple #[(SagaD.mk name p n c 1 1 1 (upH 0)).val, .int .i64 0]) ∧ StepsAt (w.heap.size ≤ ·) w' (.slice p n c) l ∧ Later w w'
set_option maxHeartbeats 4000000 in
theorem begin_err {F : Nat → Prop} {name : ByteArray} {A : Option Addr} {n c : Nat} {l : List StepD} (h : StepsAt F w (.slice A n c) l) (he : (checkF name l).2 ≠ 0) : Calls Tryz.prog 53 #[.agg #[.string name, .slice A n c]] w fun e w' => e = .returned (.tuple #[SagaD.zero.val, .int .i64 (((checkF name l).2 : Nat) : Int)]) ∧ Later w w' := by
  obtain ⟨W1, hW1⟩ : ∃ W1, W1 = (w.alloc (.cells #[.string name, .slice A n c] 31 (0, 0))).alloc (.cells #[.string ⟨#[]⟩, .slice none 0 0, .int .i64 0, .int .i64 0, .int .i64 0, .bool false, .bool false, .bool false, .bool false, .bool false, .bool false, .bool false, .bool false] 36 (0, 0)) := ⟨_, rfl⟩
  obtain ⟨g, hg⟩ : ∃ g, g = w.heap.size := ⟨_, rfl⟩
  have X1 : Hid (DefBox g name (.slice A n c) W1) := by rw [hW1, hg]; exact (heap_alloc_old _ _ (by simp)).trans (heap_alloc_new _ _)
  have Y1 : Hid (SBox 36 (g + 1) SagaD.zero W1) := by rw [hW1, hg]; exact heap_second _ _ _
  have L1 : Hid (Later w W1) := by rw [hW1]; exact ((Below.refl _ _).alloc (Nat.le_refl _) _).alloc (by simp) _
  have HG0 : Hid (w.heap.size ≤ g) := Nat.le_of_eq hg.symm
  have CC : Hid (Calls Tryz.prog 75 #[.agg #[.string name, .slice A n c]] W1 fun e w' => e = .returned (.tuple #[.int .i64 (((checkF name l).1 : Nat) : Int), .int .i64 (((checkF name l).2 : Nat) : Int)]) ∧ Later W1 w') := check_any (StepsAt.kept h (Kept.of_below L1.out _))
  obtain ⟨k1, hk1⟩ : ∃ k1, (checkF name l).1 = k1 := ⟨_, rfl⟩
  obtain ⟨k2, hk2⟩ : ∃ k2, (checkF name l).2 = k2 := ⟨_, rfl⟩
  rw [hk1, hk2] at CC
  have e0 := X1.out.name_
  have e1 := X1.out.steps
  rw [hW1, hg] at e0 e1
  rw [hk2]
  have hb : ((k2 : Int) != 0) = true := by simpa using (show ¬ (k2 : Int) = 0 by omega)
  have HW1 := hide hW1.symm
  have HG := hide hg.symm
  clear hW1 hg h he hk1 hk2
  go_enter Tryz.func53, Tryz.ntmps53
  go_wp2_with (fail)
  simp only [HW1.out, HG.out]
  refine CC.out.mono ?_
  rintro e w2 ⟨rfl, hl⟩
  have L12 := hide hl
  have L2 := hide (L1.out.trans hl)
  have X2 := hide (X1.out.below hl)
  have Y2 := hide (Y1.out.below hl)
  clear hl CC e0 e1
  go_wp2_with (refine wpList_store_saga (s := SagaD.zero) (by rfl) _ _ (by rfl) (by rfl) Y2.out (by rfl) ?_; intro w3 Z3 G3)
  have HLF : Hid (Later w _) := L2.out.grown G3 (Below.size L2.out) (fun k hk => by have := Option.some.inj hk; have := HG0.out; omega)
  refine bodyPost_ret (results_box2 Tryz.results53 _ _ (g + 1) 36 _ _ (by rfl) Z3 Tryz.underlying36 (by rfl) (by kernel_rfl) (.int .i64 (k2 : Int)) (by rfl)) (by rfl) ?_
  exact ⟨rfl, HLF.out⟩
set_option maxHeartbeats 4000000 in
theorem begin_ok {F : Nat → Prop} {name : ByteArray} {A : Option Addr} {n c : Nat} {l : List StepD} (h : StepsAt F w (.slice A n c) l) (he : (checkF name l).2 = 0) : Calls Tryz.prog 53 #[.agg #[.string name, .slice A n c]] w (Begun name l w) := by
  obtain ⟨W1, hW1⟩ : ∃ W1, W1 = (w.alloc (.cells #[.string name, .slice A n c] 31 (0, 0))).alloc (.cells #[.string ⟨#[]⟩, .slice none 0 0, .int .i64 0, .int .i64 0, .int .i64 0, .bool false, .bool false, .bool false, .bool false, .bool false, .bool false, .bool false, .bool false] 36 (0, 0)) := ⟨_, rfl⟩
  obtain ⟨g, hg⟩ : ∃ g, g = w.heap.size := ⟨_, rfl⟩
  have X1 : Hid (DefBox g name (.slice A n c) W1) := by rw [hW1, hg]; exact (heap_alloc_old _ _ (by simp)).trans (heap_alloc_new _ _)
  have Y1 : Hid (SBox 36 (g + 1) SagaD.zero W1) := by rw [hW1, hg]; exact heap_second _ _ _
  have L1 : Hid (Later w W1) := by rw [hW1]; exact ((Below.refl _ _).alloc (Nat.le_refl _) _).alloc (by simp) _
  have HG0 : Hid (w.heap.size ≤ g) := Nat.le_of_eq hg.symm
  have CC : Hid (Calls Tryz.prog 75 #[.agg #[.string name, .slice A n c]] W1 fun e w' => e = .returned (.tuple #[.int .i64 (((checkF name l).1 : Nat) : Int), .int .i64 (((checkF name l).2 : Nat) : Int)]) ∧ Later W1 w') := check_any (StepsAt.kept h (Kept.of_below L1.out _))
  obtain ⟨k1, hk1⟩ : ∃ k1, (checkF name l).1 = k1 := ⟨_, rfl⟩
  obtain ⟨k2, hk2⟩ : ∃ k2, (checkF name l).2 = k2 := ⟨_, rfl⟩
  rw [hk1, hk2] at CC
  have e0 := X1.out.name_
  have e1 := X1.out.steps
  rw [hW1, hg] at e0 e1
  obtain rfl : k2 = 0 := by rw [← hk2]; exact he
  have CA := hide (fun W => at_any (w := W) ⟨name, A, n, c, 0, 0, 0, upH 0⟩ 1 1)
  have CO : Hid (∀ W, Later W1 W → Calls Tryz.prog 55 #[(SagaD.mk name A n c 1 1 1 (upH 0)).val] W (Owns ⟨name, A, n, c, 1, 1, 1, upH 0⟩ l W)) := fun W hW => own_any (s := ⟨name, A, n, c, 1, 1, 1, upH 0⟩) (StepsAt.kept h (Kept.of_below (L1.out.trans hW) _)) (by have := (check_good he).1; omega)
  have HW1 := hide hW1.symm
  have HG := hide hg.symm
  clear hW1 hg h he hk1 hk2
  go_enter Tryz.func53, Tryz.ntmps53
  go_wp2_with (fail)
  simp only [HW1.out, HG.out]
  refine CC.out.mono ?_
  rintro e w2 ⟨rfl, hl⟩
  have L12 := hide hl
  have L2 := hide (L1.out.trans hl)
  have X2 := hide (X1.out.below hl)
  have Y2 := hide (Y1.out.below hl)
  clear hl CC e0 e1
  have d0 := X2.out.name_
  have d1 := X2.out.steps
  go_wp2_with (refine wpList_build_parts (by rfl) 36 _ (by rfl) [(0, .agg #[.string name, .slice A n c])] (by rfl) (SagaD.mk name A n c 0 0 0 (upH 0)).cells.toArray (by kernel_rfl) ?_)
  refine (CA.out _).mono ?_
  rintro e w3 ⟨rfl, hl⟩
  have L13 := hide (L12.out.trans hl)
  have L3 := hide (L2.out.trans hl)
  have Y3 := hide (Y2.out.below hl)
  clear hl CA d0 d1
  go_wp2_with (fail)
  refine (CO.out _ L13.out).mono ?_
  rintro e w4 ⟨P, N, K, rfl, hs, hl⟩
  have HLT := hide (Y3.out.lt)
  have HSZ := hide (Below.size L3.out)
  have HS9 := hide hs
  have L4 := hide (L3.out.trans hl)
  have Y4 := hide (Y3.out.below hl)
  clear hl hs CO
  go_wp2_with (refine wpList_store_saga (s := SagaD.mk name P N K 1 1 1 (upH 0)) (by rfl) _ _ (by rfl) (by rfl) Y4.out (by rfl) ?_; intro w5 Z5 G5)
  have S9 : Hid (StepsAt (w.heap.size ≤ ·) w5 (.slice P N K) l) := FlatAt.mono (own_kept HS9.out HLT.out G5) (fun i _ hf => Nat.le_trans HSZ.out hf)
  have HLF : Hid (Later w _) := L4.out.grown G5 (Below.size L4.out) (fun k hk => by have := Option.some.inj hk; have := HG0.out; omega)
  refine bodyPost_ret (results_box2 Tryz.results53 _ _ (g + 1) 36 _ _ (by rfl) Z5 Tryz.underlying36 (by rfl) (by kernel_rfl) (.int .i64 0) (by rfl)) (by rfl) ?_
  exact ⟨P, N, K, rfl, S9.out, HLF.out⟩
end
end Go.Proofs.YtpckdhjnhnonhaaGreat
