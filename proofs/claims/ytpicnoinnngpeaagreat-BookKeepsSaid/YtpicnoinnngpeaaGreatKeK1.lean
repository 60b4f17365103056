/- Whatever the room and whatever operations: what is refused, or asks alone, changes nothing; what is told changes the book; a copy is the same, and goes its own way; no condition. -/
import Derived.Test.YtpicnoinnngpeaaGreatBaseK1
import Derived.Test.YtpicnoinnngpeaaGreatBaseK2
import Derived.Test.YtpicnoinnngpeaaGreatBaseK3
import Derived.Test.YtpicnoinnngpeaaGreatBaseK4
import Derived.Test.YtpicnoinnngpeaaGreatBaseK5
import Derived.Test.YtpicnoinnngpeaaGreatBaseK6
import Derived.Test.YtpicnoinnngpeaaGreatProg
import Derived.Deep.CutBlock
import Derived.Deep.DeepCutAuto
import Derived.Test.YtpicnoinnngpeaaGreatRows
import Derived.ProofKit
import Derived.OpenShut
import Derived.ShutString
import Derived.ChangeOld
/- Are two sagas, two maps of sagas, two books alike? -/
namespace Go.Proofs.YtpicnoinnngpeaaGreat
open Go.RowKit Go.Maps
def sameE (s : SagaD) (l : List StepD) (s2 : SagaD) (l2 : List StepD) : Bool :=
  decide (s.name = s2.name ∧ l = l2) && ((s.st == s2.st) && ((s.step == s2.step) && ((s.tr == s2.tr) && decide (s.hit = s2.hit))))
theorem sameE_refl (s : SagaD) (l : List StepD) : sameE s l s l = true := by simp [sameE]
section
variable {w : World}
set_option maxHeartbeats 2000000 in
theorem same13_any {F G : Nat → Prop} {a1 a2 : ByteArray} {v v2 : Value} {l m : List StepD} (hl : StepsAt F w v l) (hm : StepsAt G w v2 m) :
    Calls Tryz.prog 61 #[.agg #[.string a1, v], .agg #[.string a2, v2]] w fun e w' => e = .returned (.bool (decide (a1 = a2 ∧ l = m))) ∧ Later w w' := by
  obtain ⟨A, c, rfl, h1, h2, _⟩ := FlatAt.shape hl
  obtain ⟨A2, c2, rfl, h3, h4, _⟩ := FlatAt.shape hm
  obtain ⟨n, hn⟩ : ∃ n, l.length = n := ⟨_, rfl⟩
  obtain ⟨n2, hn2⟩ : ∃ n2, m.length = n2 := ⟨_, rfl⟩
  rw [hn] at h1 hl ⊢
  rw [hn2] at h3 hm ⊢
  have hbw : Later w ((w.alloc (.cells #[.string a1, .slice A n c] 31 (0, 0))).alloc (.cells #[.string a2, .slice A2 n2 c2] 31 (0, 0))) := ((Below.refl _ _).alloc (Nat.le_refl _) _).alloc (by simp) _
  have CE := hide (Sd.equal_steps F G (.slice A n c) (.slice A2 n2 c2) l m _ (hl.kept (Kept.of_below hbw F)) (hm.kept (Kept.of_below hbw G)))
  have HBW := hide hbw
  clear hl hm hbw hn hn2 h1 h2 h3 h4
  by_cases ha : a1 = a2
  · subst ha
    have hs1 : (a1.toList == a1.toList) = true := by simp
    go_enter Tryz.func61, Tryz.ntmps61
    go_wp2_with (fail)
    refine CE.out.mono ?_
    rintro e w1 ⟨rfl, q, rfl⟩
    go_wp2
    go_ret
    exact ⟨ret_bool (by simp), HBW.out.trans (below_drewN _ _ _)⟩
  · have hs0 : (a1.toList == a2.toList) = false := by rw [Sd.str_eq]; simpa using ha
    have HE := hide ha
    clear ha
    go_enter Tryz.func61, Tryz.ntmps61
    go_wp2
    go_ret
    exact ⟨ret_bool (by simp [HE.out]), HBW.out⟩
set_option maxHeartbeats 8000000 in
set_option maxRecDepth 100000 in
theorem saga_same {F G : Nat → Prop} {s : SagaD} {l : List StepD} {s2 : SagaD} {l2 : List StepD} (h : StepsAt F w s.v l) (h2 : StepsAt G w s2.v l2) :
    Calls Tryz.prog 27 #[s.val, s2.val] w (Gives (.bool (sameE s l s2 l2)) w) := by
  obtain ⟨W1, hW1⟩ : ∃ W1, W1 = (w.alloc (.cells s.cells.toArray 36 (0, 0))).alloc (.cells s2.cells.toArray 36 (0, 0)) := ⟨_, rfl⟩
  obtain ⟨d, hd⟩ : ∃ d, d = w.heap.size := ⟨_, rfl⟩
  have X1 : Hid (SBox 36 d s W1) := by rw [hW1, hd]; exact (heap_alloc_old _ _ (by simp)).trans (heap_alloc_new _ _)
  have Y1 : Hid (SBox 36 (d + 1) s2 W1) := by rw [hW1, hd]; exact heap_second _ _ _
  have L1 : Hid (Later w W1) := by rw [hW1]; exact ((Below.refl _ _).alloc (Nat.le_refl _) _).alloc (by simp) _
  have C := hide (same13_any (a1 := s.name) (a2 := s2.name) (StepsAt.kept h (Kept.of_below L1.out _)) (StepsAt.kept h2 (Kept.of_below L1.out _)))
  have a0 := X1.out.c0
  have a1 := X1.out.c1
  have b0 := Y1.out.c0
  have b1 := Y1.out.c1
  rw [hW1, hd] at a0 a1 b0 b1
  obtain ⟨q, hq⟩ : ∃ q, decide (s.name = s2.name ∧ l = l2) = q := ⟨_, rfl⟩
  unfold sameE
  rw [hq] at C ⊢
  have HW1 := hide hW1.symm
  have HG := hide hd.symm
  obtain ⟨v1, hv1⟩ : ∃ v1, s.v = v1 := ⟨_, rfl⟩
  clear h h2 hW1 hd hq hv1 v1
  obtain ⟨q2, hq2⟩ : ∃ q2, (s.st == s2.st) = q2 := ⟨_, rfl⟩
  obtain ⟨q3, hq3⟩ : ∃ q3, (s.step == s2.step) = q3 := ⟨_, rfl⟩
  obtain ⟨q4, hq4⟩ : ∃ q4, (s.tr == s2.tr) = q4 := ⟨_, rfl⟩
  obtain ⟨q5, hq5⟩ : ∃ q5, decide (s.hit = s2.hit) = q5 := ⟨_, rfl⟩
  rw [hq2, hq3, hq4, hq5]
  have Q2 := hide hq2
  have Q3 := hide hq3
  have Q4 := hide hq4
  have Q5 := hide hq5
  clear hq2 hq3 hq4 hq5
  go_enter Tryz.func27, Tryz.ntmps27
  go_wp2_with (fail)
  simp only [HW1.out, HG.out]
  refine C.out.mono ?_
  rintro e w2 ⟨rfl, hl2⟩
  have L2a : Later w W1 := L1.out
  have L2 : Hid (Later w w2) := Later.trans L2a hl2
  have X2 := hide (X1.out.below hl2)
  have Y2 := hide (Y1.out.below hl2)
  have c2 := X2.out.c2
  have c3 := X2.out.c3
  have c4 := X2.out.c4
  have d2 := Y2.out.c2
  have d3 := Y2.out.c3
  have d4 := Y2.out.c4
  have t2 := Q2.out
  have t3 := Q3.out
  have t4 := Q4.out
  generalize s.st = u2 at c2 t2
  generalize s2.st = v2 at d2 t2
  generalize s.step = u3 at c3 t3
  generalize s2.step = v3 at d3 t3
  generalize s.tr = u4 at c4 t4
  generalize s2.tr = v4 at d4 t4
  clear hl2 L2a C a0 a1 b0 b1
  cases q with
  | false =>
    go_wp2
    go_ret
    exact ⟨rfl, L2.out⟩
  | true =>
    cases q2 with
    | false =>
      go_wp2
      go_ret
      exact ⟨rfl, L2.out⟩
    | true =>
      cases q3 with
      | false =>
        go_wp2
        go_ret
        exact ⟨rfl, L2.out⟩
      | true =>
        cases q4 with
        | false =>
          go_wp2
          go_ret
          exact ⟨rfl, L2.out⟩
        | true =>
          go_wp2_with (first | (refine wpList_val rfl (by rfl) (exec_load_hits _ (by rfl) (by rfl) X2.out) ?_) | (refine wpList_val rfl (by rfl) (exec_load_hits _ (by rfl) (by rfl) Y2.out) ?_) | (refine wpList_val rfl (by rfl) (exec_eql_hits s.hit s2.hit _ _ _ (by rfl) (by rfl) (by rfl)) ?_; rw [Q5.out]))
          go_ret
          exact ⟨rfl, L2.out⟩
end
/-- Is that saga among those, alike? -/
def goodE (L2 : List Ent) (x : Ent) : Bool := match entAt L2 x.id with | some y => sameE x.s x.l y.s y.l | none => false
def eqE (L1 L2 : List Ent) : Bool := decide (L1.length = L2.length) && L1.all (goodE L2)
theorem eqE_refl {L : List Ent} (hr : RiseE L) : eqE L L = true := by
  unfold eqE
  simp only [decide_true, Bool.true_and, List.all_eq_true]
  intro x hx
  obtain ⟨i, hi, e⟩ := List.mem_iff_getElem.1 hx
  unfold goodE
  rw [entAt_get hr (by rw [List.getElem?_eq_getElem hi, e])]
  exact sameE_refl _ _
def GoodSo (L1 L2 : List Ent) (left : Lit → Bool) : Prop := ∀ x ∈ L1, left (.int .i64 x.id) = false → goodE L2 x = true
theorem GoodSo.start (L1 L2 : List Ent) (V : Ent → Value) : GoodSo L1 L2 (Maps.has (mapD (L1.map fun x => (x.id, V x)))) := fun x hx h => by
  rw [has_mapD] at h
  have : ((L1.map fun x => (x.id, V x)).any fun q => q.1 == x.id) = true := List.any_eq_true.2 ⟨(x.id, V x), List.mem_map.2 ⟨x, hx, rfl⟩, by simp⟩
  rw [this] at h
  cases h
theorem GoodSo.next {L1 L2 : List Ent} {left : Lit → Bool} {x : Ent} (h : GoodSo L1 L2 left) (hr : RiseE L1) (hx : x ∈ L1) (hg : goodE L2 x = true) : GoodSo L1 L2 (fun z => left z && !z.sameKey (.int .i64 x.id)) := fun y hy hl => by
  cases hly : left (.int .i64 y.id) with
  | false => exact h y hy hly
  | true =>
    have hl2 : (left (.int .i64 y.id) && !(Lit.int .i64 y.id).sameKey (.int .i64 x.id)) = false := hl
    rw [hly] at hl2
    have e : y.id = x.id := by simpa [Lit.sameKey] using hl2
    rw [rise_one hr hy hx e]
    exact hg
theorem GoodSo.done {L1 L2 : List Ent} {left : Lit → Bool} (h : GoodSo L1 L2 left) (hl : ∀ z, left z = false) (hn : L1.length = L2.length) : eqE L1 L2 = true := by
  unfold eqE
  rw [decide_eq_true hn, Bool.true_and, List.all_eq_true]
  exact fun x hx => h x hx (hl _)
theorem eqE_bad {L1 L2 : List Ent} {x : Ent} (hx : x ∈ L1) (hg : goodE L2 x = false) : eqE L1 L2 = false := by
  unfold eqE
  have : L1.all (goodE L2) = false := List.all_eq_false.2 ⟨x, hx, by rw [hg]; simp⟩
  rw [this, Bool.and_false]
section
variable {w : World}
set_option maxHeartbeats 8000000 in
set_option maxRecDepth 100000 in
theorem equal_maps {F G : Nat → Prop} {f1 f2 : Int → Loc} {b1 b2 k1 k2 : Nat} {L1 L2 : List Ent} (h1 : w.ownsMap Tryz.prog 3 heldR b1 k1 (mapD (L1.map (pairE f1)))) (h2 : w.ownsMap Tryz.prog 3 heldR b2 k2 (mapD (L2.map (pairE f2))))
    (hs1 : ∀ x ∈ L1, StepsAt F w (f1 x.id).v x.l) (hs2 : ∀ x ∈ L2, StepsAt G w (f2 x.id).v x.l) (hr1 : RiseE L1) (hf : Fit (idsOf L1)) :
    Calls Tryz.prog 58 #[.map (some b1), .map (some b2), .func (.func 27) #[] #[]] w (Gives (.bool (eqE L1 L2)) w) := by
  have H1 := hide h1
  have H2 := hide h2
  have HS1 := hide hs1
  have HS2 := hide hs2
  have HR1 := hide hr1
  have HF := hide hf
  have z1 : Maps.size (mapD (L1.map (pairE f1))) = L1.length := by rw [size_mapD, List.length_map]
  have z2 : Maps.size (mapD (L2.map (pairE f2))) = L2.length := by rw [size_mapD, List.length_map]
  have Z1 := hide z1
  have Z2 := hide z2
  obtain ⟨n1, hn1⟩ : ∃ n, L1.length = n := ⟨_, rfl⟩
  obtain ⟨n2, hn2⟩ : ∃ n, L2.length = n := ⟨_, rfl⟩
  rw [hn1] at Z1
  rw [hn2] at Z2
  obtain ⟨res, hres⟩ : ∃ res, eqE L1 L2 = res := ⟨_, rfl⟩
  rw [hres]
  have RES := hide hres
  have HN1 := hide hn1
  have HN2 := hide hn2
  clear h1 h2 hs1 hs2 hr1 hf z1 z2 hres hn1 hn2
  by_cases hne : n1 = n2
  · subst hne
    go_enter Tryz.func58, Tryz.ntmps58
    go_wp2_with (first
      | (at_len; refine wpList_len_own _ rfl _ 77 rfl 3 36 Tryz.underlying77 _ b1 k1 _ rfl H1.out ?_; rw [Z1.out])
      | (at_len; refine wpList_len_own _ rfl _ 77 rfl 3 36 Tryz.underlying77 _ b2 k2 _ rfl H2.out ?_; rw [Z2.out])
      | (at_range; refine wpList_range_own _ rfl _ 77 rfl 3 36 Tryz.int_law Tryz.underlying77 _ b1 k1 _ rfl H1.out ?_; intro w2 hrg0 hg0 hs0))
    have HG0 : Hid (Later w w2) := later_of_grown hg0
    have HRG0 := hide hrg0
    clear hrg0 hg0 hs0
    obtain ⟨R, hRR⟩ : ∃ R, w.heap.size = R := ⟨_, rfl⟩
    rw [hRR] at HRG0 ⊢
    have HRR := hide hRR
    clear hRR
    go_frame
    go_loopw [18] (fun _ wr => ∃ (left : Lit → Bool) (cnt : Nat), wr.ranges Tryz.prog 3 heldR b1 R k1 (mapD (L1.map (pairE f1))) left cnt ∧ GoodSo L1 L2 left ∧ Later w wr) (fun _ wr => wr.rangeLeft b1 R)
    case atStart => exact ⟨_, _, HRG0.out, GoodSo.start L1 L2 (Ent.val f1), HG0.out⟩
    case round =>
      obtain ⟨left, cnt, hrg, htop, hb⟩ := hrel
      have HRG := hide hrg
      have HTOP := hide htop
      have HB := hide hb
      clear hrg htop hb HRG0 HG0
      go_wp2_with (at_next; refine wpList_next_ranges _ rfl _ rfl 3 Tryz.int_law heldR (Value.int .i64) id (fun key kl hkey => by obtain ⟨x, rfl, _⟩ := Maps.keyOf_int_inv Tryz.underlying3 hkey; exact ⟨x, rfl⟩) (fun v _ _ => ⟨v, rfl⟩) b1 R k1 _ _ _ rfl HRG.out ?_ ?_)
      · intro _ hl0
        have hd := HTOP.out.done hl0 (by rw [HN1.out, HN2.out])
        rw [RES.out] at hd
        subst hd
        go_wp2
        go_ret
        exact ⟨rfl, HB.out⟩
      · intro x c kl yd yp w3 cnt3 hkey hlx hv hat hrg3 hlt hg3 hs3 hen
        obtain ⟨x', ex, rfl, _⟩ := Maps.keyOf_int_inv Tryz.underlying3 hkey
        cases ex
        obtain ⟨z, hz, rfl, hzd⟩ := came_ent hat
        have hcv : c = z.val f1 := by
          have e1 : (DataW.held c, ([] : List MemPlace)) = (yd, yp) := Option.some.inj hv
          have e2 : DataW.held c = yd := congrArg Prod.fst e1
          rw [← e2] at hzd
          exact DataW.held.inj hzd
        subst hcv
        have HRG3 := hide hrg3
        have HB3 : Hid (Later w w3) := Below.grown HB.out hg3 (Below.size HB.out) (fun k hk => by have := Option.some.inj hk; have := HRR.out; omega)
        have HZ := hide hz
        have HSZ : Hid (StepsAt F w3 (f1 z.id).v z.l) := StepsAt.kept (HS1.out z hz) (Kept.of_below HB3.out F)
        have hid64 : I64 z.id := HF.out z.id (List.mem_map.2 ⟨z, hz, rfl⟩)
        have HKEY := hide (int_key hid64)
        have HH2 : Hid (w3.ownsMap Tryz.prog 3 heldR b2 k2 (mapD (L2.map (pairE f2)))) := H2.out.kept (later_grown HB3.out) (by simp)
        have hfound := found_ent f2 L2 SagaD.zero.val z.id
        have hgood : goodE L2 z = match entAt L2 z.id with | some y => sameE z.s z.l y.s y.l | none => false := rfl
        obtain ⟨zi, zs, zl⟩ := z
        simp only [id] at HZ hen hfound HKEY HSZ hgood ⊢
        simp only at HRG3
        obtain ⟨lc, hlc⟩ : ∃ lc, f1 zi = lc := ⟨_, rfl⟩
        have hvz : Ent.val f1 ⟨zi, zs, zl⟩ = (zs.withV lc.p lc.n lc.c).val := by rw [← hlc]; rfl
        rw [hvz] at hen ⊢
        rw [hlc] at HSZ
        obtain ⟨s2, hs2⟩ : ∃ s2, zs.withV lc.p lc.n lc.c = s2 := ⟨_, rfl⟩
        rw [hs2] at hen ⊢
        have HS2Z := hide hs2
        have HLT := hide hlt
        clear hat hrg3 hg3 hs3 hlx hv hkey hz hzd hvz hlc hs2 hlt hid64
        have T3 : Hid (SBox 36 w3.heap.size SagaD.zero (w3.alloc (.cells #[.string ⟨#[]⟩, .slice none 0 0, .int .i64 0, .int .i64 0, .int .i64 0, .bool false, .bool false, .bool false, .bool false, .bool false, .bool false, .bool false, .bool false] 36 (0, 0)))) := heap_alloc_new _ _
        have L3 : Hid (Later w3 (w3.alloc (.cells #[.string ⟨#[]⟩, .slice none 0 0, .int .i64 0, .int .i64 0, .int .i64 0, .bool false, .bool false, .bool false, .bool false, .bool false, .bool false, .bool false, .bool false] 36 (0, 0)))) := (Below.refl _ _).alloc (Nat.le_refl _) _
        go_wp2_with (refine wpList_store_saga (s := s2) (by rfl) _ _ (by rfl) (by rfl) T3.out (by rfl) ?_)
        intro w4 X4 G4
        have L4 : Hid (Later w3 w4) := L3.out.grown G4 (by simp) (fun k hk => by have := Option.some.inj hk; omega)
        have XX := hide X4
        have HH4 : Hid (w4.ownsMap Tryz.prog 3 heldR b2 k2 (mapD (L2.map (pairE f2)))) := HH2.out.kept (later_grown L4.out) (by simp)
        have T4 : Hid (SBox 36 w4.heap.size SagaD.zero (w4.alloc (.cells #[.string ⟨#[]⟩, .slice none 0 0, .int .i64 0, .int .i64 0, .int .i64 0, .bool false, .bool false, .bool false, .bool false, .bool false, .bool false, .bool false, .bool false] 36 (0, 0)))) := heap_alloc_new _ _
        have L4b : Hid (Later w4 (w4.alloc (.cells #[.string ⟨#[]⟩, .slice none 0 0, .int .i64 0, .int .i64 0, .int .i64 0, .bool false, .bool false, .bool false, .bool false, .bool false, .bool false, .bool false, .bool false] 36 (0, 0)))) := (Below.refl _ _).alloc (Nat.le_refl _) _
        clear X4 G4 hen
        cases hx2 : entAt L2 zi with
        | none =>
          rw [hx2] at hfound hgood
          have HFO : Hid (foundIn (L2.map (pairE f2)) SagaD.zero.val zi = (SagaD.zero.val, false)) := hfound
          have hres := eqE_bad HZ.out hgood
          rw [RES.out] at hres
          subst hres
          clear hfound hgood hx2
          go_wp2_with (first
            | (at_lookup; refine wpList_lookup_held rfl _ _ 77 rfl 3 36 Tryz.int_law Tryz.underlying77 SagaD.zero.val (by kernel_rfl) b2 k2 _ rfl HH4.out zi rfl HKEY.out _ false HFO.out ?_)
            | (refine wpList_store_saga (s := SagaD.zero) (by rfl) _ _ (by rfl) (by rfl) T4.out (by rfl) ?_; intro w5 X5 G5))
          have L5 : Hid (Later w4 w5) := L4b.out.grown G5 (by simp) (fun k hk => by have := Option.some.inj hk; omega)
          have La : Later w w3 := HB3.out
          have Lb : Later w3 w5 := Later.trans L4.out L5.out
          have Lc : Hid (Later w w5) := Later.trans La Lb
          go_ret
          exact ⟨rfl, Lc.out⟩
        | some y =>
          rw [hx2] at hfound hgood
          obtain ⟨hy, hyi⟩ := entAt_mem hx2
          obtain ⟨yi, ys, yl⟩ := y
          obtain rfl : yi = zi := hyi
          simp only at hgood
          obtain ⟨ly, hly⟩ : ∃ ly, f2 yi = ly := ⟨_, rfl⟩
          have HSY := HS2.out _ hy
          simp only at HSY
          rw [hly] at HSY
          have hvy : Ent.val f2 ⟨yi, ys, yl⟩ = (ys.withV ly.p ly.n ly.c).val := by rw [← hly]; rfl
          have hfound : foundIn (L2.map (pairE f2)) SagaD.zero.val yi = (Ent.val f2 ⟨yi, ys, yl⟩, true) := hfound
          rw [hvy] at hfound
          obtain ⟨s3, hs3⟩ : ∃ s3, ys.withV ly.p ly.n ly.c = s3 := ⟨_, rfl⟩
          rw [hs3] at hfound
          have HFO := hide hfound
          have HGD := hide hgood
          have E3 := hide hs3
          have HSYY : Hid (StepsAt G w s3.v yl) := by rw [show s3.v = ly.v from by rw [← hs3]; rfl]; exact HSY
          have HSZZ : Hid (StepsAt F w3 s2.v zl) := by rw [show s2.v = lc.v from by rw [← HS2Z.out]; rfl]; exact HSZ.out
          have hsame : sameE s2 zl s3 yl = sameE zs zl ys yl := by rw [← HS2Z.out, ← hs3]; rfl
          have HSM := hide hsame
          clear hfound hgood hx2 hy hly HSY hvy hs3 hsame
          go_wp2_with (first
            | (at_lookup; refine wpList_lookup_held rfl _ _ 77 rfl 3 36 Tryz.int_law Tryz.underlying77 SagaD.zero.val (by kernel_rfl) b2 k2 _ rfl HH4.out yi rfl HKEY.out _ true HFO.out ?_)
            | (refine wpList_store_saga (s := s3) (by rfl) _ _ (by rfl) (by rfl) T4.out (by rfl) ?_))
          intro w5 X5 G5
          have L5 : Hid (Later w4 w5) := L4b.out.grown G5 (by simp) (fun k hk => by have := Option.some.inj hk; omega)
          have XX5 : Hid (SBox 36 w3.heap.size s2 w5) := XX.out.below L5.out
          have YY5 := hide X5
          have La : Later w w3 := HB3.out
          have Lb : Later w3 w5 := Later.trans L4.out L5.out
          have Lc : Hid (Later w w5) := Later.trans La Lb
          have Ld : Hid (Later w3 w5) := Lb
          have CS := hide (saga_same (StepsAt.kept HSZZ.out (Kept.of_below Ld.out F)) (StepsAt.kept HSYY.out (Kept.of_below Lc.out G)))
          rw [HSM.out, ← HGD.out] at CS
          clear X5 G5 La Lb
          go_wp2_with (first | (refine wpList_val rfl (by rfl) (exec_load_saga _ (by rfl) (by rfl) XX5.out) ?_) | (refine wpList_val rfl (by rfl) (exec_load_saga _ (by rfl) (by rfl) YY5.out) ?_))
          refine CS.out.mono ?_
          rintro e w6 ⟨rfl, hl6⟩
          have La : Later w w5 := Lc.out
          have L6 : Hid (Later w w6) := Later.trans La hl6
          have Lb : Later w3 w5 := Ld.out
          have L36 : Hid (Later w3 w6) := Later.trans Lb hl6
          clear hl6 La Lb CS
          cases hgq : goodE L2 ⟨yi, zs, zl⟩ with
          | false =>
            have hres := eqE_bad HZ.out hgq
            rw [RES.out] at hres
            subst hres
            clear hgq
            go_wp2
            go_ret
            exact ⟨rfl, L6.out⟩
          | true =>
            have HT6 := hide (HTOP.out.next HR1.out HZ.out hgq)
            have HRG6 := hide (HRG3.out.kept (later_grown L36.out) (by simp) (by simp))
            clear hgq
            go_wp2
            go_roundw
            case rel => exact ⟨_, _, HRG6.out, HT6.out, L6.out⟩
            case measure => rw [HRG6.out.left_eq, HRG.out.left_eq]; exact HLT.out
  · have hres : eqE L1 L2 = false := by
      unfold eqE
      rw [HN1.out, HN2.out, decide_eq_false hne, Bool.false_and]
    rw [RES.out] at hres
    subst hres
    have hne2 : ((n1 : Int) != (n2 : Int)) = true := by simp; omega
    clear hne
    go_enter Tryz.func58, Tryz.ntmps58
    go_wp2_with (first
      | (at_len; refine wpList_len_own _ rfl _ 77 rfl 3 36 Tryz.underlying77 _ b1 k1 _ rfl H1.out ?_; rw [Z1.out])
      | (at_len; refine wpList_len_own _ rfl _ 77 rfl 3 36 Tryz.underlying77 _ b2 k2 _ rfl H2.out ?_; rw [Z2.out]))
    go_ret
    exact ⟨rfl, Later.refl _⟩
end
end Go.Proofs.YtpicnoinnngpeaaGreat
/- Are two books alike? -/
namespace Go.Proofs.YtpicnoinnngpeaaGreat
open Go.RowKit Go.Maps
def sameT (t1 t2 : BkS) : Bool := (t1.last == t2.last) && eqE t1.L t2.L
theorem sameT_refl {t : BkS} (h : BkOk t) : sameT t t = true := by unfold sameT; rw [eqE_refl h.1]; simp
section
variable {w : World}
set_option maxHeartbeats 8000000 in
set_option maxRecDepth 100000 in
theorem same_yes {F G : Nat → Prop} {g1 b1 k1 g2 b2 k2 : Nat} {most la la2 : Int} {L1 L2 : List Ent} (h1 : BookAt F w g1 b1 k1 most ⟨la, L1⟩) (h2 : BookAt G w g2 b2 k2 most ⟨la2, L2⟩) (hq : (la == la2) = true) :
    Calls Tryz.prog 25 #[.pointer (some ⟨g1, 0, none⟩), .pointer (some ⟨g2, 0, none⟩)] w (Gives (.bool (eqE L1 L2)) w) := by
  have C1 := hide (made_yes h1)
  have C2 := hide (made_yes h2)
  have CF1 : Hid (∀ W, Later w W → W.cell? ⟨g1, 0, none⟩ = some (.int .i64 most) ∧ W.cell? ⟨g1, 1, none⟩ = some (.int .i64 la) ∧ W.cell? ⟨g1, 2, none⟩ = some (.map (some b1))) := fun W hW => ⟨(h1.later hW).c0, (h1.later hW).c1, (h1.later hW).c2⟩
  have CF2 : Hid (∀ W, Later w W → W.cell? ⟨g2, 0, none⟩ = some (.int .i64 most) ∧ W.cell? ⟨g2, 1, none⟩ = some (.int .i64 la2) ∧ W.cell? ⟨g2, 2, none⟩ = some (.map (some b2))) := fun W hW => ⟨(h2.later hW).c0, (h2.later hW).c1, (h2.later hW).c2⟩
  have CE : Hid (∀ W, Later w W → Calls Tryz.prog 58 #[.map (some b1), .map (some b2), .func (.func 27) #[] #[]] W (Gives (.bool (eqE L1 L2)) W)) := fun W hW => by
    obtain ⟨f1, m1, s1⟩ := (h1.later hW).body
    obtain ⟨f2, m2, s2⟩ := (h2.later hW).body
    exact equal_maps m1 m2 s1 s2 h1.ok.1 h1.ok.fit
  obtain ⟨r, hr⟩ : ∃ r, eqE L1 L2 = r := ⟨_, rfl⟩
  rw [hr] at CE ⊢
  clear h1 h2 hr
  go_enter Tryz.func25, Tryz.ntmps25
  go_wp2_with (fail)
  refine C1.out.mono ?_
  rintro e w1 ⟨rfl, rfl⟩
  go_wp2_with (fail)
  refine C2.out.mono ?_
  rintro e w1 ⟨rfl, rfl⟩
  clear C1 C2
  go_wp2_with (fail)
  refine wp_region_L (by kernel_rfl) ?_
  refine wpAnyL_take (i := 0) (d := some 19) (v := ?vaa0) rfl rfl (by kernel_rfl) (by kernel_rfl) (by kernel_rfl) (fun _ _ _ h => h) (by rfl) ?yaa0 ?_
  case yaa0 => (intro w' hw'; go_simp; try (with_reducible rfl))
  simp only [Act.put]; try simp only [List.setIfInBounds_toArray]; try simp only [List.set_cons_zero, List.set_cons_succ]
  refine wpAnyL_take (i := 1) (d := some 20) (v := ?vaa1) rfl rfl (by kernel_rfl) (by kernel_rfl) (by kernel_rfl) (fun _ _ _ h => h) (by rfl) ?yaa1 ?_
  case yaa1 => (intro w' hw'; go_simp; try (with_reducible rfl))
  simp only [Act.put]; try simp only [List.setIfInBounds_toArray]; try simp only [List.set_cons_zero, List.set_cons_succ]
  refine wpAnyL_take (i := 2) (d := some 21) (v := ?vaa2) rfl rfl (by kernel_rfl) (by kernel_rfl) (by kernel_rfl) (fun _ _ _ h => h) (by rfl) ?yaa2 ?_
  case yaa2 => (intro w' hw'; go_simp; try (with_reducible rfl))
  simp only [Act.put]; try simp only [List.setIfInBounds_toArray]; try simp only [List.set_cons_zero, List.set_cons_succ]
  refine wpAnyL_take (i := 3) (d := some 22) (v := ?vaa3) rfl rfl (by kernel_rfl) (by kernel_rfl) (by kernel_rfl) (fun _ _ _ h => h) (by rfl) ?yaa3 ?_
  case yaa3 => (intro w' hw'; obtain ⟨k0, k1, k2⟩ := CF1.out _ (Later.trans (Later.drew w) hw'); obtain ⟨m0, m1, m2⟩ := CF2.out _ (Later.trans (Later.drew w) hw'); go_simp; try (with_reducible rfl))
  simp only [Act.put]; try simp only [List.setIfInBounds_toArray]; try simp only [List.set_cons_zero, List.set_cons_succ]
  refine wpAnyL_take (i := 4) (d := some 23) (v := ?vaa4) rfl rfl (by kernel_rfl) (by kernel_rfl) (by kernel_rfl) (fun _ _ _ h => h) (by rfl) ?yaa4 ?_
  case yaa4 => (intro w' hw'; go_simp; try (with_reducible rfl))
  simp only [Act.put]; try simp only [List.setIfInBounds_toArray]; try simp only [List.set_cons_zero, List.set_cons_succ]
  refine wpAnyL_take (i := 5) (d := some 24) (v := ?vaa5) rfl rfl (by kernel_rfl) (by kernel_rfl) (by kernel_rfl) (fun _ _ _ h => h) (by rfl) ?yaa5 ?_
  case yaa5 => (intro w' hw'; go_simp; try (with_reducible rfl))
  simp only [Act.put]; try simp only [List.setIfInBounds_toArray]; try simp only [List.set_cons_zero, List.set_cons_succ]
  refine wpAnyL_take (i := 6) (d := some 25) (v := ?vaa6) rfl rfl (by kernel_rfl) (by kernel_rfl) (by kernel_rfl) (fun _ _ _ h => h) (by rfl) ?yaa6 ?_
  case yaa6 => (intro w' hw'; go_simp; try (with_reducible rfl))
  simp only [Act.put]; try simp only [List.setIfInBounds_toArray]; try simp only [List.set_cons_zero, List.set_cons_succ]
  refine wpAnyL_take (i := 7) (d := some 26) (v := ?vaa7) rfl rfl (by kernel_rfl) (by kernel_rfl) (by kernel_rfl) (fun _ _ _ h => h) (by rfl) ?yaa7 ?_
  case yaa7 => (intro w' hw'; obtain ⟨k0, k1, k2⟩ := CF1.out _ (Later.trans (Later.drew w) hw'); obtain ⟨m0, m1, m2⟩ := CF2.out _ (Later.trans (Later.drew w) hw'); go_simp; try (with_reducible rfl))
  simp only [Act.put]; try simp only [List.setIfInBounds_toArray]; try simp only [List.set_cons_zero, List.set_cons_succ]
  refine wpAnyL_take (i := 8) (d := some 27) (v := ?vaa8) rfl rfl (by kernel_rfl) (by kernel_rfl) (by kernel_rfl) (fun _ _ _ h => h) (by rfl) ?yaa8 ?_
  case yaa8 => (intro w' hw'; go_simp; try (with_reducible rfl))
  simp only [Act.put]; try simp only [List.setIfInBounds_toArray]; try simp only [List.set_cons_zero, List.set_cons_succ]
  refine wpAnyL_take (i := 9) (d := some 28) (v := ?vaa9) rfl rfl (by kernel_rfl) (by kernel_rfl) (by kernel_rfl) (fun _ _ _ h => h) (by rfl) ?yaa9 ?_
  case yaa9 => (intro w' hw'; go_simp; try (with_reducible rfl))
  simp only [Act.put]; try simp only [List.setIfInBounds_toArray]; try simp only [List.set_cons_zero, List.set_cons_succ]
  refine wpAnyL_take (i := 10) (d := some 29) (v := ?vaa10) rfl rfl (by kernel_rfl) (by kernel_rfl) (by kernel_rfl) (fun _ _ _ h => h) (by rfl) ?yaa10 ?_
  case yaa10 => (intro w' hw'; go_simp; try (with_reducible rfl))
  simp only [Act.put]; try simp only [List.setIfInBounds_toArray]; try simp only [List.set_cons_zero, List.set_cons_succ]
  refine wpAnyL_take (i := 11) (d := some 30) (v := ?vaa11) rfl rfl (by kernel_rfl) (by kernel_rfl) (by kernel_rfl) (fun _ _ _ h => h) (by rfl) ?yaa11 ?_
  case yaa11 => (intro w' hw'; go_simp; try (with_reducible rfl))
  simp only [Act.put]; try simp only [List.setIfInBounds_toArray]; try simp only [List.set_cons_zero, List.set_cons_succ]
  refine wpAnyL_take (i := 12) (d := some 31) (v := ?vaa12) rfl rfl (by kernel_rfl) (by kernel_rfl) (by kernel_rfl) (fun _ _ _ h => h) (by rfl) ?yaa12 ?_
  case yaa12 => (intro w' hw'; go_simp; try (with_reducible rfl))
  simp only [Act.put]; try simp only [List.setIfInBounds_toArray]; try simp only [List.set_cons_zero, List.set_cons_succ]
  refine wpAnyL_take (i := 13) (d := some 32) (v := ?vaa13) rfl rfl (by kernel_rfl) (by kernel_rfl) (by kernel_rfl) (fun _ _ _ h => h) (by rfl) ?yaa13 ?_
  case yaa13 => (intro w' hw'; obtain ⟨k0, k1, k2⟩ := CF1.out _ (Later.trans (Later.drew w) hw'); obtain ⟨m0, m1, m2⟩ := CF2.out _ (Later.trans (Later.drew w) hw'); go_simp; try (with_reducible rfl))
  simp only [Act.put]; try simp only [List.setIfInBounds_toArray]; try simp only [List.set_cons_zero, List.set_cons_succ]
  refine wpAnyL_take (i := 14) (d := some 33) (v := ?vaa14) rfl rfl (by kernel_rfl) (by kernel_rfl) (by kernel_rfl) (fun _ _ _ h => h) (by rfl) ?yaa14 ?_
  case yaa14 => (intro w' hw'; go_simp; try (with_reducible rfl))
  simp only [Act.put]; try simp only [List.setIfInBounds_toArray]; try simp only [List.set_cons_zero, List.set_cons_succ]
  refine wpAnyL_take (i := 15) (d := some 34) (v := ?vaa15) rfl rfl (by kernel_rfl) (by kernel_rfl) (by kernel_rfl) (fun _ _ _ h => h) (by rfl) ?yaa15 ?_
  case yaa15 => (intro w' hw'; go_simp; try (with_reducible rfl))
  simp only [Act.put]; try simp only [List.setIfInBounds_toArray]; try simp only [List.set_cons_zero, List.set_cons_succ]
  refine wpAnyL_take (i := 16) (d := some 35) (v := ?vaa16) rfl rfl (by kernel_rfl) (by kernel_rfl) (by kernel_rfl) (fun _ _ _ h => h) (by rfl) ?yaa16 ?_
  case yaa16 => (intro w' hw'; go_simp; try (with_reducible rfl))
  simp only [Act.put]; try simp only [List.setIfInBounds_toArray]; try simp only [List.set_cons_zero, List.set_cons_succ]
  refine wpAnyL_take (i := 17) (d := some 36) (v := ?vaa17) rfl rfl (by kernel_rfl) (by kernel_rfl) (by kernel_rfl) (fun _ _ _ h => h) (by rfl) ?yaa17 ?_
  case yaa17 => (intro w' hw'; obtain ⟨k0, k1, k2⟩ := CF1.out _ (Later.trans (Later.drew w) hw'); obtain ⟨m0, m1, m2⟩ := CF2.out _ (Later.trans (Later.drew w) hw'); go_simp; try (with_reducible rfl))
  simp only [Act.put]; try simp only [List.setIfInBounds_toArray]; try simp only [List.set_cons_zero, List.set_cons_succ]
  refine wpAnyL_take (i := 18) (d := some 37) (v := ?vaa18) rfl rfl (by kernel_rfl) (by kernel_rfl) (by kernel_rfl) (fun _ _ _ h => h) (by rfl) ?yaa18 ?_
  case yaa18 => (intro w' hw'; go_simp; try (with_reducible rfl))
  simp only [Act.put]; try simp only [List.setIfInBounds_toArray]; try simp only [List.set_cons_zero, List.set_cons_succ]
  refine wpAnyL_take (i := 19) (d := some 38) (v := ?vaa19) rfl rfl (by kernel_rfl) (by kernel_rfl) (by kernel_rfl) (fun _ _ _ h => h) (by rfl) ?yaa19 ?_
  case yaa19 => (intro w' hw'; go_simp; try (with_reducible rfl))
  simp only [Act.put]; try simp only [List.setIfInBounds_toArray]; try simp only [List.set_cons_zero, List.set_cons_succ]
  refine wpAnyL_take (i := 20) (d := some 39) (v := ?vaa20) rfl rfl (by kernel_rfl) (by kernel_rfl) (by kernel_rfl) (fun _ _ _ h => h) (by rfl) ?yaa20 ?_
  case yaa20 => (intro w' hw'; go_simp; try (with_reducible rfl))
  simp only [Act.put]; try simp only [List.setIfInBounds_toArray]; try simp only [List.set_cons_zero, List.set_cons_succ]
  refine wpAnyL_take (i := 21) (d := some 40) (v := ?vaa21) rfl rfl (by kernel_rfl) (by kernel_rfl) (by kernel_rfl) (fun _ _ _ h => h) (by rfl) ?yaa21 ?_
  case yaa21 => (intro w' hw'; go_simp; try (with_reducible rfl))
  simp only [Act.put]; try simp only [List.setIfInBounds_toArray]; try simp only [List.set_cons_zero, List.set_cons_succ]
  refine wpAnyL_take (i := 22) (d := some 41) (v := ?vaa22) rfl rfl (by kernel_rfl) (by kernel_rfl) (by kernel_rfl) (fun _ _ _ h => h) (by rfl) ?yaa22 ?_
  case yaa22 => (intro w' hw'; go_simp; try (with_reducible rfl))
  simp only [Act.put]; try simp only [List.setIfInBounds_toArray]; try simp only [List.set_cons_zero, List.set_cons_succ]
  refine wpAnyL_take (i := 23) (d := some 42) (v := ?vaa23) rfl rfl (by kernel_rfl) (by kernel_rfl) (by kernel_rfl) (fun _ _ _ h => h) (by rfl) ?yaa23 ?_
  case yaa23 => (intro w' hw'; go_simp; try (with_reducible rfl))
  simp only [Act.put]; try simp only [List.setIfInBounds_toArray]; try simp only [List.set_cons_zero, List.set_cons_succ]
  refine wpAnyL_take (i := 24) (d := some 43) (v := ?vaa24) rfl rfl (by kernel_rfl) (by kernel_rfl) (by kernel_rfl) (fun _ _ _ h => h) (by rfl) ?yaa24 ?_
  case yaa24 => (intro w' hw'; obtain ⟨k0, k1, k2⟩ := CF1.out _ (Later.trans (Later.drew w) hw'); obtain ⟨m0, m1, m2⟩ := CF2.out _ (Later.trans (Later.drew w) hw'); go_simp; try (with_reducible rfl))
  simp only [Act.put]; try simp only [List.setIfInBounds_toArray]; try simp only [List.set_cons_zero, List.set_cons_succ]
  refine wpAnyL_take (i := 25) (d := some 44) (v := ?vaa25) rfl rfl (by kernel_rfl) (by kernel_rfl) (by kernel_rfl) (fun _ _ _ h => h) (by rfl) ?yaa25 ?_
  case yaa25 => (intro w' hw'; go_simp; try (with_reducible rfl))
  simp only [Act.put]; try simp only [List.setIfInBounds_toArray]; try simp only [List.set_cons_zero, List.set_cons_succ]
  refine wpAnyL_take (i := 26) (d := some 45) (v := ?vaa26) rfl rfl (by kernel_rfl) (by kernel_rfl) (by kernel_rfl) (fun _ _ _ h => h) (by rfl) ?yaa26 ?_
  case yaa26 => (intro w' hw'; go_simp; try (with_reducible rfl))
  simp only [Act.put]; try simp only [List.setIfInBounds_toArray]; try simp only [List.set_cons_zero, List.set_cons_succ]
  refine wpAnyL_take (i := 27) (d := some 46) (v := ?vaa27) rfl rfl (by kernel_rfl) (by kernel_rfl) (by kernel_rfl) (fun _ _ _ h => h) (by rfl) ?yaa27 ?_
  case yaa27 => (intro w' hw'; go_simp; try (with_reducible rfl))
  simp only [Act.put]; try simp only [List.setIfInBounds_toArray]; try simp only [List.set_cons_zero, List.set_cons_succ]
  refine wpAnyL_take (i := 28) (d := some 47) (v := ?vaa28) rfl rfl (by kernel_rfl) (by kernel_rfl) (by kernel_rfl) (fun _ _ _ h => h) (by rfl) ?yaa28 ?_
  case yaa28 => (intro w' hw'; obtain ⟨k0, k1, k2⟩ := CF1.out _ (Later.trans (Later.drew w) hw'); obtain ⟨m0, m1, m2⟩ := CF2.out _ (Later.trans (Later.drew w) hw'); go_simp; try (with_reducible rfl))
  simp only [Act.put]; try simp only [List.setIfInBounds_toArray]; try simp only [List.set_cons_zero, List.set_cons_succ]
  refine wpAnyL_only (i := 29) rfl (by kernel_rfl) (by rfl) fun K hK => ?_
  go_simp
  refine (CE.out _ (Later.drew w)).mono ?_
  rintro e w1 ⟨rfl, hl1⟩
  have hd1 : Later w w.drew := Later.drew _
  have HL : Hid (Later w w1) := Later.trans hd1 hl1
  have hl2 : Later w.drew w1 := hl1
  refine hK.out _ _ hl2 ?_
  clear hl1 hl2 hd1
  clear hK K
  try (simp only [Act.put]; try simp only [List.setIfInBounds_toArray]; try simp only [List.set_cons_zero, List.set_cons_succ])
  refine wpAnyL_take (i := 30) (d := some 49) (v := ?vaa30) rfl rfl (by kernel_rfl) (by kernel_rfl) (by kernel_rfl) (fun _ _ _ h => h) (by rfl) ?yaa30 ?_
  case yaa30 => (intro w' hw'; go_simp; try (with_reducible rfl))
  simp only [Act.put]; try simp only [List.setIfInBounds_toArray]; try simp only [List.set_cons_zero, List.set_cons_succ]
  refine wpAnyL_take (i := 31) (d := some 4) (v := ?vaa31) rfl rfl (by kernel_rfl) (by kernel_rfl) (by kernel_rfl) (fun _ _ _ h => h) (by rfl) ?yaa31 ?_
  case yaa31 => (intro w' hw'; go_simp; try (with_reducible rfl))
  simp only [Act.put]; try simp only [List.setIfInBounds_toArray]; try simp only [List.set_cons_zero, List.set_cons_succ]
  refine wpAnyL_done (by kernel_rfl) ?_ _
  go_wp2
  go_ret
  exact ⟨rfl, HL.out⟩
set_option maxHeartbeats 8000000 in
set_option maxRecDepth 100000 in
theorem same_no {F G : Nat → Prop} {g1 b1 k1 g2 b2 k2 : Nat} {most la la2 : Int} {L1 L2 : List Ent} (h1 : BookAt F w g1 b1 k1 most ⟨la, L1⟩) (h2 : BookAt G w g2 b2 k2 most ⟨la2, L2⟩) (hq : (la == la2) = false) :
    Calls Tryz.prog 25 #[.pointer (some ⟨g1, 0, none⟩), .pointer (some ⟨g2, 0, none⟩)] w (Gives (.bool (false)) w) := by
  have C1 := hide (made_yes h1)
  have C2 := hide (made_yes h2)
  have CF1 : Hid (∀ W, Later w W → W.cell? ⟨g1, 0, none⟩ = some (.int .i64 most) ∧ W.cell? ⟨g1, 1, none⟩ = some (.int .i64 la) ∧ W.cell? ⟨g1, 2, none⟩ = some (.map (some b1))) := fun W hW => ⟨(h1.later hW).c0, (h1.later hW).c1, (h1.later hW).c2⟩
  have CF2 : Hid (∀ W, Later w W → W.cell? ⟨g2, 0, none⟩ = some (.int .i64 most) ∧ W.cell? ⟨g2, 1, none⟩ = some (.int .i64 la2) ∧ W.cell? ⟨g2, 2, none⟩ = some (.map (some b2))) := fun W hW => ⟨(h2.later hW).c0, (h2.later hW).c1, (h2.later hW).c2⟩
  have CE : Hid (∀ W, Later w W → Calls Tryz.prog 58 #[.map (some b1), .map (some b2), .func (.func 27) #[] #[]] W (Gives (.bool (eqE L1 L2)) W)) := fun W hW => by
    obtain ⟨f1, m1, s1⟩ := (h1.later hW).body
    obtain ⟨f2, m2, s2⟩ := (h2.later hW).body
    exact equal_maps m1 m2 s1 s2 h1.ok.1 h1.ok.fit
  obtain ⟨r, hr⟩ : ∃ r, eqE L1 L2 = r := ⟨_, rfl⟩
  rw [hr] at CE
  clear h1 h2 hr
  go_enter Tryz.func25, Tryz.ntmps25
  go_wp2_with (fail)
  refine C1.out.mono ?_
  rintro e w1 ⟨rfl, rfl⟩
  go_wp2_with (fail)
  refine C2.out.mono ?_
  rintro e w1 ⟨rfl, rfl⟩
  clear C1 C2
  go_wp2_with (fail)
  refine wp_region_L (by kernel_rfl) ?_
  refine wpAnyL_take (i := 0) (d := some 19) (v := ?vab0) rfl rfl (by kernel_rfl) (by kernel_rfl) (by kernel_rfl) (fun _ _ _ h => h) (by rfl) ?yab0 ?_
  case yab0 => (intro w' hw'; go_simp; try (with_reducible rfl))
  simp only [Act.put]; try simp only [List.setIfInBounds_toArray]; try simp only [List.set_cons_zero, List.set_cons_succ]
  refine wpAnyL_take (i := 1) (d := some 20) (v := ?vab1) rfl rfl (by kernel_rfl) (by kernel_rfl) (by kernel_rfl) (fun _ _ _ h => h) (by rfl) ?yab1 ?_
  case yab1 => (intro w' hw'; go_simp; try (with_reducible rfl))
  simp only [Act.put]; try simp only [List.setIfInBounds_toArray]; try simp only [List.set_cons_zero, List.set_cons_succ]
  refine wpAnyL_take (i := 2) (d := some 21) (v := ?vab2) rfl rfl (by kernel_rfl) (by kernel_rfl) (by kernel_rfl) (fun _ _ _ h => h) (by rfl) ?yab2 ?_
  case yab2 => (intro w' hw'; go_simp; try (with_reducible rfl))
  simp only [Act.put]; try simp only [List.setIfInBounds_toArray]; try simp only [List.set_cons_zero, List.set_cons_succ]
  refine wpAnyL_take (i := 3) (d := some 22) (v := ?vab3) rfl rfl (by kernel_rfl) (by kernel_rfl) (by kernel_rfl) (fun _ _ _ h => h) (by rfl) ?yab3 ?_
  case yab3 => (intro w' hw'; obtain ⟨k0, k1, k2⟩ := CF1.out _ (Later.trans (Later.drew w) hw'); obtain ⟨m0, m1, m2⟩ := CF2.out _ (Later.trans (Later.drew w) hw'); go_simp; try (with_reducible rfl))
  simp only [Act.put]; try simp only [List.setIfInBounds_toArray]; try simp only [List.set_cons_zero, List.set_cons_succ]
  refine wpAnyL_take (i := 4) (d := some 23) (v := ?vab4) rfl rfl (by kernel_rfl) (by kernel_rfl) (by kernel_rfl) (fun _ _ _ h => h) (by rfl) ?yab4 ?_
  case yab4 => (intro w' hw'; go_simp; try (with_reducible rfl))
  simp only [Act.put]; try simp only [List.setIfInBounds_toArray]; try simp only [List.set_cons_zero, List.set_cons_succ]
  refine wpAnyL_take (i := 5) (d := some 24) (v := ?vab5) rfl rfl (by kernel_rfl) (by kernel_rfl) (by kernel_rfl) (fun _ _ _ h => h) (by rfl) ?yab5 ?_
  case yab5 => (intro w' hw'; go_simp; try (with_reducible rfl))
  simp only [Act.put]; try simp only [List.setIfInBounds_toArray]; try simp only [List.set_cons_zero, List.set_cons_succ]
  refine wpAnyL_take (i := 6) (d := some 25) (v := ?vab6) rfl rfl (by kernel_rfl) (by kernel_rfl) (by kernel_rfl) (fun _ _ _ h => h) (by rfl) ?yab6 ?_
  case yab6 => (intro w' hw'; go_simp; try (with_reducible rfl))
  simp only [Act.put]; try simp only [List.setIfInBounds_toArray]; try simp only [List.set_cons_zero, List.set_cons_succ]
  refine wpAnyL_take (i := 7) (d := some 26) (v := ?vab7) rfl rfl (by kernel_rfl) (by kernel_rfl) (by kernel_rfl) (fun _ _ _ h => h) (by rfl) ?yab7 ?_
  case yab7 => (intro w' hw'; obtain ⟨k0, k1, k2⟩ := CF1.out _ (Later.trans (Later.drew w) hw'); obtain ⟨m0, m1, m2⟩ := CF2.out _ (Later.trans (Later.drew w) hw'); go_simp; try (with_reducible rfl))
  simp only [Act.put]; try simp only [List.setIfInBounds_toArray]; try simp only [List.set_cons_zero, List.set_cons_succ]
  refine wpAnyL_take (i := 8) (d := some 27) (v := ?vab8) rfl rfl (by kernel_rfl) (by kernel_rfl) (by kernel_rfl) (fun _ _ _ h => h) (by rfl) ?yab8 ?_
  case yab8 => (intro w' hw'; go_simp; try (with_reducible rfl))
  simp only [Act.put]; try simp only [List.setIfInBounds_toArray]; try simp only [List.set_cons_zero, List.set_cons_succ]
  refine wpAnyL_take (i := 9) (d := some 28) (v := ?vab9) rfl rfl (by kernel_rfl) (by kernel_rfl) (by kernel_rfl) (fun _ _ _ h => h) (by rfl) ?yab9 ?_
  case yab9 => (intro w' hw'; go_simp; try (with_reducible rfl))
  simp only [Act.put]; try simp only [List.setIfInBounds_toArray]; try simp only [List.set_cons_zero, List.set_cons_succ]
  refine wpAnyL_take (i := 10) (d := some 29) (v := ?vab10) rfl rfl (by kernel_rfl) (by kernel_rfl) (by kernel_rfl) (fun _ _ _ h => h) (by rfl) ?yab10 ?_
  case yab10 => (intro w' hw'; go_simp; try (with_reducible rfl))
  simp only [Act.put]; try simp only [List.setIfInBounds_toArray]; try simp only [List.set_cons_zero, List.set_cons_succ]
  refine wpAnyL_take (i := 11) (d := some 30) (v := ?vab11) rfl rfl (by kernel_rfl) (by kernel_rfl) (by kernel_rfl) (fun _ _ _ h => h) (by rfl) ?yab11 ?_
  case yab11 => (intro w' hw'; go_simp; try (with_reducible rfl))
  simp only [Act.put]; try simp only [List.setIfInBounds_toArray]; try simp only [List.set_cons_zero, List.set_cons_succ]
  refine wpAnyL_take (i := 12) (d := some 31) (v := ?vab12) rfl rfl (by kernel_rfl) (by kernel_rfl) (by kernel_rfl) (fun _ _ _ h => h) (by rfl) ?yab12 ?_
  case yab12 => (intro w' hw'; go_simp; try (with_reducible rfl))
  simp only [Act.put]; try simp only [List.setIfInBounds_toArray]; try simp only [List.set_cons_zero, List.set_cons_succ]
  refine wpAnyL_take (i := 13) (d := some 32) (v := ?vab13) rfl rfl (by kernel_rfl) (by kernel_rfl) (by kernel_rfl) (fun _ _ _ h => h) (by rfl) ?yab13 ?_
  case yab13 => (intro w' hw'; obtain ⟨k0, k1, k2⟩ := CF1.out _ (Later.trans (Later.drew w) hw'); obtain ⟨m0, m1, m2⟩ := CF2.out _ (Later.trans (Later.drew w) hw'); go_simp; try (with_reducible rfl))
  simp only [Act.put]; try simp only [List.setIfInBounds_toArray]; try simp only [List.set_cons_zero, List.set_cons_succ]
  refine wpAnyL_take (i := 14) (d := some 33) (v := ?vab14) rfl rfl (by kernel_rfl) (by kernel_rfl) (by kernel_rfl) (fun _ _ _ h => h) (by rfl) ?yab14 ?_
  case yab14 => (intro w' hw'; go_simp; try (with_reducible rfl))
  simp only [Act.put]; try simp only [List.setIfInBounds_toArray]; try simp only [List.set_cons_zero, List.set_cons_succ]
  refine wpAnyL_take (i := 15) (d := some 34) (v := ?vab15) rfl rfl (by kernel_rfl) (by kernel_rfl) (by kernel_rfl) (fun _ _ _ h => h) (by rfl) ?yab15 ?_
  case yab15 => (intro w' hw'; go_simp; try (with_reducible rfl))
  simp only [Act.put]; try simp only [List.setIfInBounds_toArray]; try simp only [List.set_cons_zero, List.set_cons_succ]
  refine wpAnyL_take (i := 16) (d := some 35) (v := ?vab16) rfl rfl (by kernel_rfl) (by kernel_rfl) (by kernel_rfl) (fun _ _ _ h => h) (by rfl) ?yab16 ?_
  case yab16 => (intro w' hw'; go_simp; try (with_reducible rfl))
  simp only [Act.put]; try simp only [List.setIfInBounds_toArray]; try simp only [List.set_cons_zero, List.set_cons_succ]
  refine wpAnyL_take (i := 17) (d := some 36) (v := ?vab17) rfl rfl (by kernel_rfl) (by kernel_rfl) (by kernel_rfl) (fun _ _ _ h => h) (by rfl) ?yab17 ?_
  case yab17 => (intro w' hw'; obtain ⟨k0, k1, k2⟩ := CF1.out _ (Later.trans (Later.drew w) hw'); obtain ⟨m0, m1, m2⟩ := CF2.out _ (Later.trans (Later.drew w) hw'); go_simp; try (with_reducible rfl))
  simp only [Act.put]; try simp only [List.setIfInBounds_toArray]; try simp only [List.set_cons_zero, List.set_cons_succ]
  refine wpAnyL_take (i := 18) (d := some 37) (v := ?vab18) rfl rfl (by kernel_rfl) (by kernel_rfl) (by kernel_rfl) (fun _ _ _ h => h) (by rfl) ?yab18 ?_
  case yab18 => (intro w' hw'; go_simp; try (with_reducible rfl))
  simp only [Act.put]; try simp only [List.setIfInBounds_toArray]; try simp only [List.set_cons_zero, List.set_cons_succ]
  refine wpAnyL_take (i := 19) (d := some 38) (v := ?vab19) rfl rfl (by kernel_rfl) (by kernel_rfl) (by kernel_rfl) (fun _ _ _ h => h) (by rfl) ?yab19 ?_
  case yab19 => (intro w' hw'; go_simp; try (with_reducible rfl))
  simp only [Act.put]; try simp only [List.setIfInBounds_toArray]; try simp only [List.set_cons_zero, List.set_cons_succ]
  refine wpAnyL_take (i := 20) (d := some 39) (v := ?vab20) rfl rfl (by kernel_rfl) (by kernel_rfl) (by kernel_rfl) (fun _ _ _ h => h) (by rfl) ?yab20 ?_
  case yab20 => (intro w' hw'; go_simp; try (with_reducible rfl))
  simp only [Act.put]; try simp only [List.setIfInBounds_toArray]; try simp only [List.set_cons_zero, List.set_cons_succ]
  refine wpAnyL_pass (i := 21) (d := some 40) rfl rfl (by kernel_rfl) (by kernel_rfl) (by kernel_rfl) (fun _ _ _ h => h) (by rfl) ?_
  try (simp only [Act.put]; try simp only [List.setIfInBounds_toArray]; try simp only [List.set_cons_zero, List.set_cons_succ])
  refine wpAnyL_pass (i := 22) (d := some 41) rfl rfl (by kernel_rfl) (by kernel_rfl) (by kernel_rfl) (fun _ _ _ h => h) (by rfl) ?_
  try (simp only [Act.put]; try simp only [List.setIfInBounds_toArray]; try simp only [List.set_cons_zero, List.set_cons_succ])
  refine wpAnyL_pass (i := 23) (d := some 42) rfl rfl (by kernel_rfl) (by kernel_rfl) (by kernel_rfl) (fun _ _ _ h => h) (by rfl) ?_
  try (simp only [Act.put]; try simp only [List.setIfInBounds_toArray]; try simp only [List.set_cons_zero, List.set_cons_succ])
  refine wpAnyL_pass (i := 24) (d := some 43) rfl rfl (by kernel_rfl) (by kernel_rfl) (by kernel_rfl) (fun _ _ _ h => h) (by rfl) ?_
  try (simp only [Act.put]; try simp only [List.setIfInBounds_toArray]; try simp only [List.set_cons_zero, List.set_cons_succ])
  refine wpAnyL_pass (i := 25) (d := some 44) rfl rfl (by kernel_rfl) (by kernel_rfl) (by kernel_rfl) (fun _ _ _ h => h) (by rfl) ?_
  try (simp only [Act.put]; try simp only [List.setIfInBounds_toArray]; try simp only [List.set_cons_zero, List.set_cons_succ])
  refine wpAnyL_pass (i := 26) (d := some 45) rfl rfl (by kernel_rfl) (by kernel_rfl) (by kernel_rfl) (fun _ _ _ h => h) (by rfl) ?_
  try (simp only [Act.put]; try simp only [List.setIfInBounds_toArray]; try simp only [List.set_cons_zero, List.set_cons_succ])
  refine wpAnyL_pass (i := 27) (d := some 46) rfl rfl (by kernel_rfl) (by kernel_rfl) (by kernel_rfl) (fun _ _ _ h => h) (by rfl) ?_
  try (simp only [Act.put]; try simp only [List.setIfInBounds_toArray]; try simp only [List.set_cons_zero, List.set_cons_succ])
  refine wpAnyL_pass (i := 28) (d := some 47) rfl rfl (by kernel_rfl) (by kernel_rfl) (by kernel_rfl) (fun _ _ _ h => h) (by rfl) ?_
  try (simp only [Act.put]; try simp only [List.setIfInBounds_toArray]; try simp only [List.set_cons_zero, List.set_cons_succ])
  refine wpAnyL_pass (i := 29) (d := some 48) rfl rfl (by kernel_rfl) (by kernel_rfl) (by kernel_rfl) (fun _ _ _ h => h) (by rfl) ?_
  try (simp only [Act.put]; try simp only [List.setIfInBounds_toArray]; try simp only [List.set_cons_zero, List.set_cons_succ])
  refine wpAnyL_take (i := 30) (d := some 49) (v := ?vab30) rfl rfl (by kernel_rfl) (by kernel_rfl) (by kernel_rfl) (fun _ _ _ h => h) (by rfl) ?yab30 ?_
  case yab30 => (intro w' hw'; go_simp; try (with_reducible rfl))
  simp only [Act.put]; try simp only [List.setIfInBounds_toArray]; try simp only [List.set_cons_zero, List.set_cons_succ]
  refine wpAnyL_take (i := 31) (d := some 4) (v := ?vab31) rfl rfl (by kernel_rfl) (by kernel_rfl) (by kernel_rfl) (fun _ _ _ h => h) (by rfl) ?yab31 ?_
  case yab31 => (intro w' hw'; go_simp; try (with_reducible rfl))
  simp only [Act.put]; try simp only [List.setIfInBounds_toArray]; try simp only [List.set_cons_zero, List.set_cons_succ]
  refine wpAnyL_done (by kernel_rfl) ?_ _
  go_wp2
  go_ret
  exact ⟨rfl, Later.drew _⟩
theorem same_book {F G : Nat → Prop} {g1 b1 k1 g2 b2 k2 : Nat} {most : Int} {t1 t2 : BkS} (h1 : BookAt F w g1 b1 k1 most t1) (h2 : BookAt G w g2 b2 k2 most t2) :
    Calls Tryz.prog 25 #[.pointer (some ⟨g1, 0, none⟩), .pointer (some ⟨g2, 0, none⟩)] w (Gives (.bool (sameT t1 t2)) w) := by
  obtain ⟨la, L1⟩ := t1
  obtain ⟨la2, L2⟩ := t2
  unfold sameT
  simp only
  cases hq : (la == la2) with
  | true => exact same_yes h1 h2 hq
  | false => exact same_no h1 h2 hq
end
end Go.Proofs.YtpicnoinnngpeaaGreat
/- How much a message has, up to some: droverref04.weigh, Steps. -/
namespace Go.Proofs.YtpicnoinnngpeaaGreat
open Go.RowKit

/-- What weigh tells of an operation: it is above the number of its steps, as long as it is not above mx. -/
def WeighsN (mx : Int) (o : OpD) (w : World) (e : Ending) (w' : World) : Prop :=
  ∃ n : Int, e = .returned (.int .i64 n) ∧ 1 ≤ n ∧ n ≤ 20000000000000 ∧ (n ≤ mx → (o.steps.length : Int) < n) ∧ Later w w'

set_option maxHeartbeats 1000000 in
theorem weighn_any (mx : Int) (hm0 : 0 ≤ mx) (hm1 : mx ≤ 1000) (F : Nat → Prop) (o : OpD) (s : Value) (w : World) (hn : o.name.size ≤ 140737488355328) (hs : ∀ x ∈ o.steps, x.wf) (h : StepsAt F w s o.steps) :
    Calls Tryz.prog 62 #[.agg (o.cells s).toArray, .int .i64 mx] w (WeighsN mx o w) := by
  obtain ⟨A, c, rfl, h1, h2, _⟩ := FlatAt.shape h
  unfold maxLen at h2
  have HS := hide hs
  have HF := hide h
  clear hs h
  unfold OpD.cells
  obtain ⟨L, hL⟩ : ∃ L, o.steps.length = L := ⟨_, rfl⟩
  rw [hL] at h1 HF ⊢
  have HL := hide hL
  clear hL
  obtain ⟨z, hz⟩ : ∃ z, z = o.name.size / 20 := ⟨_, rfl⟩
  have hz1 : (o.name.size : Int) / 20 = (z : Int) := by omega
  have hz2 : z ≤ 8000000000000 := by omega
  clear hz
  go_enter Tryz.func62, Tryz.ntmps62
  go_wp2
  go_loopw [5, 18] (fun n i wr => ∃ (q : Int) (k : Nat), k ≤ L ∧ n = .int .i64 q ∧ i = .int .i64 (k : Int) ∧ (k : Int) < q ∧ q ≤ 8000000000001 ∧ (0 < k → q ≤ mx) ∧ Below w.heap.size w wr) (fun _ i _ => L - (Go.RowKit.intOf i).toNat)
  case atStart => exact ⟨_, 0, by omega, rfl, rfl, by omega, by omega, by omega, (Below.refl _ _).alloc (Nat.le_refl _) _⟩
  case round =>
    obtain ⟨q, k, hk, rfl, rfl, hq1, hq2, hq3, hb⟩ := hrel
    have HB := hide hb
    clear hb
    by_cases hkl : k < L
    · obtain ⟨x, b, off, c', hx, hv, _, _, hb, hr⟩ := StepsAt.at_ (HF.out.kept (Kept.of_below HB.out F)) (i := k) (by rw [HL.out]; exact hkl)
      obtain ⟨rfl, rfl⟩ : A = some ⟨b, off, none⟩ ∧ c = c' := by injection hv with e1 _ e3; exact ⟨e1, e3⟩
      obtain ⟨r0, r1, r2, r3, r4, r5⟩ := range_step hr
      have hxn := (HS.out x (List.mem_of_getElem? hx)).1
      obtain ⟨y, hy⟩ : ∃ y, y = x.name.size / 20 := ⟨_, rfl⟩
      have hy1 : (x.name.size : Int) / 20 = (y : Int) := by omega
      have hy2 : y ≤ 8000000000000 := by omega
      clear hy hx hv hr
      go_wp2
      · go_ret
        exact ⟨_, rfl, by omega, by omega, by omega, HB.out.trans ((Below.alloc (Below.refl _ _) (Nat.le_refl _) _).mono HB.out.size)⟩
      · go_roundw
        case rel => exact ⟨q + (1 + y), k + 1, by omega, rfl, by go_num, by omega, by omega, by omega, HB.out.trans ((Below.alloc (Below.refl _ _) (Nat.le_refl _) _).mono HB.out.size)⟩
        case measure => simp [Go.RowKit.intOf]; omega
    · go_wp2
      go_ret
      exact ⟨_, rfl, by omega, by omega, by rw [HL.out]; omega, HB.out⟩

/-- What Steps tells of a message that is not above mx. -/
def MsgD.lightN (mx : Int) (m : MsgD) : Prop := (m.op.steps.length : Int) ≤ mx ∧ (m.ops.length : Int) ≤ mx ∧ ∀ o ∈ m.ops, (o.steps.length : Int) ≤ mx
def CountsN (mx : Int) (m : MsgD) (w : World) (e : Ending) (w' : World) : Prop :=
  ∃ n : Int, e = .returned (.int .i64 n) ∧ (n ≤ mx → m.lightN mx) ∧ Later w w'

/-- So far none has more than mx steps. -/
def SomeN (mx : Int) (m : MsgD) (ps : List (OpD × Value)) (k : Nat) : Prop := (m.op.steps.length : Int) ≤ mx ∧ ∀ p ∈ ps.take k, (p.1.steps.length : Int) ≤ mx
theorem somen_step {mx : Int} {m : MsgD} {ps : List (OpD × Value)} {k : Nat} {x : OpD} {s : Value} (hx : ps[k]? = some (x, s)) (h : SomeN mx m ps k) (hs : (x.steps.length : Int) ≤ mx) : SomeN mx m ps (k + 1) := by
  refine ⟨h.1, fun p hp => ?_⟩
  rw [List.take_add_one, hx] at hp
  rcases List.mem_append.1 hp with hp | hp
  · exact h.2 p hp
  · obtain rfl : p = (x, s) := by simpa using hp
    exact hs
theorem somen_end {mx : Int} {m : MsgD} {ps : List (OpD × Value)} {k : Nat} (hp : ps.map (·.1) = m.ops) (hl : m.ops.length = ps.length) (hk : ps.length ≤ k) (hq : (k : Int) ≤ mx) (h : SomeN mx m ps k) : m.lightN mx := by
  refine ⟨h.1, by omega, fun o ho => ?_⟩
  rw [← hp] at ho
  obtain ⟨p, hp, rfl⟩ := List.mem_map.1 ho
  exact h.2 p (by rwa [List.take_of_length_le hk])

set_option maxHeartbeats 2000000 in
set_option maxRecDepth 100000 in
theorem stepsn_any (mx : Int) (hm0 : 0 ≤ mx) (hm1 : mx ≤ 1000) (F : Nat → Prop) (m : MsgD) (s o i : Value) (w : World) (hw : m.wf) (h : Lists F w m s o i) :
    Calls Tryz.prog 28 #[.agg (m.cells s o i).toArray, .int .i64 mx] w (CountsN mx m w) := by
  obtain ⟨hs, ⟨ps, hps, ho⟩, hi⟩ := h
  have hl : m.ops.length = ps.length := by rw [← hps]; simp
  have hwp : ∀ p ∈ ps, p.1.wf := fun p hp => hw.2.2.2.2.2.2.2.2.2.2.2.2.2.2.2.2.2.2.2.1 p.1 (by rw [← hps]; exact List.mem_map_of_mem hp)
  have hwo : m.op.wf := hw.2.2.2.2.2.2.2.2.2.1
  have HP := hide hps
  have HW := hide hwp
  have HL := hide hl
  have HO := hide ho
  obtain ⟨A, c, rfl, h1, h2, _⟩ := FlatAt.shape ho.1
  unfold maxLen at h2
  have C1 := hide (fun w' (hb : Below w.heap.size w w') => weighn_any mx hm0 hm1 F m.op s w' hwo.2.2.2.1 hwo.2.2.2.2.1 (hs.kept (Kept.of_below hb F)))
  clear hs hps ho hi hw hwp hwo hl
  unfold MsgD.cells
  unfold OpD.cells at C1
  go_enter Tryz.func28, Tryz.ntmps28
  go_wp2_with (fail)
  refine (C1.out _ ((Below.refl _ _).alloc (Nat.le_refl _) _)).mono ?_
  rintro e w1 ⟨q, rfl, hq1, hq2, hq3, hb⟩
  have HB1 : Hid (Below w.heap.size w w1) := ((Below.refl _ _).alloc (Nat.le_refl _) _).trans (Below.mono hb (by simp))
  have hbox : w1.heap[w.heap.size]? = _ := (hb.block w.heap.size (by simp)).trans (heap_alloc_new w _)
  have f15 := cell_of_row w1 w.heap.size 32 _ _ _ hbox
  simp only [List.getElem?_toArray, List.getElem?_cons_succ, List.getElem?_cons_zero] at f15
  have HQ := hide hq3
  have HX := hide hbox
  clear hb hq3 hbox C1
  go_wp2
  go_loopw [5, 15] (fun n i wr => ∃ (q : Int) (k : Nat), k ≤ ps.length ∧ n = .int .i64 q ∧ i = .int .i64 (k : Int) ∧ (k : Int) < q ∧ q ≤ 20000000002000 ∧ (q ≤ mx → SomeN mx m ps k) ∧ Below w.heap.size w wr) (fun _ i _ => ps.length - (Go.RowKit.intOf i).toNat)
  case atStart => exact ⟨q, 0, by omega, rfl, rfl, by omega, by omega, fun h => ⟨by have := HQ.out h; omega, by simp⟩, HB1.out⟩
  case round =>
    obtain ⟨q, k, hk, rfl, rfl, hq1, hq2, hq3, hb⟩ := hrel
    have HQ3 := hide hq3
    have HB := hide hb
    clear hb hq3
    by_cases hkl : k < ps.length
    · obtain ⟨x, xs, b, off, c', hx, hv, _, _, hb, hr, hst⟩ := OpsIn.at_ (HO.out.kept (Kept.of_below HB.out F)) (i := k) hkl
      obtain ⟨rfl, rfl⟩ : A = some ⟨b, off, none⟩ ∧ c = c' := by injection hv with e1 _ e3; exact ⟨e1, e3⟩
      obtain ⟨r0, r1, r2, r3, r4, r5, r6, r7, r8, r9⟩ := range_op hr
      have hwx : x.wf := HW.out _ (List.mem_of_getElem? hx)
      have HX2 := hide hx
      obtain ⟨sA, sc, rfl, _, _, _⟩ := FlatAt.shape hst
      have C2 := hide (fun w' (hb : Below wr.heap.size wr w') => weighn_any mx hm0 hm1 F x _ w' hwx.2.2.2.1 hwx.2.2.2.2.1 (hst.kept (Kept.of_below hb F)))
      unfold OpD.cells at C2
      clear hx hv hr hst hwx
      by_cases hbig : q ≤ mx
      · go_wp2_with (fail)
        refine (C2.out _ ((Below.refl _ _).alloc (Nat.le_refl _) _)).mono ?_
        rintro e w2 ⟨r, rfl, hr1, hr2, hr3, hb⟩
        have HB2 : Hid (Below w.heap.size w w2) := HB.out.trans ((((Below.refl _ _).alloc (Nat.le_refl _) _).trans (Below.mono hb (by simp))).mono HB.out.size)
        have HR := hide hr3
        clear hb hr3 C2
        go_wp2
        go_roundw
        case rel => exact ⟨q + (1 + r), k + 1, by omega, rfl, by go_num, by omega, by omega, fun h => somen_step HX2.out (HQ3.out hbig) (by have := HR.out (by omega); omega), HB2.out⟩
        case measure => simp [Go.RowKit.intOf]; omega
      · go_wp2_with (fail)
        go_ret
        exact ⟨_, rfl, fun h => absurd h (by omega), HB.out.trans (((Below.refl _ _).alloc (Nat.le_refl _) _).mono HB.out.size)⟩
    · go_wp2
      go_ret
      exact ⟨_, rfl, fun h => somen_end HP.out HL.out (by omega) (by omega) (HQ3.out h), HB.out⟩
end Go.Proofs.YtpicnoinnngpeaaGreat
/- Operations that are looked at (light); what one operation changes of a book, as data. -/
namespace Go.Proofs.YtpicnoinnngpeaaGreat
open Go.RowKit Go.Maps
/-- A message of operations alone. -/
def opsM (l : List OpD) : MsgD := { MsgD.zero with ops := l }
theorem opsM_wf {l : List OpD} (h : ∀ o ∈ l, o.wf) : (opsM l).wf := by
  simp only [MsgD.wf, opsM, MsgD.zero, OpD.zero, OpD.wf, I64]
  exact ⟨by decide, by decide, by decide, by decide, by decide, by decide, by decide, by decide, by decide, ⟨by decide, by decide, by decide, by decide, by simp, by decide, by decide, by decide⟩, by decide, by decide, by decide, by decide, by decide, by decide, by decide, by decide, by decide, h, by simp⟩
def LightV (l : List OpD) (w : World) (e : Ending) (w' : World) : Prop := ∃ q : Bool, e = .returned (.bool q) ∧ (q = true → l.length ≤ 80 ∧ ∀ o ∈ l, (o.steps.length : Int) ≤ 600) ∧ Later w w'
section
variable {w : World}
set_option maxHeartbeats 4000000 in
set_option maxRecDepth 100000 in
theorem light_any {F : Nat → Prop} {v : Value} {l : List OpD} (h : OpsAt F w v l) (wl : ∀ o ∈ l, o.wf) : Calls Tryz.prog 8 #[v] w (LightV l w) := by
  obtain ⟨ps, hps, hop⟩ := h
  obtain ⟨A, cp, rfl, _, _, _⟩ := FlatAt.shape hop.1
  have hln : ps.length = l.length := by rw [← hps, List.length_map]
  have CS := hide (stepsn_any 600 (by decide) (by decide) F (opsM l) (.slice none 0 0) (.slice A ps.length cp) (.slice none 0 0) w (opsM_wf wl) ⟨StepsAt.nil_ _ _, ⟨ps, hps, hop⟩, IncsAt.nil_ _ _⟩)
  simp only [MsgD.cells, opsM, MsgD.zero, OpD.zero] at CS
  have hsm : ps.length ≤ 9223372036854775807 := by
    obtain ⟨A', c', _, h1, h2, _⟩ := FlatAt.shape hop.1
    unfold maxLen at h2
    omega
  rw [hln] at CS hsm ⊢
  obtain ⟨n, hn⟩ : ∃ n, l.length = n := ⟨_, rfl⟩
  have HN := hide hn
  rw [hn] at CS hsm ⊢
  clear hps hop hln hn
  by_cases h80 : n ≤ 80
  · have d80 : (n : Int) ≤ 80 := by omega
    go_enter Tryz.func8, Tryz.ntmps8
    go_wp2_with (fail)
    refine CS.out.mono ?_
    rintro e w1 ⟨q, rfl, hq, hl⟩
    have HQ := hide hq
    have HL := hide hl
    clear hq hl CS
    by_cases h6 : q ≤ 600
    · have d6 : decide (q ≤ 600) = true := by simpa using h6
      go_wp2
      go_ret
      exact ⟨true, rfl, fun _ => ⟨by rw [HN.out]; exact h80, (HQ.out h6).2.2⟩, HL.out⟩
    · have d6 : decide (q ≤ 600) = false := by simpa using h6
      go_wp2
      go_ret
      exact ⟨false, rfl, (fun h => by cases h), HL.out⟩
  · have d80 : ¬ (n : Int) ≤ 80 := by omega
    clear CS
    go_enter Tryz.func8, Tryz.ntmps8
    go_wp2
    go_ret
    exact ⟨false, rfl, (fun h => by cases h), Later.refl _⟩
end
theorem roomF_len (L : List Ent) : (roomF L).length ≤ L.length := by
  unfold roomF
  split
  · omega
  · split
    · omega
    · exact List.length_filter_le _ _
/-- One operation: the last number and how many there are go up by one at most. -/
theorem apply_grow (most : Int) (t : BkS) (o : OpD) : (applyS most t o).last ≤ t.last + 1 ∧ t.last ≤ (applyS most t o).last ∧ (applyS most t o).L.length ≤ t.L.length + 1 := by
  have hev : ∀ ev id, (eventS ev t id).last ≤ t.last + 1 ∧ t.last ≤ (eventS ev t id).last ∧ (eventS ev t id).L.length ≤ t.L.length + 1 := fun ev id => by
    unfold eventS
    split
    · exact ⟨by omega, by omega, by omega⟩
    · split
      · exact ⟨by omega, by omega, by omega⟩
      · exact ⟨by show t.last ≤ _; omega, Int.le_refl _, putE_len _ _⟩
  unfold applyS
  split
  · unfold startS
    split
    · exact ⟨by omega, by omega, by omega⟩
    · split
      · exact ⟨by omega, by omega, by omega⟩
      · refine ⟨Int.le_refl _, by show t.last ≤ t.last + 1; omega, ?_⟩
        have h1 := putE_len (newE (t.last + 1) o.name o.steps) (roomF t.L)
        have h2 := roomF_len t.L
        show (putE _ _).length ≤ _
        omega
  · split
    · exact hev _ _
    · split
      · exact hev _ _
      · split
        · exact hev _ _
        · exact ⟨by omega, by omega, by omega⟩
/-- What is no start changes no other saga than its own, and takes none away. -/
theorem apply_apart (most : Int) (t : BkS) (o : OpD) (hr : RiseE t.L) (ho : o.kind ≠ 1) : (∀ id, id ≠ o.saga → entAt (applyS most t o).L id = entAt t.L id) ∧ (∀ id, (entAt t.L id).isSome → (entAt (applyS most t o).L id).isSome) ∧ (applyS most t o).L.length = t.L.length := by
  have hev : ∀ ev, (∀ id, id ≠ o.saga → entAt (eventS ev t o.saga).L id = entAt t.L id) ∧ (∀ id, (entAt t.L id).isSome → (entAt (eventS ev t o.saga).L id).isSome) ∧ (eventS ev t o.saga).L.length = t.L.length := fun ev => by
    unfold eventS
    split
    · exact ⟨fun _ _ => rfl, fun _ h => h, rfl⟩
    · rename_i x hx
      split
      · exact ⟨fun _ _ => rfl, fun _ h => h, rfl⟩
      · obtain ⟨hm, hi⟩ := entAt_mem hx
        refine ⟨fun id hne => entAt_put_other _ id (by show id ≠ o.saga; exact hne) t.L, fun id h => ?_, putE_len_is _ hr ⟨x, hm, by show x.id = o.saga; exact hi⟩⟩
        by_cases e : id = o.saga
        · have h2 := entAt_putE (⟨o.saga, (ev x.l x.s).1, x.l⟩ : Ent) hr
          show (entAt (putE ⟨o.saga, (ev x.l x.s).1, x.l⟩ t.L) id).isSome = true
          rw [e]
          have h3 : entAt (putE ⟨o.saga, (ev x.l x.s).1, x.l⟩ t.L) o.saga = some ⟨o.saga, (ev x.l x.s).1, x.l⟩ := h2
          rw [h3]
          rfl
        · show (entAt (putE ⟨o.saga, (ev x.l x.s).1, x.l⟩ t.L) id).isSome = true
          rw [entAt_put_other _ id (by show id ≠ o.saga; exact e) t.L]
          exact h
  unfold applyS
  rw [if_neg ho]
  split
  · exact hev _
  · split
    · exact hev _
    · split
      · exact hev _
      · exact ⟨fun _ _ => rfl, fun _ h => h, rfl⟩
theorem ids_there {L : List Ent} {i : Nat} {id : Int} (h : (idsOf L)[i]? = some id) : (entAt L id).isSome := by
  unfold idsOf at h
  rw [List.getElem?_map] at h
  cases hx : L[i]? with
  | none => rw [hx] at h; cases h
  | some x =>
    rw [hx] at h
    obtain rfl : x.id = id := by simpa using h
    unfold entAt
    rw [List.find?_isSome]
    exact ⟨x, List.mem_of_getElem? hx, by simp⟩
end Go.Proofs.YtpicnoinnngpeaaGreat
/- BookKeeps, as data: what is refused changes nothing; what is told of changes the saga. -/
namespace Go.Proofs.YtpicnoinnngpeaaGreat
open Go.RowKit Go.Maps
theorem eventR_err {ev : List StepD → SagaD → SagaD × Int} {t : BkS} {id : Int} (h : (eventR ev t id).err ≠ 0) : eventS ev t id = t ∧ eventR ev t id = errR (eventR ev t id).err := by
  unfold eventR at h ⊢
  unfold eventS
  cases hx : entAt t.L id with
  | none => exact ⟨rfl, rfl⟩
  | some x =>
    rw [hx] at h
    by_cases he : (ev x.l x.s).2 = 0
    · simp only [he, ne_eq, not_true_eq_false, if_false] at h
    · simp only [he, ne_eq, not_false_eq_true, if_true]
      exact ⟨trivial, rfl⟩
/-- What is refused, or asks alone, changes nothing. -/
theorem apply_keeps (most : Int) (t : BkS) (o : OpD) (h : (applyR most t o).err ≠ 0 ∨ o.kind = 3 ∨ o.kind = 0) : applyS most t o = t := by
  unfold applyS
  by_cases h1 : o.kind = 1
  · rw [if_pos h1]
    rcases h with h | h | h
    · unfold applyR at h
      rw [if_neg (by omega), if_pos h1] at h
      unfold startR at h
      unfold startS
      split
      · rfl
      · rename_i hc
        rw [if_neg hc] at h
        split
        · rfl
        · rename_i hm
          rw [if_neg hm] at h
          exact absurd rfl h
    · omega
    · omega
  rw [if_neg h1]
  by_cases h2 : o.kind = 2
  · rw [if_pos h2]
    rcases h with h | h | h
    · unfold applyR at h
      rw [if_neg (by omega), if_neg h1, if_pos h2] at h
      exact (eventR_err h).1
    · omega
    · omega
  rw [if_neg h2]
  by_cases h4 : o.kind = 4
  · rw [if_pos h4]
    rcases h with h | h | h
    · unfold applyR at h
      rw [if_neg (by omega), if_neg h1, if_neg h2, if_neg (by omega), if_pos h4] at h
      exact (eventR_err h).1
    · omega
    · omega
  rw [if_neg h4]
  by_cases h5 : o.kind = 5
  · rw [if_pos h5]
    rcases h with h | h | h
    · unfold applyR at h
      rw [if_neg (by omega), if_neg h1, if_neg h2, if_neg (by omega), if_neg h4, if_pos h5] at h
      exact (eventR_err h).1
    · omega
    · omega
  rw [if_neg h5]
/-- With an error nothing else is told. -/
theorem apply_err (most : Int) (t : BkS) (o : OpD) (h : (applyR most t o).err ≠ 0) : applyR most t o = errR (applyR most t o).err := by
  unfold applyR at h ⊢
  split
  · rfl
  · rename_i n0
    rw [if_neg n0] at h
    split
    · rename_i n1
      rw [if_pos n1] at h
      unfold startR at h ⊢
      split
      · rfl
      · rename_i hc
        rw [if_neg hc] at h
        split
        · rfl
        · rename_i hm
          rw [if_neg hm] at h
          exact absurd rfl h
    · rename_i n1
      rw [if_neg n1] at h
      split
      · rename_i n2
        rw [if_pos n2] at h
        exact (eventR_err h).2
      · rename_i n2
        rw [if_neg n2] at h
        split
        · rename_i n3
          rw [if_pos n3] at h
          unfold statusF at h ⊢
          cases hx : entAt t.L o.saga with
          | none => rfl
          | some x => rw [hx] at h; exact absurd rfl h
        · rename_i n3
          rw [if_neg n3] at h
          split
          · rename_i n4
            rw [if_pos n4] at h
            exact (eventR_err h).2
          · rename_i n4
            rw [if_neg n4] at h
            split
            · rename_i n5
              rw [if_pos n5] at h
              exact (eventR_err h).2
            · rfl
/-- Do they differ? -/
def Unlike (s t : SagaD) : Prop := s.st ≠ t.st ∨ s.step ≠ t.step ∨ s.tr ≠ t.tr ∨ s.hit ≠ t.hit
theorem unlike_same {s t : SagaD} {l m : List StepD} (h : Unlike s t) : sameE s l t m = false := by
  unfold sameE
  rcases h with h | h | h | h
  · rw [show (s.st == t.st) = false from by simpa using h]; simp
  · rw [show (s.step == t.step) = false from by simpa using h]; simp
  · rw [show (s.tr == t.tr) = false from by simpa using h]; simp
  · rw [show decide (s.hit = t.hit) = false from by simpa using h]; simp
theorem downS_st (l : List StepD) (s : SagaD) : (downS l s).st = 4 ∨ (downS l s).st = 2 := by
  unfold downS
  split
  · exact .inl rfl
  · exact .inr rfl
theorem failsS_st (l : List StepD) (s : SagaD) : (failsS l s).st ≠ 1 := by
  unfold failsS
  split
  · show (5 : Int) ≠ 1
    decide
  · rcases downS_st l s with h | h <;> rw [h] <;> decide
theorem missed_unlike (l : List StepD) (s : SagaD) (hs : s.st = 1 ∨ s.st = 2) : (missedS l s).st ≠ s.st ∨ (missedS l s).tr ≠ s.tr := by
  unfold missedS
  split
  · right
    show s.tr + 1 ≠ s.tr
    omega
  · left
    split
    · rename_i h2
      show (5 : Int) ≠ s.st
      omega
    · rename_i h2
      have := failsS_st l s
      omega
theorem wants_st {l : List StepD} {s : SagaD} (h : wantsB l s = true) : s.st = 1 ∨ s.st = 2 := by
  unfold wantsB at h
  simp only [Bool.and_eq_true, Bool.or_eq_true, decide_eq_true_eq] at h
  exact h.2
theorem lapse_unlike {l : List StepD} {s : SagaD} (h : wantsB l s = true) : Unlike (lapseE l s) s := by
  rcases missed_unlike l (s.hitN true) (show s.st = 1 ∨ s.st = 2 from wants_st h) with h | h
  · exact .inl h
  · exact .inr (.inr (.inl h))
theorem upH_ne {m : Nat} (h : m < 8) : upH (m : Int) ≠ upH ((m : Int) + 1) := by
  intro e
  have h1 := congrArg Hits.l e
  have h2 : ((m : Int) + 1) = ((m + 1 : Nat) : Int) := by omega
  rw [h2] at h1
  have h3 := congrArg (fun l => l[m]?) h1
  simp only [up_get h] at h3
  simp at h3
theorem undo_hit {l : List StepD} {s : SagaD} (h : wantsB l s = true) (h2 : s.st = 2) : s.hit = upH s.step ∧ 1 ≤ s.step ∧ s.step ≤ 8 := by
  obtain ⟨he, p1, p2, p3, _⟩ := wants_parts h
  have h8 := (check_good he).1
  unfold wantsB at h
  simp only [Bool.and_eq_true] at h
  have hg := h.1
  unfold goodF at hg
  rw [if_neg (by simp [he]), if_neg (by omega), if_pos h2] at hg
  simp only [Bool.and_eq_true, decide_eq_true_eq] at hg
  exact ⟨hg.2.2.1, by omega, by omega⟩
theorem report_unlike {l : List StepD} {s : SagaD} {step tr : Int} {back good : Bool} (h : isIt l s step tr back = true) : Unlike (reportE l s back good) s := by
  have hw := isIt_wants h
  have hst := wants_st hw
  have hb : decide (s.st = 2) = back := by
    unfold isIt at h
    simp only [Bool.and_eq_true] at h
    simpa using h.2.2.2
  unfold reportE
  cases good with
  | false =>
    rw [if_neg (by simp)]
    rcases missed_unlike l s hst with h | h
    · exact .inl h
    · exact .inr (.inr (.inl h))
  | true =>
    rw [if_pos rfl]
    cases back with
    | true =>
      rw [if_pos rfl]
      have h2 : s.st = 2 := by simpa using hb
      obtain ⟨e1, e2, e3⟩ := undo_hit hw h2
      have hh : (downS l (s.hitN false)).hit = s.hit.set (s.step - 1).toNat false := by
        unfold downS
        split <;> rfl
      right; right; right
      rw [hh, e1]
      obtain ⟨m, hm⟩ : ∃ m : Nat, s.step = (m : Int) + 1 := ⟨(s.step - 1).toNat, by omega⟩
      rw [hm, show ((m : Int) + 1 - 1).toNat = m from by omega, up_set_off (by omega)]
      exact upH_ne (by omega)
    | false =>
      rw [if_neg (by simp)]
      have h1 : s.st = 1 := by
        have : s.st ≠ 2 := by simpa using hb
        omega
      unfold nextS
      split
      · left
        show (3 : Int) ≠ s.st
        omega
      · right; left
        show s.step + 1 ≠ s.step
        omega
theorem event_unlike {ev : List StepD → SagaD → SagaD × Int} {t : BkS} {id : Int} (hu : ∀ x ∈ t.L, (ev x.l x.s).2 = 0 → Unlike (ev x.l x.s).1 x.s) (h : (eventR ev t id).err = 0) : sameT (eventS ev t id) t = false := by
  unfold eventR at h
  unfold eventS
  cases hx : entAt t.L id with
  | none => rw [hx] at h; exact absurd (show (8 : Int) = 0 from h) (by decide)
  | some x =>
    rw [hx] at h
    by_cases he : (ev x.l x.s).2 = 0
    · simp only [he, ne_eq, not_true_eq_false, if_false]
      obtain ⟨hm, hi⟩ := entAt_mem hx
      have hp := putE_mem ⟨id, (ev x.l x.s).1, x.l⟩ t.L
      have hg : goodE t.L ⟨id, (ev x.l x.s).1, x.l⟩ = false := by
        unfold goodE
        show (match entAt t.L id with | some y => sameE (ev x.l x.s).1 x.l y.s y.l | none => false) = false
        rw [hx]
        exact unlike_same (hu x hm he)
      unfold sameT
      rw [eqE_bad hp hg, Bool.and_false]
    · simp only [he, ne_eq, not_false_eq_true, if_true] at h
      exact absurd (show (ev x.l x.s).2 = 0 from h) he
/-- A start, or what is told of a try, changes the book. -/
theorem apply_changes (most : Int) (t : BkS) (o : OpD) (he : (applyR most t o).err = 0) (hk : o.kind = 1 ∨ o.kind = 4 ∨ o.kind = 5) : sameT (applyS most t o) t = false := by
  unfold applyR at he
  unfold applyS
  rcases hk with hk | hk | hk
  · rw [if_neg (by omega), if_pos hk] at he
    rw [if_pos hk]
    unfold startR at he
    unfold startS
    split
    · rename_i hc
      rw [if_pos hc] at he
      have h2 : (((checkF o.name o.steps).2 : Nat) : Int) = 0 := he
      omega
    · rename_i hc
      rw [if_neg hc] at he
      split
      · rename_i hm
        rw [if_pos hm] at he
        exact absurd (show (7 : Int) = 0 from he) (by decide)
      · unfold sameT
        have : ((t.last + 1 : Int) == t.last) = false := by simp; omega
        show ((t.last + 1 : Int) == t.last && _) = false
        rw [this, Bool.false_and]
  · rw [if_neg (by omega), if_neg (by omega), if_neg (by omega), if_neg (by omega), if_pos hk] at he
    rw [if_neg (by omega), if_neg (by omega), if_pos hk]
    refine event_unlike (fun x _ h0 => ?_) he
    unfold reportV at h0 ⊢
    split
    · rename_i hi
      exact report_unlike hi
    · rename_i hi
      rw [if_neg hi] at h0
      exact absurd (show (10 : Int) = 0 from h0) (by decide)
  · rw [if_neg (by omega), if_neg (by omega), if_neg (by omega), if_neg (by omega), if_neg (by omega), if_pos hk] at he
    rw [if_neg (by omega), if_neg (by omega), if_neg (by omega), if_pos hk]
    refine event_unlike (fun x _ h0 => ?_) he
    unfold lapseV at h0 ⊢
    split
    · rename_i hi
      exact lapse_unlike (isIt_wants hi)
    · rename_i hi
      rw [if_neg hi] at h0
      exact absurd (show (10 : Int) = 0 from h0) (by decide)
end Go.Proofs.YtpicnoinnngpeaaGreat
/- BookApart. -/
namespace Go.Proofs.YtpicnoinnngpeaaGreat
open Go.RowKit Go.Maps
def LawTrue (w : World) (e : Ending) (w' : World) : Prop := e = .returned (.bool true) ∧ Later w w'
section
variable {ops : Array Oper} {rest : List Oper} {op : Oper} {a : Act} {W : World} {Q : Exit → Act → World → Prop} {g : Nat} {o z : OpD} {s sz : Value}
theorem op_put (x y : OpD) (s t : Value) : putAt (x.cells s).toArray 0 (y.cells t) = (y.cells t).toArray := by simp [putAt, OpD.cells]
theorem wpList_store_op (hgd : op.guard = none) (x y : Operand) (ho : op.op = .store 33 x y) (hx : a.eval x = .pointer (some ⟨g, 0, none⟩)) (hg : OBox g z sz W) (hs : s.oneCell' = true) (hy : a.eval y = .agg (o.cells s).toArray)
    (h : ∀ w', OBox g o s w' → W.grownBy w' (some g) → wpList Tryz.prog ops Q rest (a.put op.dst undef) w') : wpList Tryz.prog ops Q (op :: rest) a W :=
  wpList_store_box hgd 33 x y ho g 0 (o.cells s).toArray hx hy _ _ hg (by kernel_rfl) (by exact Nat.le_of_ble_eq_true rfl) (by exact o.one hs) (fun w' hb hg' => h w' (by rw [show (o.cells s).toArray.toList = o.cells s from rfl, op_put] at hb; exact hb) hg')
theorem exec_load_op (x : Operand) (ho : op.op = .load 33 x) (hx : a.eval x = .pointer (some ⟨g, 0, none⟩)) (hg : OBox g o s W) : (execOp a.eval op).run Tryz.prog W = .ok (.value (.agg (o.cells s).toArray)) W :=
  exec_load_box 33 x ho g 0 hx _ _ hg 10 _ Tryz.underlying33 (by rfl) (by kernel_rfl) (o.cells s) (by rfl) (by rfl)
theorem exec_load_row (x : Operand) (ho : op.op = .load 33 x) {b off : Nat} (hx : a.eval x = .pointer (some ⟨b, off, none⟩)) (hr : W.rangeAt b off (o.cells s)) : (execOp a.eval op).run Tryz.prog W = .ok (.value (.agg (o.cells s).toArray)) W :=
  exec_load_range 33 x ho b off hx (o.cells s) hr _ Tryz.underlying33 (by rfl) (by kernel_rfl)
theorem exec_buildSlice_op {i0 : TypeInfo} {zv : Value} {x : Operand} (hi : Tryz.prog.info? 33 = some i0) (hz0 : i0.zero = some zv) (hz1 : i0.size = 10) (ho : op.op = .buildSlice 22 1 #[(0, x)]) (hx : a.eval x = .agg (o.cells s).toArray) :
    (execOp a.eval op).run Tryz.prog W = .ok (.value (.slice (some ⟨W.heap.size, 0, none⟩) 1 1)) (W.alloc (.cells (o.cells s).toArray 33 (0, 0))) := by
  have hr := run_buildSlice_one (P := Tryz.prog) (w := W) 22 33 i0 zv 10 Tryz.underlying22 hi hz0 hz1 (by decide) (by decide) (o.cells s).toArray rfl
  unfold execOp
  simp [ho, hx, hr, Result.andThen]
end
/-- One operation in a new slice. -/
theorem op_slice (w : World) (F : Nat → Prop) (o : OpD) (s : Value) (hs : StepsAt F w s o.steps) : OpsAt (fun i => F i ∨ i = w.heap.size) (w.alloc (.cells (o.cells s).toArray 33 (0, 0))) (.slice (some ⟨w.heap.size, 0, none⟩) 1 1) [o] := by
  have h := flat_one w 33 10 (o.cells s).toArray rfl (o.one (FlatAt.oneCell hs)) (fun i => F i ∨ i = w.heap.size) (.inr rfl)
  have hb : Later w (w.alloc (.cells (o.cells s).toArray 33 (0, 0))) := (Below.refl _ _).alloc (Nat.le_refl _) _
  have h2 : StepsAt (fun i => F i ∨ i = w.heap.size) (w.alloc (.cells (o.cells s).toArray 33 (0, 0))) s o.steps := StepsAt.mono (StepsAt.kept hs (Kept.of_below hb F)) (fun i _ hi => .inl hi)
  have e : ([(o, s)] : List (OpD × Value)).flatMap (fun p => p.1.cells p.2) = (o.cells s).toArray.toList := by
    rw [List.flatMap_cons, List.flatMap_nil, List.append_nil]
  have h3 : OpsIn (fun i => F i ∨ i = w.heap.size) (w.alloc (.cells (o.cells s).toArray 33 (0, 0))) (.slice (some ⟨w.heap.size, 0, none⟩) 1 1) [(o, s)] := by
    refine ⟨?_, fun p hp => ?_⟩
    · rw [e]
      exact h
    · have e2 := List.mem_singleton.1 hp
      rw [e2]
      exact h2
  exact ⟨[(o, s)], rfl, h3⟩
section
variable {w : World}
set_option maxHeartbeats 16000000 in
set_option maxRecDepth 100000 in
theorem law_apart {F0 F1 : Nat → Prop} {v sv : Value} {l : List OpD} {o : OpD} (hl : OpsAt F0 w v l) (hwl : ∀ x ∈ l, x.wf) (hs : StepsAt F1 w sv o.steps) (hwo : o.wf) :
    Calls Tryz.prog 7 #[v, .agg (o.cells sv).toArray] w (LawTrue w) := by
  obtain ⟨i0, hi, hz0, hz1, _⟩ := info_parts (show (Tryz.prog.info? 33).map (fun i => (i.zero, i.size, i.bytes)) = some (some (.agg #[.int .i64 0, .int .i64 0, .int .i64 0, .string ⟨#[]⟩, .slice none 0 0, .int .i64 0, .int .i64 0, .int .i64 0, .bool false, .bool false]), 10, 96) from by kernel_rfl)
  have HI := hide hi
  have HZ0 := hide hz0
  have HZ1 := hide hz1
  obtain ⟨W1, hW1⟩ : ∃ W1, W1 = w.alloc (.cells (o.cells sv).toArray 33 (0, 0)) := ⟨_, rfl⟩
  obtain ⟨d, hd⟩ : ∃ d, d = w.heap.size := ⟨_, rfl⟩
  have X1 : Hid (OBox d o sv W1) := by rw [hW1, hd]; exact heap_alloc_new _ _
  have L1 : Hid (Later w W1) := by rw [hW1]; exact (Below.refl _ _).alloc (Nat.le_refl _) _
  have HDW : Hid (w.heap.size ≤ d) := Nat.le_of_eq hd.symm
  have HLW : Hid (d < W1.heap.size) := lt_of_block X1.out
  have HO := hide hl
  have HWL := hide hwl
  have HS := hide hs
  have HWO := hide hwo
  have CN := hide (new_yes 8 W1 (by decide) (by decide))
  obtain ⟨ps, hps, hop⟩ := hl
  obtain ⟨A, cp, rfl, _, _, _⟩ := FlatAt.shape hop.1
  obtain ⟨SA, sc, hsv, _, _, _⟩ := FlatAt.shape hs
  have HSV := hide hsv
  clear hsv
  have hsmall : ps.length ≤ 9223372036854775807 := by
    obtain ⟨A', c', _, q1, q2, _⟩ := FlatAt.shape hop.1
    unfold maxLen at q2
    omega
  have hln : ps.length = l.length := by rw [← hps, List.length_map]
  have HOP := hide hop
  have HPS := hide hps
  obtain ⟨n, hn⟩ : ∃ n, ps.length = n := ⟨_, rfl⟩
  have HNP := hide hn
  rw [hn] at HO hsmall hln ⊢
  have HN : Hid (l.length = n) := hln.symm
  have HW1 := hide hW1.symm
  have HG := hide hd.symm
  clear hi hz0 hz1 hW1 hd hwl hs hwo hop hps hln hn
  go_enter Tryz.func7, Tryz.ntmps7
  go_wp2_with (fail)
  simp only [HW1.out, HG.out]
  refine CN.out.mono ?_
  rintro e w1 ⟨g, b, rfl, hg, hb, hl1, hbk⟩
  have HBK := hide (hbk (fun i => i ≠ g ∧ i ≠ b) (fun h => h.1 rfl) (fun h => h.2 rfl))
  have HGB := hide (And.intro hg hb)
  have L2a : Later w W1 := L1.out
  have L2 : Hid (Later w w1) := Later.trans L2a hl1
  have X2 := hide (X1.out.below hl1)
  clear hg hb hl1 hbk CN L2a
  have CL1 := hide (light_any (w := w1) (HO.out.kept (Kept.of_below L2.out _)) HWL.out)
  go_wp2_with (fail)
  refine CL1.out.mono ?_
  rintro e w2 ⟨q1, rfl, hq1, hl2⟩
  have L3a : Later w w1 := L2.out
  have L3 : Hid (Later w w2) := Later.trans L3a hl2
  have X3 := hide (X2.out.below hl2)
  have HBK3 := hide (HBK.out.later hl2)
  have HQ1 := hide hq1
  clear hl2 hq1 CL1 L3a
  cases q1 with
  | false =>
    go_wp2_with (fail)
    refine (lives_any (w := w2)).mono ?_
    rintro e w9 ⟨rfl, hl⟩
    have La : Later w w2 := L3.out
    have L9 : Hid (Later w w9) := Later.trans La hl
    clear hl La
    go_wp2
    go_ret
    exact ⟨rfl, L9.out⟩
  | true =>
    obtain ⟨h80, hst⟩ := HQ1.out rfl
    rw [HN.out] at h80
    have O2 : OpsAt (fun i => True ∨ i = w2.heap.size) (w2.alloc (.cells (o.cells sv).toArray 33 (0, 0))) (.slice (some ⟨w2.heap.size, 0, none⟩) 1 1) [o] := op_slice w2 (fun _ => True) o sv (StepsAt.mono (StepsAt.kept HS.out (Kept.of_below L3.out F1)) (fun _ _ _ => trivial))
    have CL2 := hide (light_any O2 (fun x hx => by rw [List.mem_singleton.1 hx]; exact HWO.out))
    have LA2 : Hid (Later w2 (w2.alloc (.cells (o.cells sv).toArray 33 (0, 0)))) := (Below.refl _ _).alloc (Nat.le_refl _) _
    clear O2 hst
    go_wp2_with (first | (refine wpList_val rfl (by rfl) (exec_load_op _ (by rfl) (by rfl) X3.out) ?_) | (refine wpList_val rfl (by rfl) (exec_buildSlice_op HI.out HZ0.out HZ1.out (by rfl) (by rfl)) ?_))
    refine CL2.out.mono ?_
    rintro e w3 ⟨q2, rfl, _, hl3⟩
    have Lb : Later w2 w3 := Later.trans LA2.out hl3
    have La : Later w w2 := L3.out
    have L4 : Hid (Later w w3) := Later.trans La Lb
    have X4 := hide (X3.out.below Lb)
    have HBK4 := hide (HBK3.out.later Lb)
    clear hl3 Lb La CL2
    cases q2 with
    | false =>
      go_wp2_with (fail)
      refine (lives_any (w := w3)).mono ?_
      rintro e w9 ⟨rfl, hl⟩
      have La : Later w w3 := L4.out
      have L9 : Hid (Later w w9) := Later.trans La hl
      clear hl La
      go_wp2
      go_ret
      exact ⟨rfl, L9.out⟩
    | true =>
      go_wp2
      go_loopw [36] (fun s wr => ∃ (q k : Nat) (t : BkS), q ≤ n ∧ s = .int .i64 (q : Int) ∧ k ≤ q ∧ Hid (t.last ≤ (q : Int) ∧ t.L.length ≤ q) ∧ Hid (BookAt (fun i => i ≠ g ∧ i ≠ b) wr g b k 8 t) ∧ Hid (Turned (fun i => i = g ∨ i = b) w3 wr)) (fun s _ => n - (Go.RowKit.intOf s).toNat)
      case atStart => exact ⟨0, 0, ⟨0, []⟩, by omega, rfl, by omega, ⟨by decide, by decide⟩, HBK4.out, Turned.refl _ _⟩
      case round =>
        obtain ⟨q, k, t, hq, rfl, hk, HT, HB, TR⟩ := hrel
        have HLT := hide HB.out.lt
        have LR : Hid (Later w wr) := ((Turned.of_below L4.out (fun _ => False)).onto TR.out (fun i hi => .inr (by have b1 := HGB.out; have b2 := Below.size L1.out; rcases hi with hi | hi <;> omega))).below (fun i hi => hi.elim) (Nat.le_refl _)
        have HDG : Hid (d ≠ g ∧ d ≠ b) := by
          have a1 := HGB.out
          have a2 := HLW.out
          exact ⟨by omega, by omega⟩
        have XR : Hid (OBox d o sv wr) := X4.out.turned TR.out (fun e => e.elim HDG.out.1 HDG.out.2)
        by_cases hqn : q < n
        · obtain ⟨x, xs, xb, off, c', hx, hv, _, _, _, hr, hst⟩ := OpsIn.at_ (HOP.out.kept (Kept.of_below LR.out _)) (i := q) (by rw [HNP.out]; exact hqn)
          rw [HNP.out] at hv
          obtain ⟨rfl, rfl⟩ : A = some ⟨xb, off, none⟩ ∧ cp = c' := by injection hv with e1 _ e3; exact ⟨e1, e3⟩
          have hxm : x ∈ l := by rw [← HPS.out]; exact List.mem_map.2 ⟨_, List.mem_of_getElem? hx, rfl⟩
          have HXW := hide (HWL.out x hxm)
          have HR := hide hr
          have HST := hide hst
          obtain ⟨yA, yc, hys, _, _, _⟩ := FlatAt.shape hst
          have O5 : Hid (OBox wr.heap.size OpD.zero (.slice none 0 0) (wr.alloc (.cells #[.int .i64 0, .int .i64 0, .int .i64 0, .string ⟨#[]⟩, .slice none 0 0, .int .i64 0, .int .i64 0, .int .i64 0, .bool false, .bool false] 33 (0, 0)))) := heap_alloc_new _ _
          have L5a : Hid (Later wr (wr.alloc (.cells #[.int .i64 0, .int .i64 0, .int .i64 0, .string ⟨#[]⟩, .slice none 0 0, .int .i64 0, .int .i64 0, .int .i64 0, .bool false, .bool false] 33 (0, 0)))) := (Below.refl _ _).alloc (Nat.le_refl _) _
          have HYS := hide hys
          clear hx hv hr hst hxm hys
          go_wp2_with (first | (refine wpList_val rfl (by rfl) (exec_load_row _ (by rfl) (by rfl) HR.out) ?_) | (refine wpList_store_op (o := x) (s := xs) (by rfl) _ _ (by rfl) (by rfl) O5.out (FlatAt.oneCell HST.out) (by rfl) ?_))
          intro w5 Z5 G5
          have HZ5 := hide Z5
          have L5 : Hid (Later wr w5) := L5a.out.grown G5 (by simp) (fun k hk => by have := Option.some.inj hk; omega)
          have CA := hide (apply_any (o := x) (A := yA) (n := x.steps.length) (c := yc) (HB.out.later L5.out) (by omega) (by have b3 : t.last ≤ (q : Int) ∧ t.L.length ≤ q := HT.out; omega) (by have h9 := StepsAt.kept HST.out (Kept.of_below L5.out _); rw [HYS.out] at h9; exact h9) HXW.out (by have b4 : t.last ≤ (q : Int) ∧ t.L.length ≤ q := HT.out; omega) (fun i hi => by have a1 := (HB.out.later L5.out).lt; exact ⟨by omega, by omega⟩))
          rw [← HYS.out] at CA
          clear Z5 G5 O5 L5a
          go_wp2_with (refine wpList_val rfl (by rfl) (exec_load_op _ (by rfl) (by rfl) HZ5.out) ?_)
          refine CA.out.mono ?_
          rintro e w6 ⟨rfl, hb6, ht6⟩
          have H6 := hide hb6
          have T5 : Turned (fun i => i = g ∨ i = b) w3 w5 := TR.out.trans (Turned.of_below L5.out _)
          have T6 : Hid (Turned (fun i => i = g ∨ i = b) w3 w6) := T5.trans ht6
          clear hb6 ht6 T5 CA
          go_wp2
          go_roundw
          case rel => exact ⟨q + 1, k + 1, _, by omega, by go_num, by omega, (by
            have g1 := apply_grow 8 t x
            have g2 : t.last ≤ (q : Int) ∧ t.L.length ≤ q := HT.out
            exact ⟨by omega, by omega⟩), H6, T6⟩
          case measure => simp [Go.RowKit.intOf]; omega
        · obtain rfl : q = n := by omega
          have c0 := (XR.out.at_).1
          obtain ⟨kd, hkd⟩ : ∃ kd, o.kind = kd := ⟨_, rfl⟩
          rw [hkd] at c0
          have HKD := hide hkd
          clear hkd
          by_cases hk1 : kd = 1
          · subst hk1
            go_wp2_with (fail)
            refine (lives_any (w := wr)).mono ?_
            rintro e w9 ⟨rfl, hl⟩
            have La : Later w wr := LR.out
            have L9 : Hid (Later w w9) := Later.trans La hl
            clear hl La
            go_wp2
            go_ret
            exact ⟨rfl, L9.out⟩
          · have hk1' : (kd == 1) = false := by simpa using hk1
            have HAP := hide (apply_apart 8 t o HB.out.ok.1 (by rw [HKD.out]; exact hk1))
            have CC := hide (copy_any HB.out)
            clear hk1
            go_wp2_with (fail)
            refine CC.out.mono ?_
            rintro e w5 ⟨g2, b2, rfl, hg2, hb2, hl5, hcp⟩
            have L5 : Hid (Later wr w5) := hl5
            have HN2 : Hid (wr.heap.size ≤ g2 ∧ wr.heap.size ≤ b2) := ⟨hg2, hb2⟩
            have HC5 : Hid (BookAt (fun i => i ≠ g ∧ i ≠ b ∧ i ≠ g2 ∧ i ≠ b2) w5 g2 b2 k 8 t) := hcp _ (fun i hi hf => ⟨hf.1, hf.2, by omega, by omega⟩) (fun e => e.2.2.1 rfl) (fun e => e.2.2.2 rfl)
            have HB5 : Hid (BookAt (fun i => i ≠ g ∧ i ≠ b ∧ i ≠ g2 ∧ i ≠ b2) w5 g b k 8 t) := (HB.out.mono (G := fun i => i ≠ g ∧ i ≠ b ∧ i ≠ g2 ∧ i ≠ b2) (fun i hi hf => ⟨hf.1, hf.2, by omega, by omega⟩) (fun e => e.1 rfl) (fun e => e.2.1 rfl)).later hl5
            have HAP2 : Hid (g2 ≠ g ∧ g2 ≠ b ∧ b2 ≠ g ∧ b2 ≠ b) := by
              have a1 := HLT.out
              exact ⟨by omega, by omega, by omega, by omega⟩
            have X5 : Hid (OBox d o sv w5) := XR.out.below hl5
            have CA := hide (apply_any (o := o) (A := SA) (n := o.steps.length) (c := sc) HB5.out (by omega) (by have b3 : t.last ≤ (q : Int) ∧ t.L.length ≤ q := HT.out; omega) (by have h9 := StepsAt.kept HS.out (Kept.of_below (Later.trans (show Later w wr from LR.out) hl5) F1); rw [HSV.out] at h9; exact h9) HWO.out (by have b4 : t.last ≤ (q : Int) ∧ t.L.length ≤ q := HT.out; omega) (fun i hi => by have a1 := HB5.out.lt; have a2 := HC5.out.lt; exact ⟨by omega, by omega, by omega, by omega⟩))
            rw [← HSV.out] at CA
            clear hg2 hb2 hl5 hcp CC c0
            go_wp2_with (refine wpList_val rfl (by rfl) (exec_load_op _ (by rfl) (by rfl) X5.out) ?_)
            refine CA.out.mono ?_
            rintro e w6 ⟨rfl, hb6, ht6⟩
            obtain ⟨t6, ht6e⟩ : ∃ t6, applyS 8 t o = t6 := ⟨_, rfl⟩
            rw [ht6e] at hb6 HAP
            have HB6 := hide hb6
            have T6 := hide ht6
            have HC6 : Hid (BookAt (fun i => i ≠ g ∧ i ≠ b ∧ i ≠ g2 ∧ i ≠ b2) w6 g2 b2 k 8 t) := HC5.out.turned ht6 (fun e => e.elim HAP2.out.1 HAP2.out.2.1) (fun e => e.elim HAP2.out.2.2.1 HAP2.out.2.2.2) (fun i hi e => e.elim hi.1 hi.2.1)
            have X6 : Hid (OBox d o sv w6) := X5.out.turned ht6 (fun e => e.elim HDG.out.1 HDG.out.2)
            have HL8 : Hid (t.L.length ≤ 1000000) := by
              have b3 : t.last ≤ (q : Int) ∧ t.L.length ≤ q := HT.out
              show t.L.length ≤ 1000000
              omega
            have CI := hide (ids_any HC6.out HL8.out)
            have T36 : Hid (Turned (fun i => i = g ∨ i = b) w3 w6) := (TR.out.trans (Turned.of_below L5.out _)).trans ht6
            have LW6 : Hid (Later w w6) := ((Turned.of_below L4.out (fun _ => False)).onto T36.out (fun i hi => .inr (by have b1 := HGB.out; have b2 := Below.size L1.out; rcases hi with hi | hi <;> omega))).below (fun i hi => hi.elim) (Nat.le_refl _)
            clear hb6 ht6 CA ht6e
            go_wp2_with (fail)
            refine CI.out.mono ?_
            rintro e w7 ⟨A7, n7, c7, rfl, _, hI7, _, hl7⟩
            have HI7 := hide hI7
            have L67 : Hid (Later w6 w7) := hl7
            have HB7 := hide (HB6.out.later hl7)
            have HC7 := hide (HC6.out.later hl7)
            have X7 : Hid (OBox d o sv w7) := X6.out.below hl7
            have HN7 : Hid (t.L.length = n7) := by
              have b1 := hI7.1
              rw [idsOf_len] at b1
              exact b1
            have hn7b : n7 ≤ 1000000 := by
              have b1 := HL8.out
              rw [HN7.out] at b1
              exact b1
            clear hI7 hl7 CI
            go_wp2
            go_loopw [56] (fun s wx => ∃ j : Nat, j ≤ n7 ∧ s = .int .i64 (j : Int) ∧ Hid (Later w7 wx)) (fun s _ => n7 - (Go.RowKit.intOf s).toNat)
            case atStart => exact ⟨0, by omega, rfl, Later.refl _⟩
            case round =>
              obtain ⟨j, hj, rfl, LX⟩ := hrel
              by_cases hjn : j < n7
              · obtain ⟨B, off, rfl, hB, hc⟩ := HI7.out.at_ hjn
                obtain ⟨id, hid⟩ : ∃ id, (idsOf t.L)[j]? = some id := ⟨(idsOf t.L)[j]'(by rw [idsOf_len, HN7.out]; exact hjn), List.getElem?_eq_getElem _⟩
                rw [show (idsOf t.L).getD j 0 = id from by simp [List.getD, hid]] at hc
                have hc2 : wr.cell? ⟨B, off + j, none⟩ = some (.int .i64 id) := (Below.cell LX.out (p := ⟨B, off + j, none⟩) hB).trans hc
                have hi64 : I64 id := HB.out.ok.fit id (List.mem_of_getElem? hid)
                have HBX := hide (HB7.out.later LX.out)
                have HCX := hide (HC7.out.later LX.out)
                have CS1 := hide (saga_any HBX.out hi64)
                have CS2 : Hid (∀ W, Later wr W → Calls Tryz.prog 12 #[.pointer (some ⟨g2, 0, none⟩), .int .i64 id] W (OwnV (atS t id) (atL t id) (atB t id) W)) := fun W hW => saga_any (HCX.out.later hW) hi64
                have hb6 : atB t6 id = true := HAP.out.2.1 id (ids_there hid)
                rw [hb6] at CS1
                have HSE : Hid (id ≠ o.saga → atS t6 id = atS t id ∧ atL t6 id = atL t id) := fun hne => by
                  unfold atS atL
                  rw [HAP.out.1 id hne]
                  exact ⟨rfl, rfl⟩
                have XX := hide (X7.out.below LX.out)
                obtain ⟨s1, hs1⟩ : ∃ s, atS t6 id = s := ⟨_, rfl⟩
                obtain ⟨l1, hl1⟩ : ∃ l, atL t6 id = l := ⟨_, rfl⟩
                obtain ⟨s2, hs2⟩ : ∃ s, atS t id = s := ⟨_, rfl⟩
                obtain ⟨l2, hl2⟩ : ∃ l, atL t id = l := ⟨_, rfl⟩
                rw [hs1, hl1] at CS1 HSE
                rw [hs2, hl2] at CS2 HSE
                clear hc hid hi64 hb6 hs1 hl1 hs2 hl2 hB
                go_wp2_with (fail)
                refine CS1.out.mono ?_
                rintro e w8 ⟨p8, n8, c8, rfl, hs8, hl8⟩
                have HS8 := hide hs8
                have L8 : Hid (Later wr w8) := hl8
                have T8 : Hid (SBox 36 w8.heap.size SagaD.zero (w8.alloc (.cells #[.string ⟨#[]⟩, .slice none 0 0, .int .i64 0, .int .i64 0, .int .i64 0, .bool false, .bool false, .bool false, .bool false, .bool false, .bool false, .bool false, .bool false] 36 (0, 0)))) := heap_alloc_new _ _
                have L8b : Hid (Later w8 (w8.alloc (.cells #[.string ⟨#[]⟩, .slice none 0 0, .int .i64 0, .int .i64 0, .int .i64 0, .bool false, .bool false, .bool false, .bool false, .bool false, .bool false, .bool false, .bool false] 36 (0, 0)))) := (Below.refl _ _).alloc (Nat.le_refl _) _
                clear hs8 hl8 CS1
                go_wp2_with (refine wpList_store_saga (s := s1.withV p8 n8 c8) (by rfl) _ _ (by rfl) (by rfl) T8.out (by rfl) ?_)
                intro w9 Z9 G9
                have X9 := hide Z9
                have L89 : Later w8 w9 := L8b.out.grown G9 (by simp) (fun k hk => by have b1 := Option.some.inj hk; omega)
                have L9 : Hid (Later wr w9) := Later.trans L8.out L89
                have S9 : Hid (StepsAt (wr.heap.size ≤ ·) w9 (.slice p8 n8 c8) l1) := StepsAt.kept HS8.out (Kept.of_below L89 _)
                clear Z9 G9 L89 T8 L8b HS8
                go_wp2_with (fail)
                refine (CS2.out _ L9.out).mono ?_
                rintro e w10 ⟨p10, n10, c10, rfl, hs10, hl10⟩
                have HS10 := hide hs10
                have L10 : Hid (Later w9 w10) := hl10
                have X10 := hide (X9.out.below hl10)
                have S10 : Hid (StepsAt (wr.heap.size ≤ ·) w10 (.slice p8 n8 c8) l1) := StepsAt.kept S9.out (Kept.of_below hl10 _)
                have T10 : Hid (SBox 36 w10.heap.size SagaD.zero (w10.alloc (.cells #[.string ⟨#[]⟩, .slice none 0 0, .int .i64 0, .int .i64 0, .int .i64 0, .bool false, .bool false, .bool false, .bool false, .bool false, .bool false, .bool false, .bool false] 36 (0, 0)))) := heap_alloc_new _ _
                have L10b : Hid (Later w10 (w10.alloc (.cells #[.string ⟨#[]⟩, .slice none 0 0, .int .i64 0, .int .i64 0, .int .i64 0, .bool false, .bool false, .bool false, .bool false, .bool false, .bool false, .bool false, .bool false] 36 (0, 0)))) := (Below.refl _ _).alloc (Nat.le_refl _) _
                clear hs10 hl10 CS2
                go_wp2_with (refine wpList_store_saga (s := s2.withV p10 n10 c10) (by rfl) _ _ (by rfl) (by rfl) T10.out (by rfl) ?_)
                intro w11 Z11 G11
                have Y11 := hide Z11
                have L1011 : Later w10 w11 := L10b.out.grown G11 (by simp) (fun k hk => by have b1 := Option.some.inj hk; omega)
                have X11 := hide (X10.out.below L1011)
                have S11 : Hid (StepsAt (wr.heap.size ≤ ·) w11 (s1.withV p8 n8 c8).v l1) := StepsAt.kept S10.out (Kept.of_below L1011 _)
                have U11 : Hid (StepsAt (w9.heap.size ≤ ·) w11 (s2.withV p10 n10 c10).v l2) := StepsAt.kept HS10.out (Kept.of_below L1011 _)
                have La : Later w9 w11 := Later.trans L10.out L1011
                have Lb : Later wr w11 := Later.trans L9.out La
                have L11 : Hid (Later w7 w11) := Later.trans LX.out Lb
                have XO := hide (XX.out.below Lb)
                obtain ⟨_, _, _, c5, _⟩ := XO.out.at_
                clear Z11 G11 La Lb L1011
                by_cases hne : id = o.saga
                · have e1 : (id != o.saga) = false := by simpa using hne
                  generalize o.saga = sg at c5 e1
                  clear hne
                  go_wp2
                  go_roundw
                  case rel => exact ⟨j + 1, by omega, by go_num, L11⟩
                  case measure => simp [Go.RowKit.intOf]; omega
                · have e1 : (id != o.saga) = true := by simpa using hne
                  obtain ⟨q1, q2⟩ := HSE.out hne
                  have CE := hide (saga_same S11.out U11.out)
                  rw [show sameE (s1.withV p8 n8 c8) l1 (s2.withV p10 n10 c10) l2 = true from by rw [q1, q2]; exact sameE_refl s2 l2] at CE
                  generalize o.saga = sg at c5 e1
                  clear hne q1 q2
                  go_wp2_with (first | (refine wpList_val rfl (by rfl) (exec_load_saga _ (by rfl) (by rfl) X11.out) ?_) | (refine wpList_val rfl (by rfl) (exec_load_saga _ (by rfl) (by rfl) Y11.out) ?_))
                  refine CE.out.mono ?_
                  rintro e w12 ⟨rfl, hl12⟩
                  have La : Later w7 w11 := L11.out
                  have L12 : Hid (Later w7 w12) := Later.trans La hl12
                  clear hl12 La CE
                  go_wp2
                  go_roundw
                  case rel => exact ⟨j + 1, by omega, by go_num, L12⟩
                  case measure => simp [Go.RowKit.intOf]; omega
              · obtain rfl : j = n7 := by omega
                have HBX := hide (HB7.out.later LX.out)
                have CI1 := hide (ids_any HBX.out (by rw [HAP.out.2.2]; exact HL8.out))
                have CI2 : Hid (∀ W, Later wr W → Calls Tryz.prog 26 #[.pointer (some ⟨g2, 0, none⟩)] W (NewInts W (idsOf t.L))) := fun W hW => by
                  have h1 : Later w7 W := Later.trans (show Later w7 wr from LX.out) hW
                  exact ids_any (HC7.out.later h1) HL8.out
                go_wp2_with (fail)
                refine CI1.out.mono ?_
                rintro e w8 ⟨A8, n8, c8, rfl, _, hI8, _, hl8⟩
                have hn8 : n8 = j := by
                  have b1 := hI8.1
                  rw [idsOf_len, HAP.out.2.2, HN7.out] at b1
                  exact b1.symm
                subst hn8
                have L8 : Hid (Later wr w8) := hl8
                clear hI8 hl8 CI1
                go_wp2_with (fail)
                refine (CI2.out _ L8.out).mono ?_
                rintro e w9 ⟨A9, n9, c9, rfl, _, hI9, _, hl9⟩
                have hn9 : n9 = n8 := by
                  have b1 := hI9.1
                  rw [idsOf_len, HN7.out] at b1
                  exact b1.symm
                subst hn9
                have La : Later w7 w8 := Later.trans (show Later w7 wr from LX.out) L8.out
                have Lb : Later w7 w9 := Later.trans La hl9
                have Lc : Later w w7 := Later.trans (show Later w w6 from LW6.out) L67.out
                have L9 : Hid (Later w w9) := Later.trans Lc Lb
                clear hI9 hl9 La Lb Lc CI2
                go_wp2_with (fail)
                refine (lives_any (w := w9)).mono ?_
                rintro e w10 ⟨rfl, hl⟩
                have La : Later w w9 := L9.out
                have L10 : Hid (Later w w10) := Later.trans La hl
                clear hl La
                go_wp2
                go_ret
                exact ⟨rfl, L10.out⟩
end
end Go.Proofs.YtpicnoinnngpeaaGreat
/- BookKeeps. -/
namespace Go.Proofs.YtpicnoinnngpeaaGreat
open Go.RowKit Go.Maps
theorem pre_turned (S : Nat → Prop) : Pre (Turned S) := ⟨fun w => Turned.refl S w, fun h k => h.trans k⟩
section
variable {w : World}
set_option maxHeartbeats 16000000 in
set_option maxRecDepth 100000 in
theorem law_keeps {F0 : Nat → Prop} {v : Value} {l : List OpD} (m : Int) (hm0 : 0 ≤ m) (_hm1 : m < 18446744073709551616) (hl : OpsAt F0 w v l) (hwl : ∀ x ∈ l, x.wf) :
    Calls Tryz.prog 5 #[.int .u64 m, v] w (LawTrue w) := by
  obtain ⟨N, hN⟩ : ∃ N : Nat, m % 33 = (N : Int) := ⟨(m % 33).toNat, by omega⟩
  have hN33 : N ≤ 32 := by omega
  have CN := hide (new_yes (N : Int) w (by omega) (by omega))
  have HO := hide hl
  have HWL := hide hwl
  obtain ⟨ps, hps, hop⟩ := hl
  obtain ⟨A, cp, rfl, _, _, _⟩ := FlatAt.shape hop.1
  have hsmall : ps.length ≤ 9223372036854775807 := by
    obtain ⟨A', c', _, q1, q2, _⟩ := FlatAt.shape hop.1
    unfold maxLen at q2
    omega
  have hln : ps.length = l.length := by rw [← hps, List.length_map]
  have HOP := hide hop
  have HPS := hide hps
  obtain ⟨n, hn⟩ : ∃ n, ps.length = n := ⟨_, rfl⟩
  have HNP := hide hn
  rw [hn] at HO hsmall hln ⊢
  have HN : Hid (l.length = n) := hln.symm
  clear hwl hop hps hln hn hN33
  go_enter Tryz.func5, Tryz.ntmps5
  go_wp2_with (fail)
  refine CN.out.mono ?_
  rintro e w1 ⟨g, b, rfl, hg, hb, hl1, hbk⟩
  have HBK := hide (hbk (fun i => i ≠ g ∧ i ≠ b) (fun h => h.1 rfl) (fun h => h.2 rfl))
  have HGB := hide (And.intro hg hb)
  have L2 : Hid (Later w w1) := hl1
  clear hg hb hl1 hbk CN
  have CL1 := hide (light_any (w := w1) (HO.out.kept (Kept.of_below L2.out _)) HWL.out)
  go_wp2_with (fail)
  refine CL1.out.mono ?_
  rintro e w3 ⟨q1, rfl, hq1, hl2⟩
  have L3a : Later w w1 := L2.out
  have L4 : Hid (Later w w3) := Later.trans L3a hl2
  have HBK4 := hide (HBK.out.later hl2)
  have HQ1 := hide hq1
  clear hl2 hq1 CL1 L3a
  cases q1 with
  | false =>
    go_wp2_with (fail)
    refine (lives_any (w := w3)).mono ?_
    rintro e w9 ⟨rfl, hl⟩
    have La : Later w w3 := L4.out
    have L9 : Hid (Later w w9) := Later.trans La hl
    clear hl La
    go_wp2
    go_ret
    exact ⟨rfl, L9.out⟩
  | true =>
    obtain ⟨h80, hst⟩ := HQ1.out rfl
    rw [HN.out] at h80
    clear hst
    go_wp2
    go_loopw [28] (fun s wr => ∃ (q k : Nat) (t : BkS), q ≤ n ∧ s = .int .i64 (q : Int) ∧ k ≤ q ∧ Hid (t.last ≤ (q : Int) ∧ t.L.length ≤ q) ∧ Hid (BookAt (fun i => i ≠ g ∧ i ≠ b) wr g b k (N : Int) t) ∧ Hid (Turned (fun i => i = g ∨ i = b) w3 wr)) (fun s _ => n - (Go.RowKit.intOf s).toNat)
    case atStart => exact ⟨0, 0, ⟨0, []⟩, by omega, rfl, by omega, ⟨by decide, by decide⟩, HBK4.out, Turned.refl _ _⟩
    case round =>
      obtain ⟨q, k, t, hq, rfl, hk, HT, HB, TR⟩ := hrel
      have HLT := hide HB.out.lt
      have LR : Hid (Later w wr) := ((Turned.of_below L4.out (fun _ => False)).onto TR.out (fun i hi => .inr (by have b1 := HGB.out; rcases hi with hi | hi <;> omega))).below (fun i hi => hi.elim) (Nat.le_refl _)
      by_cases hqn : q < n
      · obtain ⟨x, xs, xb, off, c', hx, hv, _, _, _, hr, hst⟩ := OpsIn.at_ (HOP.out.kept (Kept.of_below LR.out _)) (i := q) (by rw [HNP.out]; exact hqn)
        rw [HNP.out] at hv
        obtain ⟨rfl, rfl⟩ : A = some ⟨xb, off, none⟩ ∧ cp = c' := by injection hv with e1 _ e3; exact ⟨e1, e3⟩
        have hxm : x ∈ l := by rw [← HPS.out]; exact List.mem_map.2 ⟨_, List.mem_of_getElem? hx, rfl⟩
        have HXW := hide (HWL.out x hxm)
        have HR := hide hr
        have HST := hide hst
        obtain ⟨yA, yc, hys, _, _, _⟩ := FlatAt.shape hst
        have O5 : Hid (OBox wr.heap.size OpD.zero (.slice none 0 0) (wr.alloc (.cells #[.int .i64 0, .int .i64 0, .int .i64 0, .string ⟨#[]⟩, .slice none 0 0, .int .i64 0, .int .i64 0, .int .i64 0, .bool false, .bool false] 33 (0, 0)))) := heap_alloc_new _ _
        have L5a : Hid (Later wr (wr.alloc (.cells #[.int .i64 0, .int .i64 0, .int .i64 0, .string ⟨#[]⟩, .slice none 0 0, .int .i64 0, .int .i64 0, .int .i64 0, .bool false, .bool false] 33 (0, 0)))) := (Below.refl _ _).alloc (Nat.le_refl _) _
        have HYS := hide hys
        have HSW : Hid (StepsAt (fun i => F0 i ∧ i < w.heap.size) w xs x.steps) := by
          obtain ⟨x2, xs2, _, _, _, hx2, _, _, _, _, _, hst2⟩ := OpsIn.at_ HOP.out (i := q) (by rw [HNP.out]; exact hqn)
          rw [hx] at hx2
          obtain ⟨rfl, rfl⟩ : x = x2 ∧ xs = xs2 := by injection hx2 with e; injection e with e1 e2; exact ⟨e1, e2⟩
          exact StepsAt.mono hst2 (fun i hi hf => ⟨hf, hi⟩)
        clear hx hv hr hst hxm hys
        go_wp2_with (first | (refine wpList_val rfl (by rfl) (exec_load_row _ (by rfl) (by rfl) HR.out) ?_) | (refine wpList_store_op (o := x) (s := xs) (by rfl) _ _ (by rfl) (by rfl) O5.out (FlatAt.oneCell HST.out) (by rfl) ?_))
        intro w4 Z4 G4
        obtain ⟨d, hd⟩ : ∃ d, wr.heap.size = d := ⟨_, rfl⟩
        rw [hd] at Z4 G4
        rw [hd]
        have HD := hide hd
        have X4 : Hid (OBox d x xs w4) := Z4
        have L4w : Hid (Later wr w4) := L5a.out.grown G4 (by simp) (fun k hk => by have b1 := Option.some.inj hk; omega)
        have HB4 := hide (HB.out.later L4w.out)
        have CC := hide (copy_any HB4.out)
        clear Z4 G4 O5 L5a hd
        go_wp2_with (fail)
        refine CC.out.mono ?_
        rintro e w5 ⟨g2, b2, rfl, hg2, hb2, hl5, hcp⟩
        have hlt4 := HB4.out.lt
        have L45 : Hid (Later w4 w5) := hl5
        have HN2 : Hid (w4.heap.size ≤ g2 ∧ w4.heap.size ≤ b2) := ⟨hg2, hb2⟩
        have HC5 : Hid (BookAt (fun i => i ≠ g ∧ i ≠ b ∧ i ≠ g2 ∧ i ≠ b2) w5 g2 b2 k (N : Int) t) := hcp _ (fun i hi hf => ⟨hf.1, hf.2, by omega, by omega⟩) (fun e => e.2.2.1 rfl) (fun e => e.2.2.2 rfl)
        have HB5 : Hid (BookAt (fun i => i ≠ g ∧ i ≠ b ∧ i ≠ g2 ∧ i ≠ b2) w5 g b k (N : Int) t) := (HB4.out.mono (G := fun i => i ≠ g ∧ i ≠ b ∧ i ≠ g2 ∧ i ≠ b2) (fun i hi hf => ⟨hf.1, hf.2, by omega, by omega⟩) (fun e => e.1 rfl) (fun e => e.2.1 rfl)).later hl5
        have HAP2 : Hid (g2 ≠ g ∧ g2 ≠ b ∧ b2 ≠ g ∧ b2 ≠ b) := ⟨by omega, by omega, by omega, by omega⟩
        have HDG : Hid (d ≠ g ∧ d ≠ b ∧ d ≠ g2 ∧ d ≠ b2) := by
          have a1 := HLT.out
          have a2 := HD.out
          have a3 : d < w4.heap.size := lt_of_block X4.out
          exact ⟨by omega, by omega, by omega, by omega⟩
        have X5 : Hid (OBox d x xs w5) := X4.out.below hl5
        have hself : sameT t t = true := sameT_refl HB4.out.ok
        have HSELF := hide hself
        have CS1 := hide (same_book HB5.out HC5.out)
        have CS2 : Hid (∀ W, Later w5 W → Calls Tryz.prog 25 #[.pointer (some ⟨g2, 0, none⟩), .pointer (some ⟨g, 0, none⟩)] W (Gives (.bool true) W)) := fun W hW => by
          have h9 := same_book (HC5.out.later hW) (HB5.out.later hW)
          rw [HSELF.out] at h9
          exact h9
        rw [hself] at CS1
        clear hg2 hb2 hl5 hcp CC hlt4 hself
        go_wp2_with (fail)
        refine CS1.out.mono ?_
        rintro e u1 ⟨rfl, hl⟩
        have M1 : Hid (Later w5 u1) := hl
        clear hl CS1
        go_wp2_with (fail)
        refine (CS2.out _ M1.out).mono ?_
        rintro e u2 ⟨rfl, hl⟩
        have M2 : Hid (Later w5 u2) := Later.trans (show Later w5 u1 from M1.out) hl
        clear hl CS2
        have HB6 := hide (HB5.out.later M2.out)
        have HC6 := hide (HC5.out.later M2.out)
        have X6 : Hid (OBox d x xs u2) := X5.out.below M2.out
        have LW2 : Hid (Later wr u2) := by
          have a1 : Later wr w4 := L4w.out
          have a2 : Later wr w5 := Later.trans a1 L45.out
          exact Later.trans a2 M2.out
        have CA := hide (apply_any (o := x) (A := yA) (n := x.steps.length) (c := yc) HB6.out (by omega) (by have b3 : t.last ≤ (q : Int) ∧ t.L.length ≤ q := HT.out; omega) (by have h9 := StepsAt.kept HST.out (Kept.of_below LW2.out _); rw [HYS.out] at h9; exact h9) HXW.out (by have b4 : t.last ≤ (q : Int) ∧ t.L.length ≤ q := HT.out; omega) (fun i hi => by have a1 := HB6.out.lt; have a2 := HC6.out.lt; exact ⟨by omega, by omega, by omega, by omega⟩))
        rw [← HYS.out] at CA
        obtain ⟨rr, hrr⟩ : ∃ rr, applyR (N : Int) t x = rr := ⟨_, rfl⟩
        obtain ⟨t6, ht6e⟩ : ∃ t6, applyS (N : Int) t x = t6 := ⟨_, rfl⟩
        rw [hrr, ht6e] at CA
        have HRR := hide hrr
        have HT6 := hide ht6e
        clear hrr ht6e
        go_wp2_with (refine wpList_val rfl (by rfl) (exec_load_op _ (by rfl) (by rfl) X6.out) ?_)
        refine CA.out.mono ?_
        rintro e w6 ⟨rfl, hb6, ht6⟩
        have HB7 := hide hb6
        have T6 := hide ht6
        have HC7 : Hid (BookAt (fun i => i ≠ g ∧ i ≠ b ∧ i ≠ g2 ∧ i ≠ b2) w6 g2 b2 k (N : Int) t) := HC6.out.turned ht6 (fun e => e.elim HAP2.out.1 HAP2.out.2.1) (fun e => e.elim HAP2.out.2.2.1 HAP2.out.2.2.2) (fun i hi e => e.elim hi.1 hi.2.1)
        have X7 : Hid (OBox d x xs w6) := X6.out.turned ht6 (fun e => e.elim HDG.out.1 HDG.out.2.1)
        have R7 : Hid (RBox w6.heap.size (errR 0) (w6.alloc (.cells #[.int .i64 0, .int .i64 0, .int .i64 0, .int .i64 0] 44 (0, 0)))) := heap_alloc_new _ _
        have L7a : Hid (Later w6 (w6.alloc (.cells #[.int .i64 0, .int .i64 0, .int .i64 0, .int .i64 0] 44 (0, 0)))) := (Below.refl _ _).alloc (Nat.le_refl _) _
        clear hb6 ht6 CA
        go_wp2_with (refine wpList_store_rep (r := rr) (by rfl) _ _ (by rfl) (by rfl) R7.out (by rfl) ?_)
        intro w7 Z7 G7
        obtain ⟨y, hy⟩ : ∃ y, w6.heap.size = y := ⟨_, rfl⟩
        rw [hy] at Z7 G7
        rw [hy]
        have L67 : Hid (Later w6 w7) := L7a.out.grown G7 (by simp) (fun k hk => by have b1 := Option.some.inj hk; omega)
        have Y8 : Hid (RBox y rr w7) := Z7
        have X8 := hide (X7.out.below L67.out)
        have HB8 := hide (HB7.out.later L67.out)
        have HC8 := hide (HC7.out.later L67.out)
        have HYG : Hid (y ≠ g2 ∧ y ≠ b2) := by
          have a1 := HC7.out.lt
          exact ⟨by omega, by omega⟩
        clear Z7 G7 R7 L7a hy
        have CSB : Hid (∀ W, Later w7 W → Calls Tryz.prog 25 #[.pointer (some ⟨g, 0, none⟩), .pointer (some ⟨g2, 0, none⟩)] W (Gives (.bool (sameT t6 t)) W)) := fun W hW => same_book (HB8.out.later hW) (HC8.out.later hW)
        have hkeep : rr.err ≠ 0 ∨ x.kind = 3 ∨ x.kind = 0 → t6 = t := fun h9 => by rw [← HT6.out]; exact apply_keeps _ _ _ (by rw [HRR.out]; exact h9)
        have HKEEP := hide hkeep
        have HERR : Hid (rr.err ≠ 0 → rr = errR rr.err) := fun h9 => by
          have h8 := apply_err (N : Int) t x (by rw [HRR.out]; exact h9)
          rw [HRR.out] at h8
          exact h8
        have HCH : Hid (rr.err = 0 → x.kind = 1 ∨ x.kind = 4 ∨ x.kind = 5 → sameT t6 t = false) := fun h9 h8 => by
          rw [← HT6.out]
          exact apply_changes _ _ _ (by rw [HRR.out]; exact h9) h8
        clear hkeep
        go_upto_region 11 with (fail)
        go_cut [77] (fun s77 wx => s77 = .bool false ∧ Hid (Later w7 wx))
        case first =>
          obtain ⟨r0, _, _, _⟩ := RBox.cells_ Y8.out
          have c0 := (X8.out.at_).1
          obtain ⟨er, her⟩ : ∃ er, rr.err = er := ⟨_, rfl⟩
          obtain ⟨kd, hkd⟩ : ∃ kd, x.kind = kd := ⟨_, rfl⟩
          rw [her] at r0 HERR HKEEP
          rw [hkd] at c0 HKEEP
          have HER := hide her
          clear her hkd HCH
          by_cases h0 : er = 0
          · subst h0
            by_cases h3 : kd = 3
            · obtain rfl := HKEEP.out (.inr (.inl h3))
              subst h3
              go_wp2_with (fail)
              refine (CSB.out _ (Later.refl _)).mono ?_
              rintro e w8 ⟨rfl, hl⟩
              rw [HSELF.out]
              have M8 := hide hl
              obtain ⟨r9, _, _, _⟩ := RBox.cells_ (Y8.out.below hl)
              rw [HER.out] at r9
              clear hl r0
              go_wp2_with (fail)
              go_meet
              exact ⟨rfl, M8.out⟩
            · have e3 : (kd == 3) = false := by simpa using h3
              by_cases h4 : kd = 0
              · obtain rfl := HKEEP.out (.inr (.inr h4))
                subst h4
                clear h3 e3
                go_wp2_with (fail)
                refine (CSB.out _ (Later.refl _)).mono ?_
                rintro e w8 ⟨rfl, hl⟩
                rw [HSELF.out]
                have M8 := hide hl
                obtain ⟨r9, _, _, _⟩ := RBox.cells_ (Y8.out.below hl)
                rw [HER.out] at r9
                clear hl r0
                go_wp2_with (fail)
                go_meet
                exact ⟨rfl, M8.out⟩
              · have e4 : (kd == 0) = false := by simpa using h4
                clear h3 h4
                go_wp2_with (fail)
                go_meet
                exact ⟨rfl, Later.refl _⟩
          · have e0 : (er != 0) = true := by simpa using h0
            obtain rfl := HKEEP.out (.inl h0)
            have HE2 := hide (HERR.out h0)
            clear h0 c0
            go_wp2_with (fail)
            refine (CSB.out _ (Later.refl _)).mono ?_
            rintro e w8 ⟨rfl, hl⟩
            rw [HSELF.out]
            have M8 := hide hl
            have Y9 := hide (Y8.out.below hl)
            obtain ⟨r9, _, _, _⟩ := RBox.cells_ Y9.out
            rw [show rr.err = er from by rw [HE2.out]; rfl] at r9
            clear hl r0
            go_wp2_with (first | (refine wpList_val rfl (by rfl) (exec_load_rep _ (by rfl) (by rfl) Y9.out) ?_) | (refine wpList_val rfl (by rfl) (exec_neq_rep rr (errR er) _ _ _ (by rfl) (by rfl) (by rfl)) ?_; rw [show (!decide (rr = errR er)) = false from by rw [← HE2.out]; simp]))
            go_meet
            exact ⟨rfl, M8.out⟩
        case rest =>
          obtain ⟨rfl, hwc⟩ := hcut
          have M9 : Hid (Later w7 wc) := hwc.out
          clear hwc
          have Y9 := hide (Y8.out.below M9.out)
          have X9 := hide (X8.out.below M9.out)
          go_upto_region 13 with (fail)
          go_cut [100] (fun s100 wx => s100 = .bool false ∧ Hid (Later w7 wx))
          case first =>
            obtain ⟨r0, _, _, _⟩ := RBox.cells_ Y9.out
            have c0 := (X9.out.at_).1
            obtain ⟨er, her⟩ : ∃ er, rr.err = er := ⟨_, rfl⟩
            obtain ⟨kd, hkd⟩ : ∃ kd, x.kind = kd := ⟨_, rfl⟩
            rw [her] at r0 HCH
            rw [hkd] at c0 HCH
            clear her hkd HERR HKEEP
            by_cases h0 : er = 0
            · subst h0
              by_cases hk : kd = 1 ∨ kd = 4 ∨ kd = 5
              · have HF := hide (HCH.out rfl hk)
                rcases hk with rfl | rfl | rfl
                all_goals
                  go_wp2_with (fail)
                  refine (CSB.out _ M9.out).mono ?_
                  rintro e w8 ⟨rfl, hl⟩
                  rw [HF.out]
                  have M8 : Hid (Later w7 w8) := Later.trans (show Later w7 wc from M9.out) hl
                  clear hl
                  go_wp2_with (fail)
                  go_meet
                  exact ⟨rfl, M8.out⟩
              · have e1 : (kd == 1) = false := by simp; omega
                have e4 : (kd == 4) = false := by simp; omega
                have e5 : (kd == 5) = false := by simp; omega
                clear hk
                go_wp2_with (fail)
                go_meet
                exact ⟨rfl, M9.out⟩
            · have e0 : (er == 0) = false := by simpa using h0
              clear h0 c0
              go_wp2_with (fail)
              go_meet
              exact ⟨rfl, M9.out⟩
          case rest =>
            obtain ⟨rfl, hwc⟩ := hcut
            have M10 : Hid (Later w7 wc) := hwc.out
            clear hwc
            have Y10 := hide (Y8.out.below M10.out)
            have X10 := hide (X8.out.below M10.out)
            have HB10 := hide (HB8.out.later M10.out)
            have HC10 := hide (HC8.out.later M10.out)
            have HDY : Hid (d ≠ g2 ∧ d ≠ b2) := ⟨HDG.out.2.2.1, HDG.out.2.2.2⟩
            have LWX : Hid (Turned (fun i => i = g ∨ i = b) wr wc) := by
              have a1 : Turned (fun i => i = g ∨ i = b) wr u2 := Turned.of_below LW2.out _
              have a2 := a1.trans T6.out
              have a3 : Later w6 wc := Later.trans (show Later w6 w7 from L67.out) M10.out
              exact a2.trans (Turned.of_below a3 _)
            have HLR := hide HB.out.lt
            have LWCT : Hid (Turned (fun i => i = g ∨ i = b) w wc) := (Turned.of_below LR.out _).trans LWX.out
            have HSX : Hid (∃ FF : Nat → Prop, StepsAt FF wc xs x.steps) := by
              have a1 := StepsAt.kept HSW.out (LWCT.out.kept (fun i hi e => by have c1 := HGB.out; rcases e with e | e <;> omega))
              exact ⟨_, a1⟩
            obtain ⟨FF, hSX⟩ := HSX.out
            have HSX2 := hide hSX
            have CA2 := hide (apply_any (w := wc.drew) (o := x) (A := yA) (n := x.steps.length) (c := yc) (HC10.out.later (Later.drew _)) (by omega) (by have b3 : t.last ≤ (q : Int) ∧ t.L.length ≤ q := HT.out; omega) (by have h9 := StepsAt.kept HSX2.out (Kept.drew _ _); rw [HYS.out] at h9; exact h9) HXW.out (by have b4 : t.last ≤ (q : Int) ∧ t.L.length ≤ q := HT.out; omega) (fun i hi => by
              have a1 := HB10.out.lt
              have a2 := HC10.out.lt
              have a3 : wc.heap.size ≤ i := hi
              exact ⟨by omega, by omega, by omega, by omega⟩))
            rw [← HYS.out, HRR.out, HT6.out] at CA2
            have HS6 := hide (sameT_refl HB10.out.ok)
            clear hSX
            go_wp2_with (fail)
            refine wp_region_R (R := Turned (fun i => i = g2 ∨ i = b2)) (by kernel_rfl) ?_
            refine wpAnyR_take (pre_turned (fun i => i = g2 ∨ i = b2)) (i := 0) (d := some 101) (v := ?vaa0) rfl rfl (by kernel_rfl) (by kernel_rfl) (by kernel_rfl) (fun _ _ _ h => h) (by rfl) ?yaa0 ?_
            case yaa0 => (intro w' hw'; go_simp; try (with_reducible rfl))
            simp only [Act.put]; try simp only [List.setIfInBounds_toArray]; try simp only [List.set_cons_zero, List.set_cons_succ]
            refine wpAnyR_take (pre_turned (fun i => i = g2 ∨ i = b2)) (i := 1) (d := some 102) (v := .agg (x.cells xs).toArray) rfl rfl (by kernel_rfl) (by kernel_rfl) (by kernel_rfl) (fun _ _ _ h => h) (by rfl) ?yaa1 ?_
            case yaa1 => (intro w' hw'; have hwt : Turned (fun i => i = g2 ∨ i = b2) wc.drew w' := hw'; exact exec_load_op _ (by rfl) (by rfl) ((X10.out.below (Later.drew _)).turned hwt (fun e => e.elim HDY.out.1 HDY.out.2)))
            simp only [Act.put]; try simp only [List.setIfInBounds_toArray]; try simp only [List.set_cons_zero, List.set_cons_succ]
            refine wpAnyR_take (pre_turned (fun i => i = g2 ∨ i = b2)) (i := 3) (d := some 104) (v := rr.val) rfl rfl (by kernel_rfl) (by kernel_rfl) (by kernel_rfl) (fun _ _ _ h => h) (by rfl) ?yaa3 ?_
            case yaa3 => (intro w' hw'; have hwt : Turned (fun i => i = g2 ∨ i = b2) wc.drew w' := hw'; exact exec_load_rep _ (by rfl) (by rfl) ((Y10.out.below (Later.drew _)).turned hwt (fun e => e.elim HYG.out.1 HYG.out.2)))
            simp only [Act.put]; try simp only [List.setIfInBounds_toArray]; try simp only [List.set_cons_zero, List.set_cons_succ]
            refine wpAnyR_only (i := 2) rfl (by kernel_rfl) (by rfl) fun K hK => ?_
            go_simp
            refine CA2.out.mono ?_
            rintro e v1 ⟨rfl, hb1, ht1⟩
            have HCV := hide hb1
            have TV1 := hide ht1
            have HBV : Hid (BookAt (fun i => i ≠ g ∧ i ≠ b ∧ i ≠ g2 ∧ i ≠ b2) v1 g b (k + 1) (N : Int) t6) := (HB10.out.later (Later.drew _)).turned ht1 (fun e => e.elim (fun h => HAP2.out.1 h.symm) (fun h => HAP2.out.2.2.1 h.symm)) (fun e => e.elim (fun h => HAP2.out.2.1 h.symm) (fun h => HAP2.out.2.2.2 h.symm)) (fun i hi e => e.elim hi.2.2.1 hi.2.2.2)
            refine hK.out _ _ ht1 ?_
            clear hb1 ht1 CA2
            clear hK K
            try (simp only [Act.put]; try simp only [List.setIfInBounds_toArray]; try simp only [List.set_cons_zero, List.set_cons_succ])
            refine wpAnyR_take (pre_turned (fun i => i = g2 ∨ i = b2)) (i := 4) (d := some 105) (v := .bool false) rfl rfl (by kernel_rfl) (by kernel_rfl) (by kernel_rfl) (fun _ _ _ h => h) (by rfl) ?yaa4 ?_
            case yaa4 => (intro w' hw'; exact (exec_neq_rep rr rr _ _ _ (by rfl) (by rfl) (by rfl)).trans (by rw [show (!decide (rr = rr)) = false from by simp]))
            simp only [Act.put]; try simp only [List.setIfInBounds_toArray]; try simp only [List.set_cons_zero, List.set_cons_succ]
            refine wpAnyR_take (pre_turned (fun i => i = g2 ∨ i = b2)) (i := 5) (d := some 106) (v := ?vaa5) rfl rfl (by kernel_rfl) (by kernel_rfl) (by kernel_rfl) (fun _ _ _ h => h) (by rfl) ?yaa5 ?_
            case yaa5 => (intro w' hw'; go_simp; try (with_reducible rfl))
            simp only [Act.put]; try simp only [List.setIfInBounds_toArray]; try simp only [List.set_cons_zero, List.set_cons_succ]
            refine wpAnyR_take (pre_turned (fun i => i = g2 ∨ i = b2)) (i := 6) (d := some 107) (v := ?vaa6) rfl rfl (by kernel_rfl) (by kernel_rfl) (by kernel_rfl) (fun _ _ _ h => h) (by rfl) ?yaa6 ?_
            case yaa6 => (intro w' hw'; go_simp; try (with_reducible rfl))
            simp only [Act.put]; try simp only [List.setIfInBounds_toArray]; try simp only [List.set_cons_zero, List.set_cons_succ]
            refine wpAnyR_take (pre_turned (fun i => i = g2 ∨ i = b2)) (i := 7) (d := some 108) (v := ?vaa7) rfl rfl (by kernel_rfl) (by kernel_rfl) (by kernel_rfl) (fun _ _ _ h => h) (by rfl) ?yaa7 ?_
            case yaa7 => (intro w' hw'; go_simp; try (with_reducible rfl))
            simp only [Act.put]; try simp only [List.setIfInBounds_toArray]; try simp only [List.set_cons_zero, List.set_cons_succ]
            refine wpAnyR_only (i := 8) rfl (by kernel_rfl) (by rfl) fun K hK => ?_
            go_simp
            refine (same_book HBV.out HCV.out).mono ?_
            rintro e v2 ⟨rfl, hl2⟩
            rw [HS6.out]
            have HBF := hide (HBV.out.later hl2)
            have TFF : Hid (Turned (fun i => i = g ∨ i = b) w3 v2) := by
              have a1 : Turned (fun i => i = g ∨ i = b) w3 wc := TR.out.trans LWX.out
              have a2 : Turned (fun i => i = g ∨ i = b) wr wc.drew := LWX.out.trans (Turned.of_below (Later.drew _) _)
              have a3 : Turned (fun i => i = g ∨ i = b) wr v1 := a2.onto TV1.out (fun i hi => .inr (by have c1 := HN2.out; have c2 := Below.size L4w.out; rcases hi with hi | hi <;> omega))
              have a4 : Turned (fun i => i = g ∨ i = b) wr v2 := a3.trans (Turned.of_below hl2 _)
              exact TR.out.trans a4
            refine hK.out _ _ (Turned.of_below hl2 _) ?_
            clear hl2
            clear hK K
            try (simp only [Act.put]; try simp only [List.setIfInBounds_toArray]; try simp only [List.set_cons_zero, List.set_cons_succ])
            refine wpAnyR_take (pre_turned (fun i => i = g2 ∨ i = b2)) (i := 9) (d := some 110) (v := ?vaa9) rfl rfl (by kernel_rfl) (by kernel_rfl) (by kernel_rfl) (fun _ _ _ h => h) (by rfl) ?yaa9 ?_
            case yaa9 => (intro w' hw'; go_simp; try (with_reducible rfl))
            simp only [Act.put]; try simp only [List.setIfInBounds_toArray]; try simp only [List.set_cons_zero, List.set_cons_succ]
            refine wpAnyR_take (pre_turned (fun i => i = g2 ∨ i = b2)) (i := 10) (d := some 111) (v := ?vaa10) rfl rfl (by kernel_rfl) (by kernel_rfl) (by kernel_rfl) (fun _ _ _ h => h) (by rfl) ?yaa10 ?_
            case yaa10 => (intro w' hw'; go_simp; try (with_reducible rfl))
            simp only [Act.put]; try simp only [List.setIfInBounds_toArray]; try simp only [List.set_cons_zero, List.set_cons_succ]
            refine wpAnyR_done (by kernel_rfl) ?_ _
            go_wp2
            go_roundw
            case rel => exact ⟨q + 1, k + 1, t6, by omega, by go_num, by omega, (by
              have g1 := apply_grow (N : Int) t x
              rw [HT6.out] at g1
              have g3 : t.last ≤ (q : Int) ∧ t.L.length ≤ q := HT.out
              exact ⟨by omega, by omega⟩), (HBF.out.mono (G := fun i => i ≠ g ∧ i ≠ b) (fun i _ hf => ⟨hf.1, hf.2.1⟩) (fun e => e.1 rfl) (fun e => e.2 rfl)), TFF.out⟩
            case measure => simp [Go.RowKit.intOf]; omega
      · obtain rfl : q = n := by omega
        go_wp2_with (fail)
        refine (lives_any (w := wr)).mono ?_
        rintro e w9 ⟨rfl, hl⟩
        have La : Later w wr := LR.out
        have L9 : Hid (Later w w9) := Later.trans La hl
        clear hl La
        go_wp2
        go_ret
        exact ⟨rfl, L9.out⟩
end
end Go.Proofs.YtpicnoinnngpeaaGreat
/- From what a row says of a saga that came in to what the walks are told of it. -/
namespace Go.Proofs.YtpicnoinnngpeaaGreat
open Go.RowKit
section
variable {H : Type} {enc : TypeId × Value → H} {W : World}
set_option maxRecDepth 100000
theorem open_hits {n : Nat} {c0 c1 c2 c3 c4 c5 c6 c7 : Value} {x : DataW H × List MemPlace} (h : Rdg enc W n 34 [c0, c1, c2, c3, c4, c5, c6, c7] x) : ∃ y : Hits, [c0, c1, c2, c3, c4, c5, c6, c7] = y.cells := by
  obtain ⟨xs, m, _, _, _, hxs, hf⟩ := DataW.trod_array Tryz.underlying34 h
  have he : Tryz.prog.cellsOf 4 = 1 := by kernel_rfl
  have el : ∀ (i : Nat) (c : Value), i < 8 → ([c0, c1, c2, c3, c4, c5, c6, c7].drop i).take 1 = [c] → ∃ b : Bool, c = .bool b := fun i c hi hc => by
    have h1 := hf i hi
    rw [he, Nat.mul_one, hc, List.getElem?_eq_getElem (by omega)] at h1
    exact open_bool1 Tryz.underlying4 h1
  obtain ⟨b0, rfl⟩ := el 0 c0 (by decide) rfl
  obtain ⟨b1, rfl⟩ := el 1 c1 (by decide) rfl
  obtain ⟨b2, rfl⟩ := el 2 c2 (by decide) rfl
  obtain ⟨b3, rfl⟩ := el 3 c3 (by decide) rfl
  obtain ⟨b4, rfl⟩ := el 4 c4 (by decide) rfl
  obtain ⟨b5, rfl⟩ := el 5 c5 (by decide) rfl
  obtain ⟨b6, rfl⟩ := el 6 c6 (by decide) rfl
  obtain ⟨b7, rfl⟩ := el 7 c7 (by decide) rfl
  exact ⟨⟨b0, b1, b2, b3, b4, b5, b6, b7⟩, rfl⟩
/-- What a saga that came in holds. -/
def SagaIn (W : World) (s : SagaD) (l : List StepD) : Prop := StepsAt (· < W.heap.size) W s.v l ∧ (∀ a ∈ l, a.wf) ∧ I64 s.step
theorem open_saga {n : Nat} {cs : List Value} {x : DataW H × List MemPlace} (h : Rdg enc W n 36 cs x) (hs : Sm 36 x.1) : ∃ (s : SagaD) (l : List StepD), cs = s.cells ∧ SagaIn W s l := by
  obtain ⟨m, hl, hf⟩ := open_fields Tryz.underlying36 h hs
  have hl : cs.length = 13 := hl
  match cs, hl with
  | [c0, c1, c2, c3, c4, c5, c6, c7, c8, c9, c10, c11, c12], _ =>
    obtain ⟨y0, g0, s0⟩ := hf 0 _ rfl
    have g0 : Rdg enc W m 31 [c0, c1] y0 := (congrArg (fun q => DataW.trod enc Tryz.prog W 0 (fun _ => true) true m 31 q) (show ([c0, c1, c2, c3, c4, c5, c6, c7, c8, c9, c10, c11, c12].drop 0).take (Tryz.prog.cellsOf 31) = [c0, c1] from by rw [show Tryz.prog.cellsOf 31 = 2 from by kernel_rfl]; rfl)).symm.trans g0
    obtain ⟨y1, g1, s1⟩ := hf 1 _ rfl
    have g1 : Rdg enc W m 3 [c2] y1 := (congrArg (fun q => DataW.trod enc Tryz.prog W 0 (fun _ => true) true m 3 q) (show ([c0, c1, c2, c3, c4, c5, c6, c7, c8, c9, c10, c11, c12].drop 2).take (Tryz.prog.cellsOf 3) = [c2] from by rw [show Tryz.prog.cellsOf 3 = 1 from by kernel_rfl]; rfl)).symm.trans g1
    obtain ⟨y2, g2, s2⟩ := hf 2 _ rfl
    have g2 : Rdg enc W m 3 [c3] y2 := (congrArg (fun q => DataW.trod enc Tryz.prog W 0 (fun _ => true) true m 3 q) (show ([c0, c1, c2, c3, c4, c5, c6, c7, c8, c9, c10, c11, c12].drop 3).take (Tryz.prog.cellsOf 3) = [c3] from by rw [show Tryz.prog.cellsOf 3 = 1 from by kernel_rfl]; rfl)).symm.trans g2
    obtain ⟨y3, g3, s3⟩ := hf 3 _ rfl
    have g3 : Rdg enc W m 3 [c4] y3 := (congrArg (fun q => DataW.trod enc Tryz.prog W 0 (fun _ => true) true m 3 q) (show ([c0, c1, c2, c3, c4, c5, c6, c7, c8, c9, c10, c11, c12].drop 4).take (Tryz.prog.cellsOf 3) = [c4] from by rw [show Tryz.prog.cellsOf 3 = 1 from by kernel_rfl]; rfl)).symm.trans g3
    obtain ⟨y4, g4, s4⟩ := hf 4 _ rfl
    have g4 : Rdg enc W m 34 [c5, c6, c7, c8, c9, c10, c11, c12] y4 := (congrArg (fun q => DataW.trod enc Tryz.prog W 0 (fun _ => true) true m 34 q) (show ([c0, c1, c2, c3, c4, c5, c6, c7, c8, c9, c10, c11, c12].drop 5).take (Tryz.prog.cellsOf 34) = [c5, c6, c7, c8, c9, c10, c11, c12] from by rw [show Tryz.prog.cellsOf 34 = 8 from by kernel_rfl]; rfl)).symm.trans g4
    obtain ⟨nm, v, l, e0, _, h2, h3⟩ := open_def g0 s0
    obtain ⟨a1, e1, _⟩ := open_int1 Tryz.underlying3 g1
    obtain ⟨a2, e2, w2⟩ := open_int1 Tryz.underlying3 g2
    obtain ⟨a3, e3, _⟩ := open_int1 Tryz.underlying3 g3
    obtain ⟨y, e4⟩ := open_hits g4
    obtain ⟨A, c, rfl, _, _, _⟩ := FlatAt.shape h2
    subst e1 e2 e3
    simp only [List.cons.injEq, and_true] at e0
    obtain ⟨rfl, rfl⟩ := e0
    simp only [Hits.cells, List.cons.injEq, and_true] at e4
    obtain ⟨rfl, rfl, rfl, rfl, rfl, rfl, rfl, rfl⟩ := e4
    exact ⟨⟨nm, A, l.length, c, a1, a2, a3, y⟩, l, rfl, h2, h3, w2⟩
theorem arg_saga {cs : Array Value} {d : DataW H} {p : List MemPlace} (h : DataW.Trod enc Tryz.prog W 0 (fun _ => true) true 36 (.agg cs) d p) (hs : Sm 36 d) : ∃ (s : SagaD) (l : List StepD), cs = s.cells.toArray ∧ SagaIn W s l := by
  obtain ⟨fuel, hf⟩ := h
  obtain ⟨s, l, e, hi⟩ := open_saga (n := fuel) (x := (d, p)) hf hs
  refine ⟨s, l, ?_, hi⟩
  have e2 : cs.toList = s.cells := e
  rw [← e2]
end
end Go.Proofs.YtpicnoinnngpeaaGreat
/- From what a row says of operations, and of sagas to be set, that came in to what the walks are told of them. -/
namespace Go.Proofs.YtpicnoinnngpeaaGreat
open Go.ChangeShapes Go.WideShapes Go.ChangeAt Go.RowKit
instance : Inhabited (OpD × Value) := ⟨(OpD.zero, .slice none 0 0)⟩
section
variable {H : Type} {enc : TypeId × Value → H} {W : World}
set_option maxRecDepth 100000
theorem open_op {n : Nat} {cs : List Value} {x : DataW H × List MemPlace} (h : Rdg enc W n 33 cs x) (hs : Sm 33 x.1) :
    ∃ p : OpD × Value, cs = p.1.cells p.2 ∧ StepsAt (· < W.heap.size) W p.2 p.1.steps ∧ p.1.wf := by
  obtain ⟨m, hl, hf⟩ := open_fields Tryz.underlying33 h hs
  have hl : cs.length = 10 := hl
  match cs, hl with
  | [c0, c1, c2, c3, c4, c5, c6, c7, c8, c9], _ =>
    obtain ⟨y0, g0, s0⟩ := hf 0 _ rfl
    have g0 : Rdg enc W m 3 [c0] y0 := (congrArg (fun q => DataW.trod enc Tryz.prog W 0 (fun _ => true) true m 3 q) (show ([c0, c1, c2, c3, c4, c5, c6, c7, c8, c9].drop 0).take (Tryz.prog.cellsOf 3) = [c0] from by rw [show Tryz.prog.cellsOf 3 = 1 from by kernel_rfl]; rfl)).symm.trans g0
    obtain ⟨a0, e0, w0⟩ := open_int1 Tryz.underlying3 g0
    obtain ⟨y1, g1, s1⟩ := hf 1 _ rfl
    have g1 : Rdg enc W m 3 [c1] y1 := (congrArg (fun q => DataW.trod enc Tryz.prog W 0 (fun _ => true) true m 3 q) (show ([c0, c1, c2, c3, c4, c5, c6, c7, c8, c9].drop 1).take (Tryz.prog.cellsOf 3) = [c1] from by rw [show Tryz.prog.cellsOf 3 = 1 from by kernel_rfl]; rfl)).symm.trans g1
    obtain ⟨a1, e1, w1⟩ := open_int1 Tryz.underlying3 g1
    obtain ⟨y2, g2, s2⟩ := hf 2 _ rfl
    have g2 : Rdg enc W m 3 [c2] y2 := (congrArg (fun q => DataW.trod enc Tryz.prog W 0 (fun _ => true) true m 3 q) (show ([c0, c1, c2, c3, c4, c5, c6, c7, c8, c9].drop 2).take (Tryz.prog.cellsOf 3) = [c2] from by rw [show Tryz.prog.cellsOf 3 = 1 from by kernel_rfl]; rfl)).symm.trans g2
    obtain ⟨a2, e2, w2⟩ := open_int1 Tryz.underlying3 g2
    obtain ⟨y3, g3, s3⟩ := hf 3 _ rfl
    have g3 : Rdg enc W m 31 [c3, c4] y3 := (congrArg (fun q => DataW.trod enc Tryz.prog W 0 (fun _ => true) true m 31 q) (show ([c0, c1, c2, c3, c4, c5, c6, c7, c8, c9].drop 3).take (Tryz.prog.cellsOf 31) = [c3, c4] from by rw [show Tryz.prog.cellsOf 31 = 2 from by kernel_rfl]; rfl)).symm.trans g3
    obtain ⟨nm, v, l, f3, w3, st, wst⟩ := open_def g3 s3
    obtain ⟨y4, g4, s4⟩ := hf 4 _ rfl
    have g4 : Rdg enc W m 3 [c5] y4 := (congrArg (fun q => DataW.trod enc Tryz.prog W 0 (fun _ => true) true m 3 q) (show ([c0, c1, c2, c3, c4, c5, c6, c7, c8, c9].drop 5).take (Tryz.prog.cellsOf 3) = [c5] from by rw [show Tryz.prog.cellsOf 3 = 1 from by kernel_rfl]; rfl)).symm.trans g4
    obtain ⟨a4, e4, w4⟩ := open_int1 Tryz.underlying3 g4
    obtain ⟨y5, g5, s5⟩ := hf 5 _ rfl
    have g5 : Rdg enc W m 3 [c6] y5 := (congrArg (fun q => DataW.trod enc Tryz.prog W 0 (fun _ => true) true m 3 q) (show ([c0, c1, c2, c3, c4, c5, c6, c7, c8, c9].drop 6).take (Tryz.prog.cellsOf 3) = [c6] from by rw [show Tryz.prog.cellsOf 3 = 1 from by kernel_rfl]; rfl)).symm.trans g5
    obtain ⟨a5, e5, w5⟩ := open_int1 Tryz.underlying3 g5
    obtain ⟨y6, g6, s6⟩ := hf 6 _ rfl
    have g6 : Rdg enc W m 3 [c7] y6 := (congrArg (fun q => DataW.trod enc Tryz.prog W 0 (fun _ => true) true m 3 q) (show ([c0, c1, c2, c3, c4, c5, c6, c7, c8, c9].drop 7).take (Tryz.prog.cellsOf 3) = [c7] from by rw [show Tryz.prog.cellsOf 3 = 1 from by kernel_rfl]; rfl)).symm.trans g6
    obtain ⟨a6, e6, w6⟩ := open_int1 Tryz.underlying3 g6
    obtain ⟨y7, g7, s7⟩ := hf 7 _ rfl
    have g7 : Rdg enc W m 4 [c8] y7 := (congrArg (fun q => DataW.trod enc Tryz.prog W 0 (fun _ => true) true m 4 q) (show ([c0, c1, c2, c3, c4, c5, c6, c7, c8, c9].drop 8).take (Tryz.prog.cellsOf 4) = [c8] from by rw [show Tryz.prog.cellsOf 4 = 1 from by kernel_rfl]; rfl)).symm.trans g7
    obtain ⟨a7, e7⟩ := open_bool1 Tryz.underlying4 g7
    obtain ⟨y8, g8, s8⟩ := hf 8 _ rfl
    have g8 : Rdg enc W m 4 [c9] y8 := (congrArg (fun q => DataW.trod enc Tryz.prog W 0 (fun _ => true) true m 4 q) (show ([c0, c1, c2, c3, c4, c5, c6, c7, c8, c9].drop 9).take (Tryz.prog.cellsOf 4) = [c9] from by rw [show Tryz.prog.cellsOf 4 = 1 from by kernel_rfl]; rfl)).symm.trans g8
    obtain ⟨a8, e8⟩ := open_bool1 Tryz.underlying4 g8
    subst e0 e1 e2 e4 e5 e6 e7 e8
    simp only [List.cons.injEq, and_true] at f3
    obtain ⟨rfl, rfl⟩ := f3
    exact ⟨(⟨a0, a1, a2, nm, l, a4, a5, a6, a7, a8⟩, _), rfl, st, w0, w1, w2, w3, wst, w4, w5, w6⟩

theorem open_ops {n : Nat} {v : Value} {x : DataW H × List MemPlace} (h : Rdg enc W n 22 [v] x) (hs : Sm 22 x.1) : ∃ l, OpsAt (· < W.heap.size) W v l ∧ ∀ o ∈ l, o.wf := by
  obtain ⟨ys, h1, h2⟩ := open_elems (fun p : OpD × Value => p.1.cells p.2) (fun p => StepsAt (· < W.heap.size) W p.2 p.1.steps ∧ p.1.wf) 10 (by decide) (fun p => p.1.len p.2) Tryz.underlying22 (by kernel_rfl) (fun n cs x h hs => open_op h hs) (fun y hy => y.1.one (FlatAt.oneCell hy.1)) h hs
  refine ⟨ys.map (·.1), ⟨ys, rfl, h1, fun p hp => (h2 p hp).1⟩, fun o ho => ?_⟩
  obtain ⟨p, hp, rfl⟩ := List.mem_map.1 ho
  exact (h2 p hp).2
theorem arg_ops {A : Option Addr} {len cap : Nat} {d : DataW H} {p : List MemPlace} (h : DataW.Trod enc Tryz.prog W 0 (fun _ => true) true 22 (.slice A len cap) d p) (hs : Sm 22 d) : ∃ l : List OpD, OpsAt (· < W.heap.size) W (.slice A len cap) l ∧ ∀ o ∈ l, o.wf := by
  obtain ⟨fuel, hf⟩ := h
  exact open_ops (n := fuel) (x := (d, p)) hf hs
/-- What an operation that came in holds. -/
def OpIn (W : World) (o : OpD) (s : Value) : Prop := StepsAt (· < W.heap.size) W s o.steps ∧ o.wf
theorem arg_op {cs : Array Value} {d : DataW H} {p : List MemPlace} (h : DataW.Trod enc Tryz.prog W 0 (fun _ => true) true 33 (.agg cs) d p) (hs : Sm 33 d) : ∃ (x : OpD) (s : Value), cs = (x.cells s).toArray ∧ OpIn W x s := by
  obtain ⟨fuel, hf⟩ := h
  obtain ⟨q, e, hl, wf⟩ := open_op (n := fuel) (x := (d, p)) hf hs
  refine ⟨q.1, q.2, ?_, hl, wf⟩
  have e2 : cs.toList = q.1.cells q.2 := e
  rw [← e2]
end
end Go.Proofs.YtpicnoinnngpeaaGreat
/- BookKeeps, as the claim asks it. -/
namespace Go.Proofs.YtpicnoinnngpeaaGreat
open Go.RowKit
theorem law_keepsW (m : Nat) (v : Value) (l : List OpD) (w : World) (hm : m < 18446744073709551616) (h1 : OpsAt (· < w.heap.size) w v l) (hw : ∀ x ∈ l, x.wf) :
    Calls Tryz.prog 5 #[.int .u64 (m : Int), v] w fun e w' => e = .returned (.bool true) ∧ Later w w' := law_keeps (m : Int) (by omega) (by omega) h1 hw
end Go.Proofs.YtpicnoinnngpeaaGreat
namespace Go.Proofs.YtpicnoinnngpeaaGreat
open Go.ChangeShapes Go.WideShapes Go.ChangeAt Go.RowKit

theorem bookKeeps_lawKnobs : ownKnob Tryz.prog.godebug = none := by kernel_rfl
theorem bookKeeps_allLaid : laidOutB Tryz.prog = true := by kernel_rfl

set_option maxRecDepth 100000 in
set_option maxHeartbeats 1000000 in
theorem bookKeeps_lifted (os : Os) (started : os.Started) (H : Type) (enc : TypeId × Value → H) :
    ReturnsInHanded {} Tryz.checked os 5 .any (Rows.bookKeepsSpec.pre6 enc Tryz.prog Tryz.f5 Rows.bookKeepsRow.domain false) (Rows.bookKeepsSpec.post enc Tryz.prog Tryz.f5 false true false false) := by
  refine returnsInHanded_of_change_sized (C := Tryz.checked) bookKeeps_lawKnobs started (by kernel_rfl) Tryz.func5
    (ChangeSpec.witness6 (enc := enc) (C := Tryz.checked) false ⟨#[], #[.int .u64 0, .slice none 0 0], []⟩ 8 (by kernel_rfl) (by kernel_rfl) (by kernel_rfl) (by kernel_rfl)) ?_
  intro W base args ds gs before hval0 hW hcnd hsz _
  have hval : ∀ (j : Nat) t v, Tryz.f5.params[j]? = some t → args[j]? = some v → Value.okWide Tryz.prog W .any base t v := hval0
  have hW' := hW
  obtain ⟨p, q, hA0, hV, rfl, _, _⟩ := hW
  have hA : DataW.TrodAll enc Tryz.prog W 0 (fun _ => true) true Tryz.f5.params.toList args.toList ds p := hA0
  rw [Tryz.params5] at hA hval
  obtain ⟨v0, vs0, d0, ds0, p0, q0, hargs, rfl, rfl, h0, r0⟩ := trodAll_cons hA
  obtain ⟨v1, vs1, d1, ds1, p1, q1, rfl, rfl, rfl, h1, r1⟩ := trodAll_cons r0
  obtain ⟨rfl, rfl, rfl⟩ := trodAll_nil r1
  obtain rfl : args = #[v0, v1] := by cases args; simp_all
  obtain ⟨rfl, rfl⟩ := trodVars_none hV
  have k0 := h0
  obtain ⟨a0, rfl, rfl, rfl, w0⟩ := open_int Tryz.underlying60 (hval 0 60 v0 rfl rfl) h0
  have b0 := bounds_u64 w0
  obtain ⟨V0, rfl⟩ := Int.eq_ofNat_of_zero_le b0.1
  have k1 := h1
  have lt1 : ∀ x ∈ p1, x.block < W.heap.size := by obtain ⟨m, hm⟩ := k1; exact DataW.trod_lt m _ _ _ hm
  have s1 : Sm 22 d1 := sm_of hsz (j := 1) rfl rfl
  obtain ⟨A1, len1, cap1, rfl⟩ := okWide_slice Tryz.underlying22 (hval 1 22 v1 rfl rfl)
  obtain ⟨l1, hl1, wf1⟩ := arg_ops h1 s1
  clear hA0 hval0
  refine (law_keepsW V0 (.slice A1 len1 cap1) l1 W (by omega) hl1 wf1).mono fun e W' ⟨he, bel⟩ => ?_
  subst he
  exact ⟨_, rfl, _, _, _, [], _, [], hW', trodAll_mk1 (shut_bool Tryz.underlying4 _), (trodAll_cons_mk (shut_int Tryz.underlying60 w0) (trodAll_cons_mk (Below.trod bookKeeps_allLaid (by kernel_rfl) (of_decide_eq_true (by kernel_rfl)) k1 bel lt1) trodAll_mk0)), rfl, bel.frame _, fun h => by cases h⟩

theorem bookKeeps_over : Rows.bookKeepsRow.holds Tryz.pinned (OpenSpec.ofChange Rows.bookKeepsSpec) :=
  OpenClaim.holds_of_wide 5 Tryz.f5 rfl rfl rfl rfl rfl rfl rfl ⟨rfl, rfl, rfl, rfl, rfl⟩ rfl rfl rfl rfl rfl (by kernel_rfl) Tryz.func5 (by kernel_rfl)
    (of_decide_eq_true (by kernel_rfl)) (by unfold Func.isWrapper; first | (rw [if_pos (by decide +kernel)]; kernel_rfl) | (rw [if_neg (by decide +kernel)]; exact ⟨rfl, rfl⟩))
    (fun os started H enc _ => bookKeeps_lifted os started H enc)

theorem bookKeeps_holds : Rows.BookKeepsSaid := bookKeeps_over
#print axioms bookKeeps_holds
end Go.Proofs.YtpicnoinnngpeaaGreat
