/- Texts merged: NAcks, NProp, NFollow, NPrep, NLed, NListen, MergeM, Merge, NLearn, NHear, ReachM, ShelfD, SortD, Reach, NAck. -/
import Derived.Test.YtaiegmhlgjogmaaGreatAlM1
import Derived.Test.YtaiegmhlgjogmaaGreatAlM2
import Derived.Test.YtaiegmhlgjogmaaGreatAlM3
import Derived.Test.YtaiegmhlgjogmaaGreatAlM4
import Derived.Test.YtaiegmhlgjogmaaGreatNoM5
import Derived.Maps.RangeWalk
import Derived.Lib.MinMax
import Derived.Shelf.SlSortCmp.NoneTotal
import Derived.Shelf.SlicesG.Cmp
import Derived.Ground.SlsfProg
import Derived.Ground.SlgcProg
import Derived.Test.YtaiegmhlgjogmaaGreatProg
import Derived.Lib.RowBridge
import Derived.Lib.SortBridge
import Derived.WalkKit
/- How many operations each node is known to have. -/
namespace Go.Proofs.YtaiegmhlgjogmaaGreat
open Go.RowKit Go.Maps

/-- Of the node at that place: what it told, or what this node has. -/
def ackOf (L : List (Int × HeardD)) (i : Nat) : Int := (foundH L ((i : Int) + 1)).ack
def acksU (x : RepD) : List Int := (List.range x.n.toNat).map (ackOf x.kept)
def acksL (x : RepD) : List Int := (acksU x).set (x.id.toNat - 1) (x.log.length : Int)
theorem acksU_len (x : RepD) : (acksU x).length = x.n.toNat := by simp [acksU]
theorem acksU_of {x : RepD} {l : List Int} (hl : l.length = x.n.toNat) (h : ∀ i, i < x.n.toNat → l.getD i 0 = ackOf x.kept i) : l = acksU x := by
  apply List.ext_getElem (by rw [hl, acksU_len])
  intro i h1 h2
  have := h i (by rw [hl] at h1; exact h1)
  simp [List.getD, h1] at this
  rw [this]
  simp [acksU]
theorem newInts_of {w w' : World} {n : Nat} {v : Value} {l : List Int} (ho : w'.ownsRow w.heap.size 3 1 v n (ivs l)) (hs : Fit l) (hb : Below w.heap.size w w') : NewInts w l (.returned v) w' := by
  have hsl := SlI.of_own ho hs
  obtain ⟨A, c, e, h1, _⟩ := hsl.shape
  have hn : l.length = n := by have := ho.1; rw [ivs_len] at this; omega
  subst e
  rw [hn] at ho hsl h1 ⊢
  exact ⟨A, n, c, rfl, ho, hsl.holds, h1, hb⟩
theorem own_but {w w' : World} {base e size n : Nat} {v : Value} {xs : List Value} {b : Nat} (ho : w.ownsRow base e size v n xs) (hg : w.grownBy w' (some b)) (hb : v.ownBlock ≠ some b) : w'.ownsRow base e size v n xs := by
  refine ⟨ho.1, ?_⟩
  rcases ho.2 with h0 | ⟨gb, cap, cur, hv, a1, a2, a3⟩
  · exact .inl h0
  · refine .inr ⟨gb, cap, cur, hv, a1, (hg.block gb (lt_of_block a2) ?_).trans a2, a3⟩
    intro e
    exact hb (by rw [hv]; exact e)
/-- So far: those that are still to come have none. -/
def AckTo (L : List (Int × HeardD)) (left : Lit → Bool) (n : Nat) (l : List Int) : Prop := ∀ i, i < n → l.getD i 0 = if left (.int .i64 ((i : Int) + 1)) then 0 else ackOf L i
theorem AckTo.next {L : List (Int × HeardD)} {left : Lit → Bool} {n : Nat} {l : List Int} (h : AckTo L left n l) {k : Nat} (hl : l.length = n) (hk : k < n) : AckTo L (fun z => left z && !z.sameKey (.int .i64 ((k : Int) + 1))) n (l.set k (ackOf L k)) := by
  intro i hi
  by_cases e : i = k
  · subst e
    have h1 : (l.set i (ackOf L i)).getD i 0 = ackOf L i := by simp [List.getD, hl, hi]
    rw [h1]
    simp [Lit.sameKey]
  · have h1 : (l.set k (ackOf L k)).getD i 0 = l.getD i 0 := by simp [List.getD, Ne.symm e]
    rw [h1, h i hi]
    have h2 : (Lit.int .i64 ((i : Int) + 1)).sameKey (.int .i64 ((k : Int) + 1)) = false := by
      simp [Lit.sameKey]
      omega
    simp only [h2]
    simp
theorem AckTo.start {L : List (Int × HeardD)} {n : Nat} : AckTo L (Maps.has (mapD (L.map hpair))) n (zeroI n) := by
  intro i hi
  have h1 : (zeroI n).getD i 0 = 0 := by simp [zeroI, List.getD, hi]
  rw [h1]
  split
  · rfl
  · rename_i hh
    rw [has_mapD, List.any_map] at hh
    unfold ackOf foundH
    have : L.find? (fun (p : Int × HeardD) => p.1 == (i : Int) + 1) = none := by
      rw [List.find?_eq_none]
      intro p hp e
      exact hh (List.any_eq_true.2 ⟨p, hp, e⟩)
    rw [this]
    rfl
theorem AckTo.ended {L : List (Int × HeardD)} {left : Lit → Bool} {n : Nat} {l : List Int} (h : AckTo L left n l) (h0 : ∀ kl, left kl = false) : ∀ i, i < n → l.getD i 0 = ackOf L i := by
  intro i hi
  rw [h i hi, if_neg (by rw [h0]; simp)]
theorem found_at {L : List (Int × HeardD)} {x : Int} {c : Value} (h : ∀ zd, (mapD (L.map hpair)).atKey (.int .i64 x) zd = .held c) : ∃ y ∈ L, y.1 = x ∧ c = y.2.val ∧ foundH L x = y.2 := by
  have h1 := h (.lit (.bool true))
  rw [at_mapD, List.find?_map] at h1
  have e : ((fun (p : Int × Value) => p.1 == x) ∘ hpair) = fun (p : Int × HeardD) => p.1 == x := rfl
  rw [e] at h1
  cases hf : L.find? (fun (p : Int × HeardD) => p.1 == x) with
  | none => rw [hf] at h1; cases h1
  | some y =>
    rw [hf] at h1
    simp only [Option.map_some] at h1
    injection h1 with h1
    refine ⟨y, List.mem_of_find?_eq_some hf, by simpa using List.find?_some hf, h1.symm, ?_⟩
    unfold foundH
    rw [hf]

section
variable {col : Nat → Nat} {q B r g : Nat} {w : World} {p : RepP} {x : RepD}
set_option maxHeartbeats 8000000 in
set_option maxRecDepth 100000 in
theorem acks_any (h : RepAt col q B w r p x g) :
    Calls Tryz.prog 147 #[.pointer (some ⟨p.s, 0, none⟩)] w (NewInts w (acksL x)) := by
  obtain ⟨i0, hi, hz0, hz1, hz2⟩ := info_parts Tryz.infoI64
  obtain ⟨n, hn⟩ : ∃ n : Nat, x.n = (n : Int) := ⟨x.n.toNat, by have := h.ok.n; omega⟩
  have hn5 : n ≤ 5 := by have := h.ok.n; omega
  have hid := h.ok.id
  have c1 : w.cell? ⟨p.s, 1, none⟩ = some (.int .i64 (n : Int)) := by rw [← hn]; exact h.cell (k := 1) rfl
  have H := hide h
  have HN := hide hn
  have hzh : ∀ u : World, (zeroValue 177).run Tryz.prog u = .ok HeardD.nil.val u := fun u => by kernel_rfl
  have HID := hide hid
  clear h hn hid
  go_enter Tryz.func147, Tryz.ntmps147
  go_wp2_with (first
    | (at_make; refine wpList_make_full _ rfl _ _ 40 rfl w.heap.size 3 i0 (.int .i64 0) 1 Tryz.underlying40 hi hz0 hz1 _ _ _ _ n rfl rfl rfl rfl (by rw [hz2]; omega) (by simp only [maxLen]; omega) (Nat.le_refl _) ?_; intro w1 o1 g1; rw [zeroI_made] at o1; have O1 := hide o1; have L1 : Hid (Later w w1) := (Below.refl _ _).grown g1 (Nat.le_refl _) (by simp); have HR1 := hide (H.out.later L1.out); have c10 : w1.cell? ⟨p.s, 10, none⟩ = some (.map (some p.b)) := HR1.out.cell (k := 10) rfl; clear o1 g1)
    | (at_range; refine wpList_range_own _ rfl _ 104 rfl 3 177 Ck.Tryz.int_law Tryz.underlying104 heldR p.b g _ rfl HR1.out.map ?_; intro w2 hrg2 hg2 hs2))
  have L2 : Hid (Later w w2) := Below.grown L1.out hg2 (Below.size L1.out) (fun k hk => by cases hk)
  have O2 : Hid (w2.ownsRow w.heap.size 3 1 (.slice (some ⟨w.heap.size, 0, none⟩) n n) n (ivs (zeroI n))) := own_on O1.out ((Below.refl _ _).grown hg2 (Nat.le_refl _) (fun k hk => by cases hk))
  have HRG0 := hide hrg2
  have hR : w.heap.size < w1.heap.size := (O1.out.lt w.heap.size rfl).2
  obtain ⟨R, hRR⟩ : ∃ R, w1.heap.size = R := ⟨_, rfl⟩
  rw [hRR] at HRG0 hR
  simp only [hRR]
  clear hrg2 hg2 hs2 O1 L1 HR1 c10 c1 hRR
  go_wp2
  go_frame
  go_loopw [] (fun wr => ∃ (l : List Int) (left : Lit → Bool) (cnt : Nat), l.length = n ∧ Fit l ∧ wr.ownsRow w.heap.size 3 1 (.slice (some ⟨w.heap.size, 0, none⟩) n n) n (ivs l) ∧ wr.ranges Tryz.prog 3 heldR p.b R g (mapD (x.kept.map hpair)) left cnt ∧ AckTo x.kept left n l ∧ Later w wr) (fun wr => wr.rangeLeft p.b R)
  case atStart => exact ⟨zeroI n, _, _, zeroI_len n, zeroI_fit n, O2.out, HRG0.out, AckTo.start, L2.out⟩
  case round =>
    obtain ⟨l, left, cnt, hln, hfit, ho, hrg, hto, hb⟩ := hrel
    have HLN := hide hln
    have HFIT := hide hfit
    have HO := hide ho
    have HRG := hide hrg
    have HTO := hide hto
    have HB := hide hb
    clear hln hfit ho hrg hto hb HRG0 O2 L2
    go_wp2_with (at_next; refine wpList_next_ranges _ (by rfl) _ (by rfl) 3 Ck.Tryz.int_law heldR (fun (z : Int) => .int .i64 z) (fun c => c) (fun key kl hk => by obtain ⟨z, e, _⟩ := Maps.keyOf_int_inv Tryz.underlying3 hk; exact ⟨z, e⟩) (fun v y _ => ⟨v, rfl⟩) p.b R g _ _ _ (by rfl) HRG.out ?_ ?_)
    · intro _ hl0
      have hall := HTO.out.ended hl0
      have hnn : x.n.toNat = n := by have := HN.out; omega
      have hacks : l = acksU x := acksU_of (by rw [HLN.out, hnn]) (by rw [hnn]; exact hall)
      have HA := hide hacks
      have HRW := hide (H.out.later HB.out)
      have HF : Hid (∀ w', Later wr w' → w'.cell? ⟨p.s, 0, none⟩ = some (.int .i64 x.id) ∧ w'.cell? ⟨p.s, 7, none⟩ = some (.pointer (some ⟨p.l, 0, none⟩))) := fun w' hl => ⟨(HRW.out.later hl).cell (k := 0) rfl, (HRW.out.later hl).cell (k := 7) rfl⟩
      have CLa := hide (fun w' (hl : Later wr w') => Ol.lg_last (HRW.out.later hl).log)
      obtain ⟨d, hd⟩ : ∃ d : Nat, x.id - 1 = (d : Int) := ⟨(x.id - 1).toNat, by have := HID.out; omega⟩
      have hd5 : d < n := by have := HID.out; have := HN.out; omega
      have hw1 : IntKind.i64.wrap (x.id - 1) = (d : Int) := by rw [hd]; exact IntWalk.i64_in _ (by omega)
      have D0 : Hid (Later wr wr.drew) := (Below.refl _ _).drew
      have OD : Hid (wr.drew.ownsRow w.heap.size 3 1 (.slice (some ⟨w.heap.size, 0, none⟩) n n) n (ivs l)) := HO.out
      have HD := hide hd
      clear hl0 hall hnn hacks HTO HRG hd
      go_wp2
      refine wp_region_S (fun j => j == 13) (by kernel_rfl) ?_
      refine wpAnyS_take (i := 0) (d := some 28) (v := ?vaa0) rfl rfl (by kernel_rfl) (by kernel_rfl) (by kernel_rfl) (by kernel_rfl) (by kernel_rfl) (fun _ _ _ h => h) (by rfl) ?yaa0 ?_
      case yaa0 => (intro w' hw'; go_simp; try (with_reducible rfl))
      simp only [Act.put]; try simp only [List.setIfInBounds_toArray]; try simp only [List.set_cons_zero, List.set_cons_succ]
      refine wpAnyS_take (i := 1) (d := some 29) (v := ?vaa1) rfl rfl (by kernel_rfl) (by kernel_rfl) (by kernel_rfl) (by kernel_rfl) (by kernel_rfl) (fun _ _ _ h => h) (by rfl) ?yaa1 ?_
      case yaa1 => (intro w' hw'; go_simp; try (with_reducible rfl))
      simp only [Act.put]; try simp only [List.setIfInBounds_toArray]; try simp only [List.set_cons_zero, List.set_cons_succ]
      refine wpAnyS_take (i := 2) (d := some 30) (v := ?vaa2) rfl rfl (by kernel_rfl) (by kernel_rfl) (by kernel_rfl) (by kernel_rfl) (by kernel_rfl) (fun _ _ _ h => h) (by rfl) ?yaa2 ?_
      case yaa2 => (intro w' hw'; go_simp; try (with_reducible rfl))
      simp only [Act.put]; try simp only [List.setIfInBounds_toArray]; try simp only [List.set_cons_zero, List.set_cons_succ]
      refine wpAnyS_take (i := 3) (d := some 31) (v := ?vaa3) rfl rfl (by kernel_rfl) (by kernel_rfl) (by kernel_rfl) (by kernel_rfl) (by kernel_rfl) (fun _ _ _ h => h) (by rfl) ?yaa3 ?_
      case yaa3 => (intro w' hw'; go_simp; try (with_reducible rfl))
      simp only [Act.put]; try simp only [List.setIfInBounds_toArray]; try simp only [List.set_cons_zero, List.set_cons_succ]
      refine wpAnyS_take (i := 4) (d := some 32) (v := ?vaa4) rfl rfl (by kernel_rfl) (by kernel_rfl) (by kernel_rfl) (by kernel_rfl) (by kernel_rfl) (fun _ _ _ h => h) (by rfl) ?yaa4 ?_
      case yaa4 => (intro w' hw'; go_simp; try (with_reducible rfl))
      simp only [Act.put]; try simp only [List.setIfInBounds_toArray]; try simp only [List.set_cons_zero, List.set_cons_succ]
      refine wpAnyS_take (i := 5) (d := some 33) (v := ?vaa5) rfl rfl (by kernel_rfl) (by kernel_rfl) (by kernel_rfl) (by kernel_rfl) (by kernel_rfl) (fun _ _ _ h => h) (by rfl) ?yaa5 ?_
      case yaa5 => (intro w' hw'; have hq := (HF.out w' (D0.out.trans hw')).1; go_simp; try (with_reducible rfl))
      simp only [Act.put]; try simp only [List.setIfInBounds_toArray]; try simp only [List.set_cons_zero, List.set_cons_succ]
      refine wpAnyS_take (i := 6) (d := some 34) (v := .int .i64 (d : Int)) rfl rfl (by kernel_rfl) (by kernel_rfl) (by kernel_rfl) (by kernel_rfl) (by kernel_rfl) (fun _ _ _ h => h) (by rfl) ?yaa6 ?_
      case yaa6 => (intro w' hw'; go_simp; try (with_reducible rfl))
      simp only [Act.put]; try simp only [List.setIfInBounds_toArray]; try simp only [List.set_cons_zero, List.set_cons_succ]
      refine wpAnyS_take (i := 7) (d := some 35) (v := ?vaa7) rfl rfl (by kernel_rfl) (by kernel_rfl) (by kernel_rfl) (by kernel_rfl) (by kernel_rfl) (fun _ _ _ h => h) (by rfl) ?yaa7 ?_
      case yaa7 => (intro w' hw'; go_simp; try (with_reducible rfl))
      simp only [Act.put]; try simp only [List.setIfInBounds_toArray]; try simp only [List.set_cons_zero, List.set_cons_succ]
      refine wpAnyS_take (i := 8) (d := some 36) (v := ?vaa8) rfl rfl (by kernel_rfl) (by kernel_rfl) (by kernel_rfl) (by kernel_rfl) (by kernel_rfl) (fun _ _ _ h => h) (by rfl) ?yaa8 ?_
      case yaa8 => (intro w' hw'; go_simp; try (with_reducible rfl))
      simp only [Act.put]; try simp only [List.setIfInBounds_toArray]; try simp only [List.set_cons_zero, List.set_cons_succ]
      refine wpAnyS_take (i := 9) (d := some 37) (v := ?vaa9) rfl rfl (by kernel_rfl) (by kernel_rfl) (by kernel_rfl) (by kernel_rfl) (by kernel_rfl) (fun _ _ _ h => h) (by rfl) ?yaa9 ?_
      case yaa9 => (intro w' hw'; go_simp; try (with_reducible rfl))
      simp only [Act.put]; try simp only [List.setIfInBounds_toArray]; try simp only [List.set_cons_zero, List.set_cons_succ]
      refine wpAnyS_take (i := 10) (d := some 38) (v := .pointer (some ⟨p.l, 0, none⟩)) rfl rfl (by kernel_rfl) (by kernel_rfl) (by kernel_rfl) (by kernel_rfl) (by kernel_rfl) (fun _ _ _ h => h) (by rfl) ?yaa10 ?_
      case yaa10 => (intro w' hw'; have hq := (HF.out w' (D0.out.trans hw')).2; go_simp; try (with_reducible rfl))
      simp only [Act.put]; try simp only [List.setIfInBounds_toArray]; try simp only [List.set_cons_zero, List.set_cons_succ]
      refine wpAnyS_only (i := 11) rfl (by kernel_rfl) (by rfl) fun K hK => ?_
      go_simp
      refine (CLa.out _ D0.out).mono ?_
      rintro e v1 ⟨rfl, rfl⟩
      refine hK.out _ _ (Below.refl _ _) ?_
      clear hK K
      try (simp only [Act.put]; try simp only [List.setIfInBounds_toArray]; try simp only [List.set_cons_zero, List.set_cons_succ])
      refine wpAnyS_take (i := 12) (d := some 40) (v := ?vaa12) rfl rfl (by kernel_rfl) (by kernel_rfl) (by kernel_rfl) (by kernel_rfl) (by kernel_rfl) (fun _ _ _ h => h) (by rfl) ?yaa12 ?_
      case yaa12 => (intro w' hw'; go_simp; try (with_reducible rfl))
      simp only [Act.put]; try simp only [List.setIfInBounds_toArray]; try simp only [List.set_cons_zero, List.set_cons_succ]
      refine wpAnyS_write (i := 13) rfl rfl (by kernel_rfl) (by rfl) fun K hK => ?_
      have cc := iown_cell OD.out (i := d) (by omega)
      have ff := iown_free OD.out d
      go_simp
      refine hK.out _ _ ?_
      clear hK K
      try simp only [Act.put]
      refine wpAnyS_done (by kernel_rfl) ?_ _
      go_wp2
      go_ret
      obtain ⟨os, og⟩ := iown_set OD.out d (x.log.length : Int)
      have hds : d = x.id.toNat - 1 := by have := HD.out; have := HID.out; omega
      have hll : l.set d (x.log.length : Int) = acksL x := by unfold acksL; rw [← HA.out, hds]
      rw [hll] at os
      have hfit2 : Fit (acksL x) := by
        rw [← hll]
        intro a ha
        rcases List.mem_or_eq_of_mem_set ha with h | h
        · exact HFIT.out a h
        · have := H.out.log.len; omega
      have hB : Below w.heap.size w (wr.drew.setCell ⟨w.heap.size, d, none⟩ (.int .i64 (x.log.length : Int))) := Below.grown (HB.out.trans D0.out) og (Below.size (HB.out.trans D0.out)) (fun k hk => by have := Option.some.inj hk; omega)
      exact newInts_of os hfit2 hB
    · intro z c kl y1 y2 w3 cnt3 hkz hlk hRc hat hrg3 hlt hg3 hs3 hen
      obtain ⟨z', e1, rfl, _⟩ := Maps.keyOf_int_inv Tryz.underlying3 hkz
      injection e1 with _ e1
      subst e1
      unfold heldR at hRc
      simp only [Option.some.injEq, Prod.mk.injEq] at hRc
      obtain ⟨rfl, rfl⟩ := hRc
      obtain ⟨y, hy, rfl, rfl, hfd⟩ := found_at hat
      have hky := H.out.ok.keys y hy
      obtain ⟨k, hk⟩ : ∃ k : Nat, y.1 - 1 = (k : Int) := ⟨(y.1 - 1).toNat, by omega⟩
      have hkn : k < n := by have := HN.out; omega
      have hw1 : IntKind.i64.wrap (y.1 - 1) = (k : Int) := by rw [hk]; exact IntWalk.i64_in _ (by omega)
      have HRG3 := hide hrg3
      have L3 : Hid (Later w w3) := Below.grown HB.out hg3 (Below.size HB.out) (fun k hk => by have := Option.some.inj hk; omega)
      have O3 : Hid (w3.ownsRow w.heap.size 3 1 (.slice (some ⟨w.heap.size, 0, none⟩) n n) n (ivs l)) := by
        exact own_but HO.out hg3 (by intro e; have e : w.heap.size = R := Option.some.inj e; omega)
      have hack : ackOf x.kept k = y.2.ack := by
        unfold ackOf
        rw [← hk, show y.1 - 1 + 1 = y.1 from by omega, hfd]
      have HTN := hide (HTO.out.next (k := k) HLN.out hkn)
      have hz1 : y.1 = (k : Int) + 1 := by omega
      rw [hack, ← hz1] at HTN
      obtain ⟨k1, k2, k3⟩ := (H.out.msgs y hy).cell
      have hacky := H.out.ok.acks y hy
      have ZB : Hid ((w3.alloc (.cells HeardD.nil.cells.toArray 177 (0, 0))).heap[w3.heap.size]? = some (.cells HeardD.nil.cells.toArray 177 (0, 0))) := heap_alloc_new _ _
      have hsz3 := Below.size L3.out
      have hR3 := hlt
      have HLT := hide hlt
      have HAB := hide hacky
      have hRl : R < w3.heap.size := hrg3.lt
      clear hat hrg3 hfd hky hg3 hs3 hkz hlk hack hz1 hlt hy HO HTO hacky
      obtain ⟨ky, hky⟩ : ∃ ky, y.1 = ky := ⟨_, rfl⟩
      obtain ⟨yv, hyv⟩ : ∃ yv, y.2 = yv := ⟨_, rfl⟩
      rw [hky] at hw1 HTN hen
      rw [hyv] at HTN hen k1 k2 k3 HAB
      simp only [hky, hyv]
      have HKY := hide hky
      clear hky hyv
      go_wp2_with (refine wpList_store_box (by rfl) 177 _ _ (by rfl) w3.heap.size 0 yv.cells.toArray (by rfl) (by rfl) 177 _ ZB.out (by kernel_rfl) (by exact Nat.le_of_ble_eq_true rfl) (by exact yv.one k1 k2 k3) ?_; intro w4 hb4 hg4; rw [put_heard] at hb4; have ca : w4.cell? ⟨w3.heap.size, 0, none⟩ = some (.int .i64 yv.ack) := box_cell hb4 0 _ (by rfl); have O4 := hide (own_but (own_on O3.out ((Below.refl _ _).alloc (Nat.le_refl _) _)) hg4 (by intro e; have e : w.heap.size = w3.heap.size := Option.some.inj e; omega)); have cr := iown_cell O4.out (i := k) (by omega); have fr := iown_free O4.out k; have RG4 := hide ((HRG3.out.alloc (.cells HeardD.nil.cells.toArray 177 (0, 0))).kept hg4 (by intro e; have e : p.b = w3.heap.size := Option.some.inj e; have := HRG3.out.owns.lt; omega) (by intro e; have e : R = w3.heap.size := Option.some.inj e; omega)); have L4 : Hid (Later w w4) := Below.grown (Below.alloc L3.out hsz3 _) hg4 (by simp; omega) (fun k hk => by have := Option.some.inj hk; omega); clear hb4 hg4)
      obtain ⟨os, og⟩ := iown_set O4.out k yv.ack
      have hpb := H.out.lt.2.2
      have RG5 := hide (RG4.out.kept og (by intro e; have e : p.b = w.heap.size := Option.some.inj e; omega) (by intro e; have e : R = w.heap.size := Option.some.inj e; omega))
      have L5 : Hid (Later w (w4.setCell ⟨w.heap.size, k, none⟩ (.int .i64 yv.ack))) := Below.grown L4.out og (Below.size L4.out) (fun k hk => by have := Option.some.inj hk; omega)
      have OS := hide os
      have hfit2 : Fit (l.set k yv.ack) := by
        intro a ha
        rcases List.mem_or_eq_of_mem_set ha with h | h
        · exact HFIT.out a h
        · have := HAB.out; omega
      clear os og RG4 L4 O4 ca cr fr
      go_roundw
      case rel => exact ⟨l.set k yv.ack, _, _, by rw [List.length_set]; exact HLN.out, hfit2, OS.out, RG5.out, by rw [HKY.out]; exact HTN.out, L5.out⟩
      case measure => rw [RG5.out.left_eq, HRG.out.left_eq]; have := HLT.out; omega
end
end Go.Proofs.YtaiegmhlgjogmaaGreat
/- A node is asked to put an operation into its log. -/
namespace Go.Proofs.YtaiegmhlgjogmaaGreat
open Go.RowKit Go.Maps

section
variable {col : Nat → Nat} {q B r g : Nat} {w : World} {p : RepP} {x : RepD}
/-- With one operation more, if there is room. -/
def addLog (x : RepD) (o : OpD) : RepD := { x with log := (Ol.addR x.log o).1 }
def prepM (x : RepD) (o : OpD) : MsgD := { MsgD.zero with kind := 3, view := x.view, num := (x.log.length : Int), commit := (x.com : Int), op := o }
theorem addLog_ok (ok : x.OK g) (o : OpD) : (addLog x o).OK g := ⟨ok.id, ok.n, ok.view, ok.last, ok.nonce, ok.incs, ok.taken, ok.now, ok.names, ok.later, ok.keys, ok.rise, ok.acks⟩
/-- What is told: to whom leads not: late; without room: full. -/
def Proposed (x : RepD) (o : OpD) (col' : Nat → Nat) (w : World) (e : Ending) (w' : World) : Prop :=
  if leadsR x = false then e = .returned (.tuple #[.slice none 0 0, .int .i64 10])
  else if x.log.length < 2000 then ∃ v, SentC col' (allM (addLog x o) (prepM (addLog x o) o)) w (.returned v) w' ∧ e = .returned (.tuple #[v, .int .i64 0])
  else e = .returned (.tuple #[.slice none 0 0, .int .i64 7])
def propR (x : RepD) (o : OpD) : RepD := if leadsR x = false then x else addLog x o

set_option maxHeartbeats 4000000 in
set_option maxRecDepth 100000 in
theorem propose_any {o : OpD} {s : Value} (h : RepAt col q B w r p x g) (hs : StepsAt (fun i => col i = 0) w s o.steps) (ho : o.steps.length ≤ 200) :
    Calls Tryz.prog 24 #[.pointer (some ⟨r, 0, none⟩), .agg (o.cells s).toArray] w fun e w' => ∃ col', Since q B w col col' w' r p (propR x o) g ∧ Proposed x o col' w e w' := by
  have h1 : s.oneCell' = true := FlatAt.oneCell hs
  obtain ⟨W, hW⟩ : ∃ W, W = w.alloc (.cells (o.cells s).toArray 33 (0, 0)) := ⟨_, rfl⟩
  have LB : Hid (Later w W) := by rw [hW]; exact (Below.refl _ _).alloc (Nat.le_refl _) _
  have XB : Hid (W.heap[w.heap.size]? = some (.cells (o.cells s).toArray 33 (0, 0))) := by rw [hW]; exact heap_alloc_new _ _
  have HS := hide hs
  have H1 := h.later LB.out
  have C := hide (made_any H1)
  have CL := hide (rleads_any H1)
  have H := hide h
  have HO := hide ho
  clear h H1 hs ho
  obtain ⟨b, hb⟩ : ∃ b, leadsR x = b := ⟨_, rfl⟩
  rw [hb] at CL
  unfold OpD.cells at hW ⊢
  cases b with
  | false =>
    have hP : propR x o = x := by unfold propR; rw [if_pos hb]
    rw [hP]
    have HE := hide hb
    clear hb hP
    go_enter Tryz.func24, Tryz.ntmps24
    go_wp2_with (fail)
    rw [← hW]
    clear hW
    refine C.out.mono ?_
    rintro e w1 ⟨rfl, rfl⟩
    go_wp2_with (fail)
    refine CL.out.mono ?_
    rintro e w2 ⟨rfl, hl⟩
    have HL := hide hl
    clear hl C CL
    go_wp2
    go_ret2
    exact ⟨col, ((Since.refl H.out).later LB.out).later HL.out, by unfold Proposed; rw [if_pos HE.out]; exact rfl⟩
  | true =>
    have hP : propR x o = addLog x o := by unfold propR; rw [if_neg (by rw [hb]; simp)]
    rw [hP]
    have HE := hide hb
    clear hb hP
    go_enter Tryz.func24, Tryz.ntmps24
    go_wp2_with (fail)
    rw [← hW]
    clear hW
    refine C.out.mono ?_
    rintro e w1 ⟨rfl, rfl⟩
    go_wp2_with (fail)
    refine CL.out.mono ?_
    rintro e w2 ⟨rfl, hl⟩
    have L2 : Hid (Later w w2) := LB.out.trans hl
    have X2 : Hid (w2.heap[w.heap.size]? = some (.cells (o.cells s).toArray 33 (0, 0))) := (hl.block _ (lt_of_block XB.out)).trans XB.out
    have HR2 := hide (H.out.later L2.out)
    have HF : Hid (∀ w', Later w2 w' → w'.cell? ⟨r, 0, none⟩ = some (.pointer (some ⟨p.s, 0, none⟩)) ∧ w'.cell? ⟨p.s, 7, none⟩ = some (.pointer (some ⟨p.l, 0, none⟩))) := fun w' hl => ⟨(HR2.out.later hl).rptr, (HR2.out.later hl).cell (k := 7) rfl⟩
    have HS2 := hide (HS.out.kept (Kept.of_below L2.out _))
    have CA := hide (fun w' (hl : Later w2 w') => Ol.lg_add o s (HR2.out.later hl).log (HS2.out.kept (Kept.of_below hl _)) (by have := HO.out; omega))
    unfold OpD.cells at CA
    have D0 : Hid (Later w2 w2.drew) := (Below.refl _ _).drew
    clear hl C CL LB XB
    go_wp2
    refine wp_region_S (fun j => j == 8) (by kernel_rfl) ?_
    refine wpAnyS_take (i := 0) (d := some 15) (v := ?vaa0) rfl rfl (by kernel_rfl) (by kernel_rfl) (by kernel_rfl) (by kernel_rfl) (by kernel_rfl) (fun _ _ _ h => h) (by rfl) ?yaa0 ?_
    case yaa0 => (intro w' hw'; go_simp; try (with_reducible rfl))
    simp only [Act.put]; try simp only [List.setIfInBounds_toArray]; try simp only [List.set_cons_zero, List.set_cons_succ]
    refine wpAnyS_take (i := 1) (d := some 16) (v := ?vaa1) rfl rfl (by kernel_rfl) (by kernel_rfl) (by kernel_rfl) (by kernel_rfl) (by kernel_rfl) (fun _ _ _ h => h) (by rfl) ?yaa1 ?_
    case yaa1 => (intro w' hw'; go_simp; try (with_reducible rfl))
    simp only [Act.put]; try simp only [List.setIfInBounds_toArray]; try simp only [List.set_cons_zero, List.set_cons_succ]
    refine wpAnyS_take (i := 2) (d := some 17) (v := ?vaa2) rfl rfl (by kernel_rfl) (by kernel_rfl) (by kernel_rfl) (by kernel_rfl) (by kernel_rfl) (fun _ _ _ h => h) (by rfl) ?yaa2 ?_
    case yaa2 => (intro w' hw'; go_simp; try (with_reducible rfl))
    simp only [Act.put]; try simp only [List.setIfInBounds_toArray]; try simp only [List.set_cons_zero, List.set_cons_succ]
    refine wpAnyS_take (i := 3) (d := some 18) (v := .pointer (some ⟨p.s, 0, none⟩)) rfl rfl (by kernel_rfl) (by kernel_rfl) (by kernel_rfl) (by kernel_rfl) (by kernel_rfl) (fun _ _ _ h => h) (by rfl) ?yaa3 ?_
    case yaa3 => (intro w' hw'; have hq := (HF.out w' (D0.out.trans hw')).1; go_simp; try (with_reducible rfl))
    simp only [Act.put]; try simp only [List.setIfInBounds_toArray]; try simp only [List.set_cons_zero, List.set_cons_succ]
    refine wpAnyS_take (i := 4) (d := some 19) (v := ?vaa4) rfl rfl (by kernel_rfl) (by kernel_rfl) (by kernel_rfl) (by kernel_rfl) (by kernel_rfl) (fun _ _ _ h => h) (by rfl) ?yaa4 ?_
    case yaa4 => (intro w' hw'; go_simp; try (with_reducible rfl))
    simp only [Act.put]; try simp only [List.setIfInBounds_toArray]; try simp only [List.set_cons_zero, List.set_cons_succ]
    refine wpAnyS_take (i := 5) (d := some 20) (v := ?vaa5) rfl rfl (by kernel_rfl) (by kernel_rfl) (by kernel_rfl) (by kernel_rfl) (by kernel_rfl) (fun _ _ _ h => h) (by rfl) ?yaa5 ?_
    case yaa5 => (intro w' hw'; go_simp; try (with_reducible rfl))
    simp only [Act.put]; try simp only [List.setIfInBounds_toArray]; try simp only [List.set_cons_zero, List.set_cons_succ]
    refine wpAnyS_take (i := 6) (d := some 21) (v := .pointer (some ⟨p.l, 0, none⟩)) rfl rfl (by kernel_rfl) (by kernel_rfl) (by kernel_rfl) (by kernel_rfl) (by kernel_rfl) (fun _ _ _ h => h) (by rfl) ?yaa6 ?_
    case yaa6 => (intro w' hw'; have hq := (HF.out w' (D0.out.trans hw')).2; go_simp; try (with_reducible rfl))
    simp only [Act.put]; try simp only [List.setIfInBounds_toArray]; try simp only [List.set_cons_zero, List.set_cons_succ]
    refine wpAnyS_take (i := 7) (d := some 22) (v := .agg (o.cells s).toArray) rfl rfl (by kernel_rfl) (by kernel_rfl) (by kernel_rfl) (by kernel_rfl) (by kernel_rfl) (fun _ _ _ h => h) (by rfl) ?yaa7 ?_
    case yaa7 => (intro w' hw'; exact exec_load_box 33 _ (by rfl) w.heap.size 0 (by rfl) 33 _ ((Below.block hw' w.heap.size (lt_of_block X2.out)).trans X2.out) 10 _ Tryz.underlying33 (by rfl) (by kernel_rfl) (o.cells s) (by rfl) (by rfl))
    simp only [Act.put]; try simp only [List.setIfInBounds_toArray]; try simp only [List.set_cons_zero, List.set_cons_succ]
    refine wpAnyS_write (i := 8) rfl rfl (by kernel_rfl) (by rfl) fun K hK => ?_
    go_simp
    refine (CA.out _ D0.out).mono ?_
    rintro e w3 ⟨rfl, hn⟩
    have HN := hide hn
    clear hn
    refine hK.out _ _ ?_
    clear hK K
    try (simp only [Act.put]; try simp only [List.setIfInBounds_toArray]; try simp only [List.set_cons_zero, List.set_cons_succ])
    refine wpAnyS_pure (i := 9) (d := some 14) (v := ?vaa9) rfl rfl (by kernel_rfl) (by kernel_rfl) (by kernel_rfl) (by kernel_rfl) (fun _ _ _ h => h) (by rfl) ?yaa9 ?_
    case yaa9 => (intro w'; go_simp; try (with_reducible rfl))
    simp only [Act.put]; try simp only [List.setIfInBounds_toArray]; try simp only [List.set_cons_zero, List.set_cons_succ]
    refine wpAnyS_pure (i := 10) (d := some 24) (v := ?vaa10) rfl rfl (by kernel_rfl) (by kernel_rfl) (by kernel_rfl) (by kernel_rfl) (fun _ _ _ h => h) (by rfl) ?yaa10 ?_
    case yaa10 => (intro w'; go_simp; try (with_reducible rfl))
    simp only [Act.put]; try simp only [List.setIfInBounds_toArray]; try simp only [List.set_cons_zero, List.set_cons_succ]
    refine wpAnyS_pure (i := 11) (d := some 25) (v := ?vaa11) rfl rfl (by kernel_rfl) (by kernel_rfl) (by kernel_rfl) (by kernel_rfl) (fun _ _ _ h => h) (by rfl) ?yaa11 ?_
    case yaa11 => (intro w'; go_simp; try (with_reducible rfl))
    simp only [Act.put]; try simp only [List.setIfInBounds_toArray]; try simp only [List.set_cons_zero, List.set_cons_succ]
    refine wpAnyS_pure (i := 12) (d := some 6) (v := ?vaa12) rfl rfl (by kernel_rfl) (by kernel_rfl) (by kernel_rfl) (by kernel_rfl) (fun _ _ _ h => h) (by rfl) ?yaa12 ?_
    case yaa12 => (intro w'; go_simp; try (with_reducible rfl))
    simp only [Act.put]; try simp only [List.setIfInBounds_toArray]; try simp only [List.set_cons_zero, List.set_cons_succ]
    refine wpAnyS_pure (i := 13) (d := some 7) (v := ?vaa13) rfl rfl (by kernel_rfl) (by kernel_rfl) (by kernel_rfl) (by kernel_rfl) (fun _ _ _ h => h) (by rfl) ?yaa13 ?_
    case yaa13 => (intro w'; go_simp; try (with_reducible rfl))
    simp only [Act.put]; try simp only [List.setIfInBounds_toArray]; try simp only [List.set_cons_zero, List.set_cons_succ]
    refine wpAnyS_done (by kernel_rfl) ?_ _
    have hadd : (Ol.addR x.log o).2.1 = (if x.log.length < 2000 then ((x.log.length + 1 : Nat) : Int) else 0) ∧ (Ol.addR x.log o).2.2 = (if x.log.length < 2000 then (0 : Int) else 7) := by
      unfold Ol.addR
      split <;> exact ⟨rfl, rfl⟩
    obtain ⟨S', hlg, hS', htu⟩ := HN.out
    obtain ⟨c3, hs3⟩ := (HR2.out.later D0.out).logs (L' := (Ol.addR x.log o).1) hlg htu hS' (addLog_ok H.out.ok o)
    have HS3 : Hid (Since q B w col c3 w3 r p (addLog x o) g) := (((Since.refl H.out).later L2.out).later D0.out).next hs3
    have X3 : Hid (w3.heap[w.heap.size]? = some (.cells (o.cells s).toArray 33 (0, 0))) := (htu.block w.heap.size (lt_of_block X2.out) (fun e => by have := H.out.fresh _ (Nat.le_refl w.heap.size); unfold hue at e; omega)).trans X2.out
    have HSt3 : Hid (StepsAt (fun i => col i = 0) w3 s o.steps) := (HS2.out.kept (Kept.of_below D0.out _)).kept (htu.kept fun i e e2 => by unfold hue at e2; omega)
    clear hlg hS' htu hs3 HN CA HF D0 HR2 X2 HS2
    by_cases hlt : x.log.length < 2000
    · rw [if_pos hlt, if_pos hlt] at hadd
      rw [hadd.1, hadd.2]
      have hlog : (addLog x o).log.length = x.log.length + 1 := by unfold addLog Ol.addR; rw [if_pos hlt]; simp
      have HLT := hide hlt
      have HF3 : Hid (∀ w', Later w3 w' → w'.cell? ⟨r, 0, none⟩ = some (.pointer (some ⟨p.s, 0, none⟩)) ∧ w'.cell? ⟨p.s, 3, none⟩ = some (.int .i64 x.view) ∧ w'.cell? ⟨p.s, 7, none⟩ = some (.pointer (some ⟨p.l, 0, none⟩))) := fun w' hl => ⟨(HS3.out.rep.later hl).rptr, (HS3.out.rep.later hl).cell (k := 3) rfl, (HS3.out.rep.later hl).cell (k := 7) rfl⟩
      have CC : Hid (∀ w', Later w3 w' → Calls Tryz.prog 49 #[.pointer (some ⟨p.l, 0, none⟩)] w' fun e w'' => e = .returned (.int .i64 (x.com : Int)) ∧ w' = w'') := fun w' hl => Ol.lg_committed (HS3.out.rep.later hl).log
      have CT := hide (fun w' (hl : Later w3 w') => toall_any (m := prepM (addLog x o) o) (s := s) (o := .slice none 0 0) (i := .slice none 0 0) (F := fun i => col i = 0) (HS3.out.rep.later hl) ⟨HSt3.out.kept (Kept.of_below hl _), ⟨[], rfl, FlatAt.nil_ _ _ _, by simp⟩, IncsAt.nil_ _ _⟩ ⟨by have := HO.out; show (o.steps.length : Int) ≤ 200; omega, by show (0 : Int) ≤ 200; decide, by simp [prepM, MsgD.zero]⟩)
      have hco : (addLog x o).com = x.com ∧ (addLog x o).view = x.view := ⟨rfl, rfl⟩
      simp only [MsgD.cells, prepM, MsgD.zero, hlog, hco.1, hco.2] at CT
      have D3 : Hid (Later w3 w3.drew) := (Below.refl _ _).drew
      have HLG := hide hlog
      clear hadd hlt hlog hco
      go_wp2
      refine wp_region_L (by kernel_rfl) ?_
      refine wpAnyL_take (i := 0) (d := some 29) (v := ?vab0) rfl rfl (by kernel_rfl) (by kernel_rfl) (by kernel_rfl) (fun _ _ _ h => h) (by rfl) ?yab0 ?_
      case yab0 => (intro w' hw'; go_simp; try (with_reducible rfl))
      simp only [Act.put]; try simp only [List.setIfInBounds_toArray]; try simp only [List.set_cons_zero, List.set_cons_succ]
      refine wpAnyL_take (i := 1) (d := some 30) (v := ?vab1) rfl rfl (by kernel_rfl) (by kernel_rfl) (by kernel_rfl) (fun _ _ _ h => h) (by rfl) ?yab1 ?_
      case yab1 => (intro w' hw'; go_simp; try (with_reducible rfl))
      simp only [Act.put]; try simp only [List.setIfInBounds_toArray]; try simp only [List.set_cons_zero, List.set_cons_succ]
      refine wpAnyL_take (i := 2) (d := some 31) (v := ?vab2) rfl rfl (by kernel_rfl) (by kernel_rfl) (by kernel_rfl) (fun _ _ _ h => h) (by rfl) ?yab2 ?_
      case yab2 => (intro w' hw'; go_simp; try (with_reducible rfl))
      simp only [Act.put]; try simp only [List.setIfInBounds_toArray]; try simp only [List.set_cons_zero, List.set_cons_succ]
      refine wpAnyL_take (i := 3) (d := some 32) (v := .pointer (some ⟨p.s, 0, none⟩)) rfl rfl (by kernel_rfl) (by kernel_rfl) (by kernel_rfl) (fun _ _ _ h => h) (by rfl) ?yab3 ?_
      case yab3 => (intro w' hw'; have hq := (HF3.out w' (D3.out.trans hw')).1; go_simp; try (with_reducible rfl))
      simp only [Act.put]; try simp only [List.setIfInBounds_toArray]; try simp only [List.set_cons_zero, List.set_cons_succ]
      refine wpAnyL_take (i := 4) (d := some 33) (v := ?vab4) rfl rfl (by kernel_rfl) (by kernel_rfl) (by kernel_rfl) (fun _ _ _ h => h) (by rfl) ?yab4 ?_
      case yab4 => (intro w' hw'; go_simp; try (with_reducible rfl))
      simp only [Act.put]; try simp only [List.setIfInBounds_toArray]; try simp only [List.set_cons_zero, List.set_cons_succ]
      refine wpAnyL_take (i := 5) (d := some 34) (v := ?vab5) rfl rfl (by kernel_rfl) (by kernel_rfl) (by kernel_rfl) (fun _ _ _ h => h) (by rfl) ?yab5 ?_
      case yab5 => (intro w' hw'; go_simp; try (with_reducible rfl))
      simp only [Act.put]; try simp only [List.setIfInBounds_toArray]; try simp only [List.set_cons_zero, List.set_cons_succ]
      refine wpAnyL_take (i := 6) (d := some 35) (v := ?vab6) rfl rfl (by kernel_rfl) (by kernel_rfl) (by kernel_rfl) (fun _ _ _ h => h) (by rfl) ?yab6 ?_
      case yab6 => (intro w' hw'; go_simp; try (with_reducible rfl))
      simp only [Act.put]; try simp only [List.setIfInBounds_toArray]; try simp only [List.set_cons_zero, List.set_cons_succ]
      refine wpAnyL_take (i := 7) (d := some 36) (v := .pointer (some ⟨p.s, 0, none⟩)) rfl rfl (by kernel_rfl) (by kernel_rfl) (by kernel_rfl) (fun _ _ _ h => h) (by rfl) ?yab7 ?_
      case yab7 => (intro w' hw'; have hq := (HF3.out w' (D3.out.trans hw')).1; go_simp; try (with_reducible rfl))
      simp only [Act.put]; try simp only [List.setIfInBounds_toArray]; try simp only [List.set_cons_zero, List.set_cons_succ]
      refine wpAnyL_take (i := 8) (d := some 37) (v := ?vab8) rfl rfl (by kernel_rfl) (by kernel_rfl) (by kernel_rfl) (fun _ _ _ h => h) (by rfl) ?yab8 ?_
      case yab8 => (intro w' hw'; go_simp; try (with_reducible rfl))
      simp only [Act.put]; try simp only [List.setIfInBounds_toArray]; try simp only [List.set_cons_zero, List.set_cons_succ]
      refine wpAnyL_take (i := 9) (d := some 38) (v := ?vab9) rfl rfl (by kernel_rfl) (by kernel_rfl) (by kernel_rfl) (fun _ _ _ h => h) (by rfl) ?yab9 ?_
      case yab9 => (intro w' hw'; go_simp; try (with_reducible rfl))
      simp only [Act.put]; try simp only [List.setIfInBounds_toArray]; try simp only [List.set_cons_zero, List.set_cons_succ]
      refine wpAnyL_take (i := 10) (d := some 39) (v := ?vab10) rfl rfl (by kernel_rfl) (by kernel_rfl) (by kernel_rfl) (fun _ _ _ h => h) (by rfl) ?yab10 ?_
      case yab10 => (intro w' hw'; go_simp; try (with_reducible rfl))
      simp only [Act.put]; try simp only [List.setIfInBounds_toArray]; try simp only [List.set_cons_zero, List.set_cons_succ]
      refine wpAnyL_take (i := 11) (d := some 40) (v := ?vab11) rfl rfl (by kernel_rfl) (by kernel_rfl) (by kernel_rfl) (fun _ _ _ h => h) (by rfl) ?yab11 ?_
      case yab11 => (intro w' hw'; have hq := (HF3.out w' (D3.out.trans hw')).2.1; go_simp; try (with_reducible rfl))
      simp only [Act.put]; try simp only [List.setIfInBounds_toArray]; try simp only [List.set_cons_zero, List.set_cons_succ]
      refine wpAnyL_take (i := 12) (d := some 41) (v := ?vab12) rfl rfl (by kernel_rfl) (by kernel_rfl) (by kernel_rfl) (fun _ _ _ h => h) (by rfl) ?yab12 ?_
      case yab12 => (intro w' hw'; go_simp; try (with_reducible rfl))
      simp only [Act.put]; try simp only [List.setIfInBounds_toArray]; try simp only [List.set_cons_zero, List.set_cons_succ]
      refine wpAnyL_take (i := 13) (d := some 42) (v := ?vab13) rfl rfl (by kernel_rfl) (by kernel_rfl) (by kernel_rfl) (fun _ _ _ h => h) (by rfl) ?yab13 ?_
      case yab13 => (intro w' hw'; go_simp; try (with_reducible rfl))
      simp only [Act.put]; try simp only [List.setIfInBounds_toArray]; try simp only [List.set_cons_zero, List.set_cons_succ]
      refine wpAnyL_take (i := 14) (d := some 43) (v := ?vab14) rfl rfl (by kernel_rfl) (by kernel_rfl) (by kernel_rfl) (fun _ _ _ h => h) (by rfl) ?yab14 ?_
      case yab14 => (intro w' hw'; go_simp; try (with_reducible rfl))
      simp only [Act.put]; try simp only [List.setIfInBounds_toArray]; try simp only [List.set_cons_zero, List.set_cons_succ]
      refine wpAnyL_take (i := 15) (d := some 44) (v := ?vab15) rfl rfl (by kernel_rfl) (by kernel_rfl) (by kernel_rfl) (fun _ _ _ h => h) (by rfl) ?yab15 ?_
      case yab15 => (intro w' hw'; go_simp; try (with_reducible rfl))
      simp only [Act.put]; try simp only [List.setIfInBounds_toArray]; try simp only [List.set_cons_zero, List.set_cons_succ]
      refine wpAnyL_take (i := 16) (d := some 45) (v := .pointer (some ⟨p.s, 0, none⟩)) rfl rfl (by kernel_rfl) (by kernel_rfl) (by kernel_rfl) (fun _ _ _ h => h) (by rfl) ?yab16 ?_
      case yab16 => (intro w' hw'; have hq := (HF3.out w' (D3.out.trans hw')).1; go_simp; try (with_reducible rfl))
      simp only [Act.put]; try simp only [List.setIfInBounds_toArray]; try simp only [List.set_cons_zero, List.set_cons_succ]
      refine wpAnyL_take (i := 17) (d := some 46) (v := ?vab17) rfl rfl (by kernel_rfl) (by kernel_rfl) (by kernel_rfl) (fun _ _ _ h => h) (by rfl) ?yab17 ?_
      case yab17 => (intro w' hw'; go_simp; try (with_reducible rfl))
      simp only [Act.put]; try simp only [List.setIfInBounds_toArray]; try simp only [List.set_cons_zero, List.set_cons_succ]
      refine wpAnyL_take (i := 18) (d := some 47) (v := ?vab18) rfl rfl (by kernel_rfl) (by kernel_rfl) (by kernel_rfl) (fun _ _ _ h => h) (by rfl) ?yab18 ?_
      case yab18 => (intro w' hw'; go_simp; try (with_reducible rfl))
      simp only [Act.put]; try simp only [List.setIfInBounds_toArray]; try simp only [List.set_cons_zero, List.set_cons_succ]
      refine wpAnyL_take (i := 19) (d := some 48) (v := .pointer (some ⟨p.l, 0, none⟩)) rfl rfl (by kernel_rfl) (by kernel_rfl) (by kernel_rfl) (fun _ _ _ h => h) (by rfl) ?yab19 ?_
      case yab19 => (intro w' hw'; have hq := (HF3.out w' (D3.out.trans hw')).2.2; go_simp; try (with_reducible rfl))
      simp only [Act.put]; try simp only [List.setIfInBounds_toArray]; try simp only [List.set_cons_zero, List.set_cons_succ]
      refine wpAnyL_take (i := 21) (d := some 50) (v := .agg #[.int .i64 o.kind, .int .i64 o.client, .int .i64 o.request, .string o.name, s, .int .i64 o.saga, .int .i64 o.step, .int .i64 o.try_, .bool o.back, .bool o.good]) rfl rfl (by kernel_rfl) (by kernel_rfl) (by kernel_rfl) (fun _ _ _ h => h) (by rfl) ?yab21 ?_
      case yab21 => (intro w' hw'; exact exec_load_box 33 _ (by rfl) w.heap.size 0 (by rfl) 33 _ ((Below.block hw' w.heap.size (lt_of_block X3.out)).trans X3.out) 10 _ Tryz.underlying33 (by rfl) (by kernel_rfl) (o.cells s) (by rfl) (by rfl))
      simp only [Act.put]; try simp only [List.setIfInBounds_toArray]; try simp only [List.set_cons_zero, List.set_cons_succ]
      refine wpAnyL_only (i := 20) rfl (by kernel_rfl) (by rfl) fun K hK => ?_
      go_simp
      refine (CC.out _ D3.out).mono ?_
      rintro e v1 ⟨rfl, rfl⟩
      refine hK.out _ _ (Below.refl _ _) ?_
      clear hK K
      try (simp only [Act.put]; try simp only [List.setIfInBounds_toArray]; try simp only [List.set_cons_zero, List.set_cons_succ])
      refine wpAnyL_take (i := 22) (d := some 51) (v := ?vab22) rfl rfl (by kernel_rfl) (by kernel_rfl) (by kernel_rfl) (fun _ _ _ h => h) (by rfl) ?yab22 ?_
      case yab22 => (intro w' hw'; go_simp; try (with_reducible rfl))
      simp only [Act.put]; try simp only [List.setIfInBounds_toArray]; try simp only [List.set_cons_zero, List.set_cons_succ]
      refine wpAnyL_only (i := 23) rfl (by kernel_rfl) (by rfl) fun K hK => ?_
      go_simp
      refine (CT.out _ D3.out).mono ?_
      rintro e w5 ⟨u, ps, rfl, hrow, hps, hl⟩
      have HROW := hide hrow
      have HPS := hide hps
      have HL := hide hl
      obtain ⟨A, n, c, rfl⟩ : ∃ A n c, u = .slice A n c := by
        obtain ⟨_, _, A, c, e, _⟩ := hrow.msgs.1
        exact ⟨A, _, c, e⟩
      clear hrow hps hl CT
      refine hK.out _ _ HL.out ?_
      clear hK K
      try (simp only [Act.put]; try simp only [List.setIfInBounds_toArray]; try simp only [List.set_cons_zero, List.set_cons_succ])
      refine wpAnyL_take (i := 24) (d := some 4) (v := ?vab24) rfl rfl (by kernel_rfl) (by kernel_rfl) (by kernel_rfl) (fun _ _ _ h => h) (by rfl) ?yab24 ?_
      case yab24 => (intro w' hw'; go_simp; try (with_reducible rfl))
      simp only [Act.put]; try simp only [List.setIfInBounds_toArray]; try simp only [List.set_cons_zero, List.set_cons_succ]
      refine wpAnyL_take (i := 25) (d := some 5) (v := ?vab25) rfl rfl (by kernel_rfl) (by kernel_rfl) (by kernel_rfl) (fun _ _ _ h => h) (by rfl) ?yab25 ?_
      case yab25 => (intro w' hw'; go_simp; try (with_reducible rfl))
      simp only [Act.put]; try simp only [List.setIfInBounds_toArray]; try simp only [List.set_cons_zero, List.set_cons_succ]
      refine wpAnyL_done (by kernel_rfl) ?_ _
      go_wp2
      go_ret2
      refine ⟨c3, (HS3.out.later D3.out).later HL.out, ?_⟩
      unfold Proposed
      rw [if_neg (by rw [HE.out]; simp), if_pos HLT.out]
      exact ⟨_, ⟨_, ps, w3.drew.heap.size, rfl, HS3.out.turned.size, HS3.out.rep.fresh, HROW.out, by rw [HPS.out]; unfold prepM; rw [HLG.out]; rfl⟩, rfl⟩
    · rw [if_neg hlt, if_neg hlt] at hadd
      rw [hadd.1, hadd.2]
      clear hadd
      have HLT := hide hlt
      clear hlt
      go_wp2
      go_ret2
      exact ⟨c3, HS3.out, by unfold Proposed; rw [if_neg (by rw [HE.out]; simp), if_neg HLT.out]; exact rfl⟩
end
end Go.Proofs.YtaiegmhlgjogmaaGreat
/- How a message's view stands to a node's own; a message to one node. -/
namespace Go.Proofs.YtaiegmhlgjogmaaGreat
open Go.RowKit Go.Maps

def follI (ph v mv : Int) : Int := if ph = 3 ∨ mv < v then 0 else if v < mv then 3 else if ph = 1 then 1 else if ph = 2 then 2 else 0
set_option maxHeartbeats 4000000 in
set_option maxRecDepth 100000 in
theorem follows_any {F : Nat → Prop} {w : World} {m : MsgD} {s o i : Value} (id n ph v last : Int) (hm : Lists F w m s o i) :
    Calls Tryz.prog 107 #[.agg #[.int .i64 id, .int .i64 n, .int .i64 ph, .int .i64 v, .int .i64 last], .agg (m.cells s o i).toArray] w fun e w' => e = .returned (.int .i64 (follI ph v m.view)) ∧ Later w w' := by
  obtain ⟨k1, k2, k3⟩ := hm.cell
  obtain ⟨W, hW⟩ : ∃ W, W = (w.alloc (.cells #[.int .i64 id, .int .i64 n, .int .i64 ph, .int .i64 v, .int .i64 last] 76 (0, 0))).alloc (.cells (m.cells s o i).toArray 42 (0, 0)) := ⟨_, rfl⟩
  have LB : Hid (Later w W) := by rw [hW]; exact ((Below.refl _ _).alloc (Nat.le_refl _) _).alloc (by simp) _
  have XS : W.heap[w.heap.size]? = some (.cells #[.int .i64 id, .int .i64 n, .int .i64 ph, .int .i64 v, .int .i64 last] 76 (0, 0)) := by rw [hW]; exact heap_alloc2_old w _ _
  have XM : W.heap[w.heap.size + 1]? = some (.cells (m.cells s o i).toArray 42 (0, 0)) := by rw [hW]; exact heap_alloc2_new w _ _
  have s2 : W.cell? ⟨w.heap.size, 2, none⟩ = some (.int .i64 ph) := cell_of_row W _ 2 _ _ _ XS
  have s3 : W.cell? ⟨w.heap.size, 3, none⟩ = some (.int .i64 v) := cell_of_row W _ 3 _ _ _ XS
  have m3 : W.cell? ⟨w.heap.size + 1, 3, none⟩ = some (.int .i64 m.view) := box_cell XM 3 _ (by rfl)
  have s2w := s2
  have s3w := s3
  have m3w := m3
  clear XS XM hm
  unfold MsgD.cells at hW ⊢
  rw [hW] at s2w s3w m3w
  clear s2 s3 m3
  obtain ⟨mv, hmv⟩ : ∃ mv, m.view = mv := ⟨_, rfl⟩
  rw [hmv] at m3w hW ⊢
  by_cases h1 : ph = 3
  · subst h1
    go_enter Tryz.func107, Tryz.ntmps107
    go_wp2
    rw [← hW]
    go_ret
    exact ⟨ret_int (by unfold follI; rw [if_pos (.inl rfl)]), LB.out⟩
  · have e1 : (ph == 3) = false := by simpa using h1
    by_cases h2 : mv < v
    · have H1 := hide h1
      clear h1
      go_enter Tryz.func107, Tryz.ntmps107
      go_wp2
      rw [← hW]
      go_ret
      exact ⟨ret_int (by unfold follI; rw [if_pos (.inr h2)]), LB.out⟩
    · by_cases h3 : v < mv
      · have H1 := hide h1
        clear h1
        go_enter Tryz.func107, Tryz.ntmps107
        go_wp2
        rw [← hW]
        go_ret
        exact ⟨ret_int (by unfold follI; rw [if_neg (by have := H1.out; omega), if_pos h3]), LB.out⟩
      · by_cases h4 : ph = 1
        · subst h4
          clear h1
          go_enter Tryz.func107, Tryz.ntmps107
          go_wp2
          rw [← hW]
          go_ret
          exact ⟨ret_int (by unfold follI; rw [if_neg (by omega), if_neg (by omega), if_pos rfl]), LB.out⟩
        · have e4 : (ph == 1) = false := by simpa using h4
          by_cases h5 : ph = 2
          · subst h5
            clear h1 h4 e4
            go_enter Tryz.func107, Tryz.ntmps107
            go_wp2
            rw [← hW]
            go_ret
            exact ⟨ret_int (by unfold follI; rw [if_neg (by omega), if_neg (by omega), if_neg (by omega), if_pos rfl]), LB.out⟩
          · have e5 : (ph == 2) = false := by simpa using h5
            have H1 := hide h1
            have H4 := hide h4
            have H5 := hide h5
            clear h1 h4 h5
            go_enter Tryz.func107, Tryz.ntmps107
            go_wp2
            rw [← hW]
            go_ret
            exact ⟨ret_int (by unfold follI; rw [if_neg (by have := H1.out; omega), if_neg (by omega), if_neg H4.out, if_neg H5.out]), LB.out⟩

section
variable {col : Nat → Nat} {q B r g : Nat} {w : World} {p : RepP} {x : RepD}
set_option maxHeartbeats 4000000 in
set_option maxRecDepth 100000 in
theorem send_any {F : Nat → Prop} {m : MsgD} {s o i : Value} (h : RepAt col q B w r p x g) (to : Int) (hm : Lists F w m s o i) (hl : m.lightN 200) :
    Calls Tryz.prog 161 #[.pointer (some ⟨p.s, 0, none⟩), .int .i64 to, .agg (m.cells s o i).toArray] w (Sent [signM x to m] w) := by
  obtain ⟨i0, hi, hz0, hz1, hz2⟩ := info_parts Tryz.infoMsg
  obtain ⟨k1, k2, k3⟩ := hm.cell
  have LB : Hid (Later w (w.alloc (.cells (m.cells s o i).toArray 42 (0, 0)))) := (Below.refl _ _).alloc (Nat.le_refl _) _
  have XB : Hid ((w.alloc (.cells (m.cells s o i).toArray 42 (0, 0))).heap[w.heap.size]? = some (.cells (m.cells s o i).toArray 42 (0, 0))) := heap_alloc_new _ _
  have CS := hide (signed_any (h.later LB.out) to (hm.kept (Kept.of_below LB.out _)) hl)
  clear h hm hl
  unfold MsgD.cells at CS ⊢
  go_enter Tryz.func161, Tryz.ntmps161
  go_wp2_with (refine wpList_load_box (by rfl) 42 _ (by rfl) (w.heap.size) 0 (by rfl) 42 _ (XB.out) 34 _ Tryz.underlying42 (by rfl) (by kernel_rfl) (m.cells s o i) (by rfl) (by rfl) ?_)
  refine CS.out.mono ?_
  rintro e w4 ⟨s4, o4, i4, ps4, rfl, hf4, hb4⟩
  have hlist : Lists (fun b => w.heap.size < b ∧ b < w4.heap.size) w4 (signM x to m) s4 o4 i4 := Lists.mono (F := ((w.alloc (.cells (m.cells s o i).toArray 42 (0, 0))).heap.size ≤ ·)) ⟨hf4.1, ⟨ps4, hf4.2.2.1, hf4.2.1⟩, hf4.2.2.2.1⟩ (fun b hb hf => ⟨by simp at hf; omega, hb⟩)
  have L4 : Hid (Later w w4) := LB.out.trans hb4
  obtain ⟨j1, j2, j3⟩ := hlist.cell
  have HL := hide hlist
  clear hf4 hb4 CS hlist
  go_wp2_with (refine wpList_buildSlice_one (by rfl) 57 42 _ (by rfl) i0 _ 34 Tryz.underlying57 hi hz0 hz1 (by decide) (by decide) (((signM x to m).cells s4 o4 i4).toArray) (by rfl) (by rfl) ?_)
  go_ret
  have hnew : (w4.alloc (.cells ((signM x to m).cells s4 o4 i4).toArray 42 (0, 0))).heap[w4.heap.size]? = some (.cells ((signM x to m).cells s4 o4 i4).toArray 42 (0, 0)) := heap_alloc_new _ _
  have LA : Later w4 (w4.alloc (.cells ((signM x to m).cells s4 o4 i4).toArray 42 (0, 0))) := (Below.refl _ _).alloc (Nat.le_refl _) _
  have hsz := Below.size L4.out
  refine ⟨_, [⟨signM x to m, s4, o4, i4⟩], rfl, ⟨⟨rfl, .inr ⟨w4.heap.size, 1, _, rfl, hsz, hnew, Nat.le_refl _, by decide, rfl, rfl⟩⟩, fun y hy => ?_⟩, rfl, L4.out.trans LA⟩
  obtain rfl : y = _ := List.mem_singleton.1 hy
  exact (HL.out.mono fun b hb hf => ⟨Nat.le_of_lt hf.1, fun e => by have e : b = w4.heap.size := Option.some.inj e; have := hf.2; omega⟩).kept (Kept.of_below LA _)
end
end Go.Proofs.YtaiegmhlgjogmaaGreat
/- A node hears of its leader that an operation is to be prepared. -/
namespace Go.Proofs.YtaiegmhlgjogmaaGreat
open Go.RowKit Go.Maps

section
variable {col : Nat → Nat} {q B r g : Nat} {w : World} {p : RepP} {x : RepD}
def okM (x : RepD) : MsgD := { MsgD.zero with kind := 4, view := x.view, num := (x.log.length : Int) }
def takeR (x : RepD) (m : MsgD) : RepD := if m.num = (x.log.length : Int) + 1 then addLog x m.op else x
def commitR (x : RepD) (n : Int) : RepD := { x with com := Ol.comTo x.com x.log.length n }
theorem takeR_ok (ok : x.OK g) (m : MsgD) : (takeR x m).OK g := by
  unfold takeR
  split
  · exact addLog_ok ok _
  · exact ok
theorem com_up (c len : Nat) (n : Int) : c ≤ Ol.comTo c len n := by
  unfold Ol.comTo
  omega
theorem commitR_ok (ok : x.OK g) (n : Int) : (commitR x n).OK g :=
  ⟨ok.id, ok.n, ok.view, ok.last, ok.nonce, ok.incs, Nat.le_trans ok.taken (com_up _ _ _), ok.now, ok.names, ok.later, ok.keys, ok.rise, ok.acks⟩
/-- Its log commits. -/
theorem rep_commit (h : RepAt col q B w r p x g) (n : Int) :
    Calls Tryz.prog 145 #[.pointer (some ⟨p.l, 0, none⟩), .int .i64 n] w fun e w' => (∃ v, e = .returned v) ∧ ∃ col', Since q B w col col' w' r p (commitR x n) g := by
  refine (Ol.lg_commit n h.log).mono fun e w' ⟨⟨v, _, he, _⟩, hl, ht⟩ => ⟨⟨v, he⟩, ?_⟩
  exact h.logs (c' := Ol.comTo x.com x.log.length n) hl ht (fun i hi => .inl hi) (commitR_ok h.ok n)

set_option maxHeartbeats 4000000 in
set_option maxRecDepth 100000 in
theorem sendok_any (h : RepAt col q B w r p x g) (to : Int) :
    Calls Tryz.prog 160 #[.pointer (some ⟨p.s, 0, none⟩), .int .i64 to] w (Sent [signM x to (okM x)] w) := by
  have H := hide h
  have HF : Hid (∀ w', Later w w' → w'.cell? ⟨p.s, 3, none⟩ = some (.int .i64 x.view) ∧ w'.cell? ⟨p.s, 7, none⟩ = some (.pointer (some ⟨p.l, 0, none⟩))) := fun w' hl => ⟨(H.out.later hl).cell (k := 3) rfl, (H.out.later hl).cell (k := 7) rfl⟩
  have CL := hide (fun w' (hl : Later w w') => Ol.lg_last (H.out.later hl).log)
  have CT := hide (fun w' (hl : Later w w') => send_any (m := okM x) (H.out.later hl) to (nil_lists w' rfl rfl rfl) (nil_light rfl rfl))
  simp only [MsgD.cells, okM, MsgD.zero, OpD.zero] at CT
  have D0 : Hid (Later w w.drew) := (Below.refl _ _).drew
  clear h
  go_enter Tryz.func160, Tryz.ntmps160
  go_wp2
  refine wp_region_L (by kernel_rfl) ?_
  refine wpAnyL_take (i := 0) (d := some 5) (v := ?vaa0) rfl rfl (by kernel_rfl) (by kernel_rfl) (by kernel_rfl) (fun _ _ _ h => h) (by rfl) ?yaa0 ?_
  case yaa0 => (intro w' hw'; go_simp; try (with_reducible rfl))
  simp only [Act.put]; try simp only [List.setIfInBounds_toArray]; try simp only [List.set_cons_zero, List.set_cons_succ]
  refine wpAnyL_take (i := 1) (d := some 6) (v := ?vaa1) rfl rfl (by kernel_rfl) (by kernel_rfl) (by kernel_rfl) (fun _ _ _ h => h) (by rfl) ?yaa1 ?_
  case yaa1 => (intro w' hw'; go_simp; try (with_reducible rfl))
  simp only [Act.put]; try simp only [List.setIfInBounds_toArray]; try simp only [List.set_cons_zero, List.set_cons_succ]
  refine wpAnyL_take (i := 2) (d := some 7) (v := ?vaa2) rfl rfl (by kernel_rfl) (by kernel_rfl) (by kernel_rfl) (fun _ _ _ h => h) (by rfl) ?yaa2 ?_
  case yaa2 => (intro w' hw'; go_simp; try (with_reducible rfl))
  simp only [Act.put]; try simp only [List.setIfInBounds_toArray]; try simp only [List.set_cons_zero, List.set_cons_succ]
  refine wpAnyL_take (i := 3) (d := some 8) (v := ?vaa3) rfl rfl (by kernel_rfl) (by kernel_rfl) (by kernel_rfl) (fun _ _ _ h => h) (by rfl) ?yaa3 ?_
  case yaa3 => (intro w' hw'; go_simp; try (with_reducible rfl))
  simp only [Act.put]; try simp only [List.setIfInBounds_toArray]; try simp only [List.set_cons_zero, List.set_cons_succ]
  refine wpAnyL_take (i := 4) (d := some 9) (v := ?vaa4) rfl rfl (by kernel_rfl) (by kernel_rfl) (by kernel_rfl) (fun _ _ _ h => h) (by rfl) ?yaa4 ?_
  case yaa4 => (intro w' hw'; go_simp; try (with_reducible rfl))
  simp only [Act.put]; try simp only [List.setIfInBounds_toArray]; try simp only [List.set_cons_zero, List.set_cons_succ]
  refine wpAnyL_take (i := 5) (d := some 10) (v := ?vaa5) rfl rfl (by kernel_rfl) (by kernel_rfl) (by kernel_rfl) (fun _ _ _ h => h) (by rfl) ?yaa5 ?_
  case yaa5 => (intro w' hw'; go_simp; try (with_reducible rfl))
  simp only [Act.put]; try simp only [List.setIfInBounds_toArray]; try simp only [List.set_cons_zero, List.set_cons_succ]
  refine wpAnyL_take (i := 6) (d := some 11) (v := ?vaa6) rfl rfl (by kernel_rfl) (by kernel_rfl) (by kernel_rfl) (fun _ _ _ h => h) (by rfl) ?yaa6 ?_
  case yaa6 => (intro w' hw'; have hq := (HF.out w' (D0.out.trans hw')).1; go_simp; try (with_reducible rfl))
  simp only [Act.put]; try simp only [List.setIfInBounds_toArray]; try simp only [List.set_cons_zero, List.set_cons_succ]
  refine wpAnyL_take (i := 7) (d := some 12) (v := ?vaa7) rfl rfl (by kernel_rfl) (by kernel_rfl) (by kernel_rfl) (fun _ _ _ h => h) (by rfl) ?yaa7 ?_
  case yaa7 => (intro w' hw'; go_simp; try (with_reducible rfl))
  simp only [Act.put]; try simp only [List.setIfInBounds_toArray]; try simp only [List.set_cons_zero, List.set_cons_succ]
  refine wpAnyL_take (i := 8) (d := some 13) (v := ?vaa8) rfl rfl (by kernel_rfl) (by kernel_rfl) (by kernel_rfl) (fun _ _ _ h => h) (by rfl) ?yaa8 ?_
  case yaa8 => (intro w' hw'; go_simp; try (with_reducible rfl))
  simp only [Act.put]; try simp only [List.setIfInBounds_toArray]; try simp only [List.set_cons_zero, List.set_cons_succ]
  refine wpAnyL_take (i := 9) (d := some 14) (v := ?vaa9) rfl rfl (by kernel_rfl) (by kernel_rfl) (by kernel_rfl) (fun _ _ _ h => h) (by rfl) ?yaa9 ?_
  case yaa9 => (intro w' hw'; go_simp; try (with_reducible rfl))
  simp only [Act.put]; try simp only [List.setIfInBounds_toArray]; try simp only [List.set_cons_zero, List.set_cons_succ]
  refine wpAnyL_take (i := 10) (d := some 15) (v := .pointer (some ⟨p.l, 0, none⟩)) rfl rfl (by kernel_rfl) (by kernel_rfl) (by kernel_rfl) (fun _ _ _ h => h) (by rfl) ?yaa10 ?_
  case yaa10 => (intro w' hw'; have hq := (HF.out w' (D0.out.trans hw')).2; go_simp; try (with_reducible rfl))
  simp only [Act.put]; try simp only [List.setIfInBounds_toArray]; try simp only [List.set_cons_zero, List.set_cons_succ]
  refine wpAnyL_only (i := 11) rfl (by kernel_rfl) (by rfl) fun K hK => ?_
  go_simp
  refine (CL.out _ D0.out).mono ?_
  rintro e v1 ⟨rfl, rfl⟩
  refine hK.out _ _ (Below.refl _ _) ?_
  clear hK K
  try (simp only [Act.put]; try simp only [List.setIfInBounds_toArray]; try simp only [List.set_cons_zero, List.set_cons_succ])
  refine wpAnyL_take (i := 12) (d := some 17) (v := ?vaa12) rfl rfl (by kernel_rfl) (by kernel_rfl) (by kernel_rfl) (fun _ _ _ h => h) (by rfl) ?yaa12 ?_
  case yaa12 => (intro w' hw'; go_simp; try (with_reducible rfl))
  simp only [Act.put]; try simp only [List.setIfInBounds_toArray]; try simp only [List.set_cons_zero, List.set_cons_succ]
  refine wpAnyL_only (i := 13) rfl (by kernel_rfl) (by rfl) fun K hK => ?_
  go_simp
  refine (CT.out _ D0.out).mono ?_
  rintro e w5 ⟨u, ps, rfl, hrow, hps, hl⟩
  have HROW := hide hrow
  have HPS := hide hps
  have HL := hide hl
  obtain ⟨A, n, c, rfl⟩ : ∃ A n c, u = .slice A n c := by
    obtain ⟨_, _, A, c, e, _⟩ := hrow.msgs.1
    exact ⟨A, _, c, e⟩
  clear hrow hps hl CT
  refine hK.out _ _ HL.out ?_
  clear hK K
  try (simp only [Act.put]; try simp only [List.setIfInBounds_toArray]; try simp only [List.set_cons_zero, List.set_cons_succ])
  refine wpAnyL_take (i := 14) (d := some 4) (v := ?vaa14) rfl rfl (by kernel_rfl) (by kernel_rfl) (by kernel_rfl) (fun _ _ _ h => h) (by rfl) ?yaa14 ?_
  case yaa14 => (intro w' hw'; go_simp; try (with_reducible rfl))
  simp only [Act.put]; try simp only [List.setIfInBounds_toArray]; try simp only [List.set_cons_zero, List.set_cons_succ]
  refine wpAnyL_done (by kernel_rfl) ?_ _
  go_wp2
  go_ret
  exact ⟨_, ps, rfl, HROW.out.lower (Below.size D0.out), HPS.out, D0.out.trans HL.out⟩

set_option maxHeartbeats 4000000 in
set_option maxRecDepth 100000 in
theorem take_any {bm bs : Nat} {m : MsgD} {s o i : Value} (h : RepAt col q B w r p x g) (hm : w.heap[bm]? = some (.cells (m.cells s o i).toArray 42 (0, 0))) (hs : w.heap[bs]? = some (.cells #[.pointer (some ⟨p.s, 0, none⟩)] 68 (0, 0)))
    (hst : StepsAt (fun i => col i = 0) w s m.op.steps) (hlt : m.op.steps.length ≤ 200) :
    Calls Tryz.prog 142 #[.pointer (some ⟨bm, 0, none⟩), .pointer (some ⟨bs, 0, none⟩)] w fun e w' => e = .returned (.tuple #[]) ∧ ∃ col', Since q B w col col' w' r p (takeR x m) g := by
  have hlen := h.log.len
  have H := hide h
  have HM := hide hm
  have HS := hide hs
  have HF : Hid (∀ w', Later w w' → w'.cell? ⟨bm, 5, none⟩ = some (.int .i64 m.num) ∧ w'.cell? ⟨bs, 0, none⟩ = some (.pointer (some ⟨p.s, 0, none⟩)) ∧ w'.cell? ⟨p.s, 7, none⟩ = some (.pointer (some ⟨p.l, 0, none⟩))) := fun w' hl =>
    ⟨box_cell ((hl.block _ (lt_of_block HM.out)).trans HM.out) 5 _ (by rfl), cell_of_row w' bs 0 _ _ _ ((hl.block _ (lt_of_block HS.out)).trans HS.out), (H.out.later hl).cell (k := 7) rfl⟩
  have CL := hide (fun w' (hl : Later w w') => Ol.lg_last (H.out.later hl).log)
  have CA := hide (fun w' (hl : Later w w') => Ol.lg_add m.op s (H.out.later hl).log (hst.kept (Kept.of_below hl _)) (by omega))
  unfold OpD.cells at CA
  have D0 : Hid (Later w w.drew) := (Below.refl _ _).drew
  have hw : IntKind.i64.wrap ((x.log.length : Int) + 1) = (x.log.length : Int) + 1 := IntWalk.i64_in _ (by omega)
  obtain ⟨t, ht⟩ : ∃ t, (m.num == (x.log.length : Int) + 1) = t := ⟨_, rfl⟩
  have HT := hide ht
  clear h hm hs hst
  go_enter Tryz.func142, Tryz.ntmps142
  go_wp2
  refine wp_region_L (by kernel_rfl) ?_
  refine wpAnyL_take (i := 0) (d := some 2) (v := ?vab0) rfl rfl (by kernel_rfl) (by kernel_rfl) (by kernel_rfl) (fun _ _ _ h => h) (by rfl) ?yab0 ?_
  case yab0 => (intro w' hw'; go_simp; try (with_reducible rfl))
  simp only [Act.put]; try simp only [List.setIfInBounds_toArray]; try simp only [List.set_cons_zero, List.set_cons_succ]
  refine wpAnyL_take (i := 1) (d := some 3) (v := ?vab1) rfl rfl (by kernel_rfl) (by kernel_rfl) (by kernel_rfl) (fun _ _ _ h => h) (by rfl) ?yab1 ?_
  case yab1 => (intro w' hw'; have hq := (HF.out w' (D0.out.trans hw')).1; go_simp; try (with_reducible rfl))
  simp only [Act.put]; try simp only [List.setIfInBounds_toArray]; try simp only [List.set_cons_zero, List.set_cons_succ]
  refine wpAnyL_take (i := 2) (d := some 4) (v := .pointer (some ⟨p.s, 0, none⟩)) rfl rfl (by kernel_rfl) (by kernel_rfl) (by kernel_rfl) (fun _ _ _ h => h) (by rfl) ?yab2 ?_
  case yab2 => (intro w' hw'; have hq := (HF.out w' (D0.out.trans hw')).2.1; go_simp; try (with_reducible rfl))
  simp only [Act.put]; try simp only [List.setIfInBounds_toArray]; try simp only [List.set_cons_zero, List.set_cons_succ]
  refine wpAnyL_take (i := 3) (d := some 5) (v := ?vab3) rfl rfl (by kernel_rfl) (by kernel_rfl) (by kernel_rfl) (fun _ _ _ h => h) (by rfl) ?yab3 ?_
  case yab3 => (intro w' hw'; go_simp; try (with_reducible rfl))
  simp only [Act.put]; try simp only [List.setIfInBounds_toArray]; try simp only [List.set_cons_zero, List.set_cons_succ]
  refine wpAnyL_take (i := 4) (d := some 6) (v := ?vab4) rfl rfl (by kernel_rfl) (by kernel_rfl) (by kernel_rfl) (fun _ _ _ h => h) (by rfl) ?yab4 ?_
  case yab4 => (intro w' hw'; go_simp; try (with_reducible rfl))
  simp only [Act.put]; try simp only [List.setIfInBounds_toArray]; try simp only [List.set_cons_zero, List.set_cons_succ]
  refine wpAnyL_take (i := 5) (d := some 7) (v := .pointer (some ⟨p.l, 0, none⟩)) rfl rfl (by kernel_rfl) (by kernel_rfl) (by kernel_rfl) (fun _ _ _ h => h) (by rfl) ?yab5 ?_
  case yab5 => (intro w' hw'; have hq := (HF.out w' (D0.out.trans hw')).2.2; go_simp; try (with_reducible rfl))
  simp only [Act.put]; try simp only [List.setIfInBounds_toArray]; try simp only [List.set_cons_zero, List.set_cons_succ]
  refine wpAnyL_only (i := 6) rfl (by kernel_rfl) (by rfl) fun K hK => ?_
  go_simp
  refine (CL.out _ D0.out).mono ?_
  rintro e v1 ⟨rfl, rfl⟩
  refine hK.out _ _ (Below.refl _ _) ?_
  clear hK K
  try (simp only [Act.put]; try simp only [List.setIfInBounds_toArray]; try simp only [List.set_cons_zero, List.set_cons_succ])
  refine wpAnyL_take (i := 7) (d := some 9) (v := ?vab7) rfl rfl (by kernel_rfl) (by kernel_rfl) (by kernel_rfl) (fun _ _ _ h => h) (by rfl) ?yab7 ?_
  case yab7 => (intro w' hw'; go_simp; try (with_reducible rfl))
  simp only [Act.put]; try simp only [List.setIfInBounds_toArray]; try simp only [List.set_cons_zero, List.set_cons_succ]
  refine wpAnyL_take (i := 8) (d := some 10) (v := .bool t) rfl rfl (by kernel_rfl) (by kernel_rfl) (by kernel_rfl) (fun _ _ _ h => h) (by rfl) ?yab8 ?_
  case yab8 => (intro w' hw'; go_simp; try (with_reducible rfl))
  simp only [Act.put]; try simp only [List.setIfInBounds_toArray]; try simp only [List.set_cons_zero, List.set_cons_succ]
  refine wpAnyL_done (by kernel_rfl) ?_ _
  cases t with
  | false =>
    have hR : takeR x m = x := by
      unfold takeR
      rw [if_neg (by have := HT.out; simpa using this)]
    have HR := hide hR
    clear hR
    go_wp2
    go_end0
    exact ⟨rfl, col, by rw [HR.out]; exact (Since.refl H.out).later D0.out⟩
  | true =>
    have hR : takeR x m = addLog x m.op := by
      unfold takeR
      rw [if_pos (by have := HT.out; simpa using this)]
    have HR := hide hR
    have D1 : Hid (Later w w.drew.drew) := D0.out.trans (Later.drew _)
    clear hR
    go_wp2
    refine wp_region_S (fun j => j == 6) (by kernel_rfl) ?_
    refine wpAnyS_take (i := 0) (d := some 11) (v := .pointer (some ⟨p.s, 0, none⟩)) rfl rfl (by kernel_rfl) (by kernel_rfl) (by kernel_rfl) (by kernel_rfl) (by kernel_rfl) (fun _ _ _ h => h) (by rfl) ?yac0 ?_
    case yac0 => (intro w' hw'; have hq := (HF.out w' (D1.out.trans hw')).2.1; go_simp; try (with_reducible rfl))
    simp only [Act.put]; try simp only [List.setIfInBounds_toArray]; try simp only [List.set_cons_zero, List.set_cons_succ]
    refine wpAnyS_take (i := 1) (d := some 12) (v := ?vac1) rfl rfl (by kernel_rfl) (by kernel_rfl) (by kernel_rfl) (by kernel_rfl) (by kernel_rfl) (fun _ _ _ h => h) (by rfl) ?yac1 ?_
    case yac1 => (intro w' hw'; go_simp; try (with_reducible rfl))
    simp only [Act.put]; try simp only [List.setIfInBounds_toArray]; try simp only [List.set_cons_zero, List.set_cons_succ]
    refine wpAnyS_take (i := 2) (d := some 13) (v := ?vac2) rfl rfl (by kernel_rfl) (by kernel_rfl) (by kernel_rfl) (by kernel_rfl) (by kernel_rfl) (fun _ _ _ h => h) (by rfl) ?yac2 ?_
    case yac2 => (intro w' hw'; go_simp; try (with_reducible rfl))
    simp only [Act.put]; try simp only [List.setIfInBounds_toArray]; try simp only [List.set_cons_zero, List.set_cons_succ]
    refine wpAnyS_take (i := 3) (d := some 14) (v := .pointer (some ⟨p.l, 0, none⟩)) rfl rfl (by kernel_rfl) (by kernel_rfl) (by kernel_rfl) (by kernel_rfl) (by kernel_rfl) (fun _ _ _ h => h) (by rfl) ?yac3 ?_
    case yac3 => (intro w' hw'; have hq := (HF.out w' (D1.out.trans hw')).2.2; go_simp; try (with_reducible rfl))
    simp only [Act.put]; try simp only [List.setIfInBounds_toArray]; try simp only [List.set_cons_zero, List.set_cons_succ]
    refine wpAnyS_take (i := 4) (d := some 15) (v := ?vac4) rfl rfl (by kernel_rfl) (by kernel_rfl) (by kernel_rfl) (by kernel_rfl) (by kernel_rfl) (fun _ _ _ h => h) (by rfl) ?yac4 ?_
    case yac4 => (intro w' hw'; go_simp; try (with_reducible rfl))
    simp only [Act.put]; try simp only [List.setIfInBounds_toArray]; try simp only [List.set_cons_zero, List.set_cons_succ]
    refine wpAnyS_take (i := 5) (d := some 16) (v := .agg #[.int .i64 m.op.kind, .int .i64 m.op.client, .int .i64 m.op.request, .string m.op.name, s, .int .i64 m.op.saga, .int .i64 m.op.step, .int .i64 m.op.try_, .bool m.op.back, .bool m.op.good]) rfl rfl (by kernel_rfl) (by kernel_rfl) (by kernel_rfl) (by kernel_rfl) (by kernel_rfl) (fun _ _ _ h => h) (by rfl) ?yac5 ?_
    case yac5 => (intro w' hw'; exact exec_load_box 33 _ (by rfl) bm 12 (by rfl) 42 _ ((Below.block (D1.out.trans hw') bm (lt_of_block HM.out)).trans HM.out) 10 _ Tryz.underlying33 (by rfl) (by kernel_rfl) (m.op.cells s) (by rfl) (by rfl))
    simp only [Act.put]; try simp only [List.setIfInBounds_toArray]; try simp only [List.set_cons_zero, List.set_cons_succ]
    refine wpAnyS_write (i := 6) rfl rfl (by kernel_rfl) (by rfl) fun K hK => ?_
    go_simp
    refine (CA.out _ D1.out).mono ?_
    rintro e w3 ⟨rfl, hn⟩
    have HN := hide hn
    clear hn
    refine hK.out _ _ ?_
    clear hK K
    try (simp only [Act.put]; try simp only [List.setIfInBounds_toArray]; try simp only [List.set_cons_zero, List.set_cons_succ])
    refine wpAnyS_done (by kernel_rfl) ?_ _
    go_wp2
    go_end0
    obtain ⟨S', hlg, hS', htu⟩ := HN.out
    obtain ⟨c3, hs3⟩ := (H.out.later D1.out).logs (L' := (Ol.addR x.log m.op).1) hlg htu hS' (addLog_ok H.out.ok m.op)
    exact ⟨rfl, c3, by rw [HR.out]; exact ((Since.refl H.out).later D1.out).next hs3⟩
end
end Go.Proofs.YtaiegmhlgjogmaaGreat
/- A node hears of its leader; of an operation that is to be prepared. -/
namespace Go.Proofs.YtaiegmhlgjogmaaGreat
open Go.RowKit Go.Maps

section
variable {col : Nat → Nat} {q B r g : Nat} {w : World} {p : RepP} {x : RepD}
theorem sleader_any (h : RepAt col q B w r p x g) (v : Int) :
    Calls Tryz.prog 154 #[.pointer (some ⟨p.s, 0, none⟩), .int .i64 v] w fun e w' => e = .returned (.int .i64 (leadI v x.n)) ∧ w = w' := by
  have c1 : w.cell? ⟨p.s, 1, none⟩ = some (.int .i64 x.n) := h.cell (k := 1) rfl
  have C := hide (leader_any v x.n)
  clear h
  go_enter Tryz.func154, Tryz.ntmps154
  go_wp2_with (fail)
  refine (C.out w).mono ?_
  rintro e w1 ⟨rfl, rfl⟩
  go_wp2
  go_ret
  exact ⟨rfl, rfl⟩
def ledR (x : RepD) (m : MsgD) : RepD := commitR (takeR (setT x 2) m) m.commit
/-- What a block of no colour holds, behind calls that turn the node. -/
theorem Since.white {c1 : Nat → Nat} {w1 : World} {x1 : RepD} {g1 : Nat} (h : Since q B w col c1 w1 r p x1 g1) {j : Nat} {ob : Obj} (hj : w.heap[j]? = some ob) (hc : col j = 0) : w1.heap[j]? = some ob :=
  (h.turned.block j (Array.getElem?_eq_some_iff.1 hj).1 (fun e => by unfold hues at e; omega)).trans hj

set_option maxHeartbeats 8000000 in
set_option maxRecDepth 100000 in
theorem hearled_any {m : MsgD} {s o i : Value} {fn : Nat} {lb : Array Value} (h : RepAt col q B w r p x g) (hm : Lists (fun i => col i = 0) w m s o i) (hlead : leadI m.view x.n = m.src) (hE : EntersF fn)
    (hcl : ∀ (W : World) (c1 : Nat → Nat) (x1 : RepD) (g1 : Nat), Since q B w col c1 W r p x1 g1 → Calls Tryz.prog fn lb W fun e W' => e = .returned (.tuple #[]) ∧ ∃ c2, Since q B W c1 c2 W' r p (takeR x1 m) g1)
    (hnum : m.num ≤ ((takeR (setT x 2) m).log.length : Int)) (hg : g ≤ 800000) :
    Calls Tryz.prog 141 #[.pointer (some ⟨p.s, 0, none⟩), .agg (m.cells s o i).toArray, .int .i64 1, .func (.func fn) #[] lb] w fun e w' => ∃ col', Since q B w col col' w' r p (ledR x m) (g + 1) ∧ SentC col' [signM (ledR x m) m.src (okM (ledR x m))] w e w' := by
  obtain ⟨k1, k2, k3⟩ := hm.cell
  obtain ⟨W, hW⟩ : ∃ W, W = w.alloc (.cells (m.cells s o i).toArray 42 (0, 0)) := ⟨_, rfl⟩
  have LB : Hid (Later w W) := by rw [hW]; exact (Below.refl _ _).alloc (Nat.le_refl _) _
  have XB : Hid (W.heap[w.heap.size]? = some (.cells (m.cells s o i).toArray 42 (0, 0))) := by rw [hW]; exact heap_alloc_new _ _
  have hcw : col w.heap.size = 0 := h.fresh _ (Nat.le_refl _)
  have HCW := hide hcw
  have H := hide h
  have HR := hide (h.later LB.out)
  have HCL := hide hcl
  have HNUM := hide hnum
  have HX : Hid (∀ w', Later W w' → w'.cell? ⟨w.heap.size, 3, none⟩ = some (.int .i64 m.view) ∧ w'.cell? ⟨w.heap.size, 1, none⟩ = some (.int .i64 m.src)) := fun w' hl => ⟨box_cell ((hl.block _ (lt_of_block XB.out)).trans XB.out) 3 _ (by rfl), box_cell ((hl.block _ (lt_of_block XB.out)).trans XB.out) 1 _ (by rfl)⟩
  have CL := hide (fun w' (hl : Later W w') => sleader_any (HR.out.later hl) m.view)
  rw [hlead] at CL
  have D0 : Hid (Later W W.drew) := (Below.refl _ _).drew
  unfold EntersF at hE
  unfold MsgD.cells at hW ⊢
  clear h hm hlead hcl hnum hcw
  go_enter Tryz.func141, Tryz.ntmps141
  go_wp2
  rw [← hW]
  clear hW
  refine wp_region_L (by kernel_rfl) ?_
  refine wpAnyL_take (i := 0) (d := some 14) (v := ?vaa0) rfl rfl (by kernel_rfl) (by kernel_rfl) (by kernel_rfl) (fun _ _ _ h => h) (by rfl) ?yaa0 ?_
  case yaa0 => (intro w' hw'; go_simp; try (with_reducible rfl))
  simp only [Act.put]; try simp only [List.setIfInBounds_toArray]; try simp only [List.set_cons_zero, List.set_cons_succ]
  refine wpAnyL_take (i := 1) (d := some 15) (v := ?vaa1) rfl rfl (by kernel_rfl) (by kernel_rfl) (by kernel_rfl) (fun _ _ _ h => h) (by rfl) ?yaa1 ?_
  case yaa1 => (intro w' hw'; go_simp; try (with_reducible rfl))
  simp only [Act.put]; try simp only [List.setIfInBounds_toArray]; try simp only [List.set_cons_zero, List.set_cons_succ]
  refine wpAnyL_take (i := 2) (d := some 16) (v := ?vaa2) rfl rfl (by kernel_rfl) (by kernel_rfl) (by kernel_rfl) (fun _ _ _ h => h) (by rfl) ?yaa2 ?_
  case yaa2 => (intro w' hw'; go_simp; try (with_reducible rfl))
  simp only [Act.put]; try simp only [List.setIfInBounds_toArray]; try simp only [List.set_cons_zero, List.set_cons_succ]
  refine wpAnyL_take (i := 3) (d := some 17) (v := ?vaa3) rfl rfl (by kernel_rfl) (by kernel_rfl) (by kernel_rfl) (fun _ _ _ h => h) (by rfl) ?yaa3 ?_
  case yaa3 => (intro w' hw'; go_simp; try (with_reducible rfl))
  simp only [Act.put]; try simp only [List.setIfInBounds_toArray]; try simp only [List.set_cons_zero, List.set_cons_succ]
  refine wpAnyL_take (i := 4) (d := some 18) (v := ?vaa4) rfl rfl (by kernel_rfl) (by kernel_rfl) (by kernel_rfl) (fun _ _ _ h => h) (by rfl) ?yaa4 ?_
  case yaa4 => (intro w' hw'; go_simp; try (with_reducible rfl))
  simp only [Act.put]; try simp only [List.setIfInBounds_toArray]; try simp only [List.set_cons_zero, List.set_cons_succ]
  refine wpAnyL_take (i := 5) (d := some 19) (v := ?vaa5) rfl rfl (by kernel_rfl) (by kernel_rfl) (by kernel_rfl) (fun _ _ _ h => h) (by rfl) ?yaa5 ?_
  case yaa5 => (intro w' hw'; have hq := (HX.out w' (D0.out.trans hw')).1; go_simp; try (with_reducible rfl))
  simp only [Act.put]; try simp only [List.setIfInBounds_toArray]; try simp only [List.set_cons_zero, List.set_cons_succ]
  refine wpAnyL_take (i := 7) (d := some 21) (v := ?vaa7) rfl rfl (by kernel_rfl) (by kernel_rfl) (by kernel_rfl) (fun _ _ _ h => h) (by rfl) ?yaa7 ?_
  case yaa7 => (intro w' hw'; go_simp; try (with_reducible rfl))
  simp only [Act.put]; try simp only [List.setIfInBounds_toArray]; try simp only [List.set_cons_zero, List.set_cons_succ]
  refine wpAnyL_take (i := 8) (d := some 22) (v := ?vaa8) rfl rfl (by kernel_rfl) (by kernel_rfl) (by kernel_rfl) (fun _ _ _ h => h) (by rfl) ?yaa8 ?_
  case yaa8 => (intro w' hw'; have hq := (HX.out w' (D0.out.trans hw')).2; go_simp; try (with_reducible rfl))
  simp only [Act.put]; try simp only [List.setIfInBounds_toArray]; try simp only [List.set_cons_zero, List.set_cons_succ]
  refine wpAnyL_only (i := 6) rfl (by kernel_rfl) (by rfl) fun K hK => ?_
  go_simp
  refine (CL.out _ D0.out).mono ?_
  rintro e v1 ⟨rfl, rfl⟩
  refine hK.out _ _ (Below.refl _ _) ?_
  clear hK K
  try (simp only [Act.put]; try simp only [List.setIfInBounds_toArray]; try simp only [List.set_cons_zero, List.set_cons_succ])
  refine wpAnyL_take (i := 9) (d := some 23) (v := ?vaa9) rfl rfl (by kernel_rfl) (by kernel_rfl) (by kernel_rfl) (fun _ _ _ h => h) (by rfl) ?yaa9 ?_
  case yaa9 => (intro w' hw'; go_simp; try (with_reducible rfl))
  simp only [Act.put]; try simp only [List.setIfInBounds_toArray]; try simp only [List.set_cons_zero, List.set_cons_succ]
  refine wpAnyL_take (i := 10) (d := some 24) (v := ?vaa10) rfl rfl (by kernel_rfl) (by kernel_rfl) (by kernel_rfl) (fun _ _ _ h => h) (by rfl) ?yaa10 ?_
  case yaa10 => (intro w' hw'; go_simp; try (with_reducible rfl))
  simp only [Act.put]; try simp only [List.setIfInBounds_toArray]; try simp only [List.set_cons_zero, List.set_cons_succ]
  refine wpAnyL_done (by kernel_rfl) ?_ _
  have HR1 := hide (HR.out.later D0.out)
  have XB1 : Hid (W.drew.heap[w.heap.size]? = some (.cells (m.cells s o i).toArray 42 (0, 0))) := XB.out
  have L1 : Hid (Later w W.drew) := LB.out.trans D0.out
  have C2 := hide (set_any HR1.out 2 (by decide) (by decide) (by omega))
  clear CL HX HR
  go_wp2_with (fail)
  refine C2.out.mono ?_
  rintro e w2 ⟨rfl, c2, hs2⟩
  have HS2 := hide hs2
  have C3 := hide (HCL.out w2 c2 (setT x 2) (g + 1) (((Since.refl H.out).later L1.out).next hs2))
  clear hs2 C2
  go_wp2_with (fail)
  refine C3.out.mono ?_
  rintro e w3 ⟨rfl, c3, hs3⟩
  have HS3 := hide (HS2.out.next hs3)
  have X3 : Hid (w3.heap[w.heap.size]? = some (.cells (m.cells s o i).toArray 42 (0, 0))) := HS3.out.white XB1.out HCW.out
  have HF3 : Hid (∀ w', Later w3 w' → w'.cell? ⟨p.s, 7, none⟩ = some (.pointer (some ⟨p.l, 0, none⟩)) ∧ w'.cell? ⟨w.heap.size, 6, none⟩ = some (.int .i64 m.commit)) := fun w' hl => ⟨(HS3.out.rep.later hl).cell (k := 7) rfl, box_cell ((hl.block _ (lt_of_block X3.out)).trans X3.out) 6 _ (by rfl)⟩
  have CC := hide (fun w' (hl : Later w3 w') => rep_commit (HS3.out.rep.later hl) m.commit)
  have D3 : Hid (Later w3 w3.drew) := (Below.refl _ _).drew
  clear hs3 C3 HCL
  go_wp2
  refine wp_region_S (fun j => j == 6) (by kernel_rfl) ?_
  refine wpAnyS_take (i := 0) (d := some 29) (v := ?vab0) rfl rfl (by kernel_rfl) (by kernel_rfl) (by kernel_rfl) (by kernel_rfl) (by kernel_rfl) (fun _ _ _ h => h) (by rfl) ?yab0 ?_
  case yab0 => (intro w' hw'; go_simp; try (with_reducible rfl))
  simp only [Act.put]; try simp only [List.setIfInBounds_toArray]; try simp only [List.set_cons_zero, List.set_cons_succ]
  refine wpAnyS_take (i := 1) (d := some 30) (v := ?vab1) rfl rfl (by kernel_rfl) (by kernel_rfl) (by kernel_rfl) (by kernel_rfl) (by kernel_rfl) (fun _ _ _ h => h) (by rfl) ?yab1 ?_
  case yab1 => (intro w' hw'; go_simp; try (with_reducible rfl))
  simp only [Act.put]; try simp only [List.setIfInBounds_toArray]; try simp only [List.set_cons_zero, List.set_cons_succ]
  refine wpAnyS_take (i := 2) (d := some 31) (v := ?vab2) rfl rfl (by kernel_rfl) (by kernel_rfl) (by kernel_rfl) (by kernel_rfl) (by kernel_rfl) (fun _ _ _ h => h) (by rfl) ?yab2 ?_
  case yab2 => (intro w' hw'; go_simp; try (with_reducible rfl))
  simp only [Act.put]; try simp only [List.setIfInBounds_toArray]; try simp only [List.set_cons_zero, List.set_cons_succ]
  refine wpAnyS_take (i := 3) (d := some 32) (v := .pointer (some ⟨p.l, 0, none⟩)) rfl rfl (by kernel_rfl) (by kernel_rfl) (by kernel_rfl) (by kernel_rfl) (by kernel_rfl) (fun _ _ _ h => h) (by rfl) ?yab3 ?_
  case yab3 => (intro w' hw'; have hq := (HF3.out w' (D3.out.trans hw')).1; go_simp; try (with_reducible rfl))
  simp only [Act.put]; try simp only [List.setIfInBounds_toArray]; try simp only [List.set_cons_zero, List.set_cons_succ]
  refine wpAnyS_take (i := 4) (d := some 33) (v := ?vab4) rfl rfl (by kernel_rfl) (by kernel_rfl) (by kernel_rfl) (by kernel_rfl) (by kernel_rfl) (fun _ _ _ h => h) (by rfl) ?yab4 ?_
  case yab4 => (intro w' hw'; go_simp; try (with_reducible rfl))
  simp only [Act.put]; try simp only [List.setIfInBounds_toArray]; try simp only [List.set_cons_zero, List.set_cons_succ]
  refine wpAnyS_take (i := 5) (d := some 34) (v := ?vab5) rfl rfl (by kernel_rfl) (by kernel_rfl) (by kernel_rfl) (by kernel_rfl) (by kernel_rfl) (fun _ _ _ h => h) (by rfl) ?yab5 ?_
  case yab5 => (intro w' hw'; have hq := (HF3.out w' (D3.out.trans hw')).2; go_simp; try (with_reducible rfl))
  simp only [Act.put]; try simp only [List.setIfInBounds_toArray]; try simp only [List.set_cons_zero, List.set_cons_succ]
  refine wpAnyS_write (i := 6) rfl rfl (by kernel_rfl) (by rfl) fun K hK => ?_
  go_simp
  refine (CC.out _ D3.out).mono ?_
  rintro e w4 ⟨⟨v4, rfl⟩, c4, hn⟩
  have HN := hide hn
  clear hn
  refine hK.out _ _ ?_
  clear hK K
  try (simp only [Act.put]; try simp only [List.setIfInBounds_toArray]; try simp only [List.set_cons_zero, List.set_cons_succ])
  refine wpAnyS_done (by kernel_rfl) ?_ _
  have HS4 : Hid (Since q B W.drew col c4 w4 r p (ledR x m) (g + 1)) := (HS3.out.later D3.out).next HN.out
  have X4 : Hid (w4.heap[w.heap.size]? = some (.cells (m.cells s o i).toArray 42 (0, 0))) := HS4.out.white XB1.out HCW.out
  have HF4 : Hid (∀ w', Later w4 w' → w'.cell? ⟨p.s, 7, none⟩ = some (.pointer (some ⟨p.l, 0, none⟩)) ∧ w'.cell? ⟨w.heap.size, 5, none⟩ = some (.int .i64 m.num)) := fun w' hl => ⟨(HS4.out.rep.later hl).cell (k := 7) rfl, box_cell ((hl.block _ (lt_of_block X4.out)).trans X4.out) 5 _ (by rfl)⟩
  have CLa := hide (fun w' (hl : Later w4 w') => Ol.lg_last (HS4.out.rep.later hl).log)
  have hlen : (ledR x m).log.length = (takeR (setT x 2) m).log.length := rfl
  have hn : ¬ ((ledR x m).log.length : Int) < m.num := by rw [hlen]; have := HNUM.out; omega
  obtain ⟨len, hle⟩ : ∃ len, (ledR x m).log.length = len := ⟨_, rfl⟩
  rw [hle] at hn CLa
  have D4 : Hid (Later w4 w4.drew) := (Below.refl _ _).drew
  clear hlen hle HN X3 HF3 CC HNUM
  go_wp2
  refine wp_region_L (by kernel_rfl) ?_
  refine wpAnyL_take (i := 0) (d := some 36) (v := ?vac0) rfl rfl (by kernel_rfl) (by kernel_rfl) (by kernel_rfl) (fun _ _ _ h => h) (by rfl) ?yac0 ?_
  case yac0 => (intro w' hw'; go_simp; try (with_reducible rfl))
  simp only [Act.put]; try simp only [List.setIfInBounds_toArray]; try simp only [List.set_cons_zero, List.set_cons_succ]
  refine wpAnyL_take (i := 1) (d := some 37) (v := ?vac1) rfl rfl (by kernel_rfl) (by kernel_rfl) (by kernel_rfl) (fun _ _ _ h => h) (by rfl) ?yac1 ?_
  case yac1 => (intro w' hw'; have hq := (HF4.out w' (D4.out.trans hw')).2; go_simp; try (with_reducible rfl))
  simp only [Act.put]; try simp only [List.setIfInBounds_toArray]; try simp only [List.set_cons_zero, List.set_cons_succ]
  refine wpAnyL_take (i := 2) (d := some 38) (v := ?vac2) rfl rfl (by kernel_rfl) (by kernel_rfl) (by kernel_rfl) (fun _ _ _ h => h) (by rfl) ?yac2 ?_
  case yac2 => (intro w' hw'; go_simp; try (with_reducible rfl))
  simp only [Act.put]; try simp only [List.setIfInBounds_toArray]; try simp only [List.set_cons_zero, List.set_cons_succ]
  refine wpAnyL_take (i := 3) (d := some 39) (v := ?vac3) rfl rfl (by kernel_rfl) (by kernel_rfl) (by kernel_rfl) (fun _ _ _ h => h) (by rfl) ?yac3 ?_
  case yac3 => (intro w' hw'; go_simp; try (with_reducible rfl))
  simp only [Act.put]; try simp only [List.setIfInBounds_toArray]; try simp only [List.set_cons_zero, List.set_cons_succ]
  refine wpAnyL_take (i := 4) (d := some 40) (v := ?vac4) rfl rfl (by kernel_rfl) (by kernel_rfl) (by kernel_rfl) (fun _ _ _ h => h) (by rfl) ?yac4 ?_
  case yac4 => (intro w' hw'; go_simp; try (with_reducible rfl))
  simp only [Act.put]; try simp only [List.setIfInBounds_toArray]; try simp only [List.set_cons_zero, List.set_cons_succ]
  refine wpAnyL_take (i := 5) (d := some 41) (v := .pointer (some ⟨p.l, 0, none⟩)) rfl rfl (by kernel_rfl) (by kernel_rfl) (by kernel_rfl) (fun _ _ _ h => h) (by rfl) ?yac5 ?_
  case yac5 => (intro w' hw'; have hq := (HF4.out w' (D4.out.trans hw')).1; go_simp; try (with_reducible rfl))
  simp only [Act.put]; try simp only [List.setIfInBounds_toArray]; try simp only [List.set_cons_zero, List.set_cons_succ]
  refine wpAnyL_only (i := 6) rfl (by kernel_rfl) (by rfl) fun K hK => ?_
  go_simp
  refine (CLa.out _ D4.out).mono ?_
  rintro e v1 ⟨rfl, rfl⟩
  refine hK.out _ _ (Below.refl _ _) ?_
  clear hK K
  try (simp only [Act.put]; try simp only [List.setIfInBounds_toArray]; try simp only [List.set_cons_zero, List.set_cons_succ])
  refine wpAnyL_take (i := 7) (d := some 43) (v := ?vac7) rfl rfl (by kernel_rfl) (by kernel_rfl) (by kernel_rfl) (fun _ _ _ h => h) (by rfl) ?yac7 ?_
  case yac7 => (intro w' hw'; go_simp; try (with_reducible rfl))
  simp only [Act.put]; try simp only [List.setIfInBounds_toArray]; try simp only [List.set_cons_zero, List.set_cons_succ]
  refine wpAnyL_done (by kernel_rfl) ?_ _
  have HR5 := hide (HS4.out.rep.later D4.out)
  have b1 : w4.drew.cell? ⟨w.heap.size, 1, none⟩ = some (.int .i64 m.src) := box_cell (show w4.drew.heap[w.heap.size]? = _ from X4.out) 1 _ (by rfl)
  have CO := hide (sendok_any HR5.out m.src)
  clear CLa HF4
  go_wp2_with (fail)
  refine CO.out.mono ?_
  rintro e w5 ⟨u, ps, rfl, hrow, hps, hl⟩
  have HROW := hide hrow
  have HPS := hide hps
  have HL := hide hl
  obtain ⟨A, n, c, rfl⟩ : ∃ A n c, u = .slice A n c := by
    obtain ⟨_, _, A, c, e, _⟩ := hrow.msgs.1
    exact ⟨A, _, c, e⟩
  clear hrow hps hl CO b1
  go_wp2
  go_ret
  have HF : Since q B w col c4 w4.drew r p (ledR x m) (g + 1) := (((Since.refl H.out).later L1.out).next HS4.out).later D4.out
  exact ⟨c4, HF.later HL.out, _, ps, w4.drew.heap.size, rfl, HF.turned.size, HF.rep.fresh, HROW.out, HPS.out⟩

theorem enters_take : EntersF 142 := fun args w => by go_simp
set_option maxHeartbeats 4000000 in
set_option maxRecDepth 100000 in
theorem hearprep_any {m : MsgD} {s o i : Value} (h : RepAt col q B w r p x g) (hm : Lists (fun i => col i = 0) w m s o i) (hl : m.op.steps.length ≤ 200) (hlead : leadI m.view x.n = m.src) (hnum : m.num ≤ ((takeR (setT x 2) m).log.length : Int)) (hg : g ≤ 800000) :
    Calls Tryz.prog 108 #[.pointer (some ⟨p.s, 0, none⟩), .agg (m.cells s o i).toArray, .int .i64 1] w fun e w' => ∃ col', Since q B w col col' w' r p (ledR x m) (g + 1) ∧ SentC col' [signM (ledR x m) m.src (okM (ledR x m))] w e w' := by
  obtain ⟨k1, k2, k3⟩ := hm.cell
  obtain ⟨W, hW⟩ : ∃ W, W = (w.alloc (.cells #[.pointer (some ⟨p.s, 0, none⟩)] 68 (0, 0))).alloc (.cells (m.cells s o i).toArray 42 (0, 0)) := ⟨_, rfl⟩
  have LB : Hid (Later w W) := by rw [hW]; exact ((Below.refl _ _).alloc (Nat.le_refl _) _).alloc (by simp) _
  have XS : Hid (W.heap[w.heap.size]? = some (.cells #[.pointer (some ⟨p.s, 0, none⟩)] 68 (0, 0))) := by rw [hW]; exact heap_alloc2_old w _ _
  have XM : Hid (W.heap[w.heap.size + 1]? = some (.cells (m.cells s o i).toArray 42 (0, 0))) := by rw [hW]; exact heap_alloc2_new w _ _
  have s0 : W.cell? ⟨w.heap.size, 0, none⟩ = some (.pointer (some ⟨p.s, 0, none⟩)) := cell_of_row W _ 0 _ _ _ XS.out
  have H := hide h
  have hcl : ∀ (W' : World) (c1 : Nat → Nat) (x1 : RepD) (g1 : Nat), Since q B W col c1 W' r p x1 g1 → Calls Tryz.prog 142 #[.pointer (some ⟨w.heap.size + 1, 0, none⟩), .pointer (some ⟨w.heap.size, 0, none⟩)] W' fun e W'' => e = .returned (.tuple #[]) ∧ ∃ c2, Since q B W' c1 c2 W'' r p (takeR x1 m) g1 := fun W' c1 x1 g1 hs => by
    have f1 := H.out.fresh w.heap.size (Nat.le_refl _)
    have f2 := H.out.fresh (w.heap.size + 1) (by omega)
    have a1 := hs.white XS.out f1
    have a2 := hs.white XM.out f2
    refine take_any hs.rep a2 a1 ?_ hl
    have b1 := (hm.kept (Kept.of_below LB.out _)).1
    have b2 := (b1.kept (hs.turned.kept fun i e e2 => by unfold hues at e2; omega))
    have b3 : StepsAt (fun i => col i = 0 ∧ i < W.heap.size) W s m.op.steps := b1.mono fun i hi e => ⟨e, hi⟩
    have b4 := b3.kept (hs.turned.kept fun i e e2 => by unfold hues at e2; omega)
    exact b4.mono fun i _ e => by rw [hs.ext.old i e.2]; exact e.1
  have CH := hide (hearled_any (h.later LB.out) (hm.kept (Kept.of_below LB.out _)) hlead enters_take hcl hnum hg)
  unfold MsgD.cells at CH
  have s0w := s0
  clear h hm hl hlead hnum hcl s0
  have XMw := XM
  unfold MsgD.cells at hW ⊢
  rw [hW] at s0w XMw
  go_enter Tryz.func108, Tryz.ntmps108
  go_wp2_with (refine wpList_load_box (by rfl) 42 _ (by rfl) (w.heap.size + 1) 0 (by rfl) 42 _ XMw.out 34 _ Tryz.underlying42 (by rfl) (by kernel_rfl) (m.cells s o i) (by rfl) (by rfl) ?_)
  rw [← hW]
  refine CH.out.mono ?_
  rintro e w5 ⟨c5, hs, u, ps, base, rfl, hb, hf, hrow, hps⟩
  have HS := hide hs
  have HB := hide hb
  have HF := hide hf
  have HROW := hide hrow
  have HPS := hide hps
  obtain ⟨A, n, c, rfl⟩ : ∃ A n c, u = .slice A n c := by
    obtain ⟨_, _, A, c, e, _⟩ := hrow.msgs.1
    exact ⟨A, _, c, e⟩
  clear hs hb hf hrow hps CH s0w XMw
  go_wp2
  go_ret
  exact ⟨c5, ((Since.refl H.out).later LB.out).next HS.out, _, ps, base, rfl, Nat.le_trans (Below.size LB.out) HB.out, HF.out, HROW.out, HPS.out⟩
end
end Go.Proofs.YtaiegmhlgjogmaaGreat
/- A node listens to a message: it comes here, from another node's latest incarnation, and its numbers may be. -/
namespace Go.Proofs.YtaiegmhlgjogmaaGreat
open Go.RowKit Go.Maps

/-- Numbers that may be. -/
def MayI (l : List Int) : Prop := ∀ n ∈ l, 0 ≤ n ∧ n ≤ 1099511627776
theorem bad_no (n : Int) (h : 0 ≤ n ∧ n ≤ 1099511627776) (w : World) : Calls Tryz.prog 103 #[.int .i64 n] w fun e w' => e = .returned (.bool false) ∧ w = w' := by
  have h1 : ¬ n < 0 := by omega
  have h2 : ¬ 1099511627776 < n := by omega
  clear h
  go_enter Tryz.func103, Tryz.ntmps103
  go_wp2
  go_ret
  exact ⟨rfl, rfl⟩
theorem enters_bad : ∀ (args : Array Value) (w : World), (callFunc 103 args).run Tryz.prog w = .ok (.enter 103 args) w := fun args w => by go_simp
set_option maxHeartbeats 1000000 in
theorem index_no {F : Nat → Prop} {w : World} {A : Option Addr} {n c : Nat} {l : List Int} (h : SlI F w (.slice A n c) l) (hl : MayI l) (hn : n ≤ 1000) :
    Calls Tryz.prog 140 #[.slice A n c, .func (.func 103) #[] #[]] w fun e w' => e = .returned (.int .i64 (-1)) ∧ w = w' := by
  have eg := enters_bad
  have hlen : n = l.length := by obtain ⟨A', c', e, _⟩ := h.shape; injection e
  have H := hide h
  have HL := hide hl
  have HN := hide hlen
  clear h hl hlen
  go_enter Tryz.func140, Tryz.ntmps140
  go_wp2
  go_loopw [8] (fun j wr => wr = w ∧ ∃ k : Nat, k ≤ n ∧ j = .int .i64 (k : Int)) (fun j _ => n - (Go.RowKit.intOf j).toNat)
  case atStart => exact ⟨rfl, 0, by omega, rfl⟩
  case round =>
    obtain ⟨rfl, k, hk, rfl⟩ := hrel
    by_cases hlt : k < n
    · obtain ⟨b, off, rfl, hbl, hcell⟩ := H.out.cell (i := k) hlt
      have hm : l.getD k 0 ∈ l := by
        have hkl : k < l.length := by have := HN.out; omega
        simp [List.getD, hkl]
      have CB := hide (bad_no (l.getD k 0) (HL.out _ hm) wr)
      obtain ⟨z, hz⟩ : ∃ z, l.getD k 0 = z := ⟨_, rfl⟩
      rw [hz] at hcell CB
      clear hz hm hbl
      go_wp2_with (fail)
      refine CB.out.mono ?_
      rintro e w1 ⟨rfl, rfl⟩
      go_wp2
      go_roundw
      case rel => exact ⟨trivial, k + 1, by omega, by go_num⟩
      case measure => simp [Go.RowKit.intOf]; omega
    · obtain rfl : k = n := by omega
      go_wp2
      go_ret
      exact ⟨rfl, rfl⟩
theorem contains_no {F : Nat → Prop} {w : World} {A : Option Addr} {n c : Nat} {l : List Int} (h : SlI F w (.slice A n c) l) (hl : MayI l) (hn : n ≤ 1000) :
    Calls Tryz.prog 104 #[.slice A n c, .func (.func 103) #[] #[]] w fun e w' => e = .returned (.bool false) ∧ w = w' := by
  have C := hide (index_no h hl hn)
  clear h hl hn
  go_enter Tryz.func104, Tryz.ntmps104
  go_wp2_with (fail)
  refine C.out.mono ?_
  rintro e w1 ⟨rfl, rfl⟩
  go_wp2
  go_ret
  exact ⟨rfl, rfl⟩

section
variable {col : Nat → Nat} {q B r g : Nat} {w : World} {p : RepP} {x : RepD}
/-- The message comes here, and is listened to. -/
structure Comes (x : RepD) (m : MsgD) : Prop where
  dst : m.dst = x.id
  src : m.src ≠ x.id
  incs : (m.incs.length : Int) = x.n
  may : MayI [m.view, m.last, m.num, m.commit, m.nonce]
  late : staleB x.incs m = false
  i64 : I64 m.src

set_option maxHeartbeats 8000000 in
set_option maxRecDepth 100000 in
theorem listens_yes {F : Nat → Prop} {m : MsgD} {s o i : Value} (h : RepAt col q B w r p x g) (hm : Lists F w m s o i) (hc : Comes x m) :
    Calls Tryz.prog 55 #[.pointer (some ⟨p.s, 0, none⟩), .agg (m.cells s o i).toArray] w fun e w' => e = .returned (.bool true) ∧ Later w w' := by
  obtain ⟨k1, k2, k3⟩ := hm.cell
  obtain ⟨mA, mc, rfl, _, _, _⟩ := FlatAt.shape hm.2.2
  obtain ⟨W, hW⟩ : ∃ W, W = w.alloc (.cells (m.cells s o (.slice mA m.incs.length mc)).toArray 42 (0, 0)) := ⟨_, rfl⟩
  have LB : Hid (Later w W) := by rw [hW]; exact (Below.refl _ _).alloc (Nat.le_refl _) _
  have XB : Hid (W.heap[w.heap.size]? = some (.cells (m.cells s o (.slice mA m.incs.length mc)).toArray 42 (0, 0))) := by rw [hW]; exact heap_alloc_new _ _
  obtain ⟨iA, ic, hiv, hic1, hic2⟩ := h.incs.shape
  have H := hide (h.later LB.out)
  have HM := hide (hm.kept (Kept.of_below LB.out _))
  have e1 : (m.dst == x.id) = true := by rw [hc.dst]; simp
  have e2 : (m.src == x.id) = false := by simpa using hc.src
  have e2' : (m.src != x.id) = true := by simpa using hc.src
  have e3 : ((m.incs.length : Int) == x.n) = true := by rw [hc.incs]; simp
  have D0 : Hid (Later W W.drew) := (Below.refl _ _).drew
  have HF : Hid (∀ w', Later W w' → w'.cell? ⟨p.s, 0, none⟩ = some (.int .i64 x.id) ∧ w'.cell? ⟨p.s, 1, none⟩ = some (.int .i64 x.n) ∧ w'.cell? ⟨p.s, 6, none⟩ = some (.slice iA x.incs.length ic)) := fun w' hl => ⟨(H.out.later hl).cell (k := 0) rfl, (H.out.later hl).cell (k := 1) rfl, by rw [← hiv]; exact (H.out.later hl).cell (k := 6) rfl⟩
  have HX : Hid (∀ w', Later W w' → w'.heap[w.heap.size]? = some (.cells (m.cells s o (.slice mA m.incs.length mc)).toArray 42 (0, 0))) := fun w' hl => (hl.block _ (lt_of_block XB.out)).trans XB.out
  have CS := hide (fun w' (hl : Later W w') => stale_any (s := s) (o := o) (i := .slice mA m.incs.length mc) ((H.out.later hl).incs) ((HM.out.kept (Kept.of_below hl _)).2.2) hc.i64)
  rw [hiv, hc.late] at CS
  have HMAY := hide hc.may
  unfold MsgD.cells at hW
  unfold MsgD.cells
  clear h hm hc
  go_enter Tryz.func55, Tryz.ntmps55
  go_wp2
  rw [← hW]
  clear hW
  refine wp_region_L (by kernel_rfl) ?_
  refine wpAnyL_take (i := 0) (d := some 6) (v := ?vaa0) rfl rfl (by kernel_rfl) (by kernel_rfl) (by kernel_rfl) (fun _ _ _ h => h) (by rfl) ?yaa0 ?_
  case yaa0 => (intro w' hw'; go_simp; try (with_reducible rfl))
  simp only [Act.put]; try simp only [List.setIfInBounds_toArray]; try simp only [List.set_cons_zero, List.set_cons_succ]
  refine wpAnyL_take (i := 1) (d := some 7) (v := ?vaa1) rfl rfl (by kernel_rfl) (by kernel_rfl) (by kernel_rfl) (fun _ _ _ h => h) (by rfl) ?yaa1 ?_
  case yaa1 => (intro w' hw'; have hq : w'.cell? ⟨w.heap.size, 2, none⟩ = some (.int .i64 m.dst) := box_cell (HX.out w' (D0.out.trans hw')) 2 _ (by rfl); go_simp; try (with_reducible rfl))
  simp only [Act.put]; try simp only [List.setIfInBounds_toArray]; try simp only [List.set_cons_zero, List.set_cons_succ]
  refine wpAnyL_take (i := 2) (d := some 8) (v := ?vaa2) rfl rfl (by kernel_rfl) (by kernel_rfl) (by kernel_rfl) (fun _ _ _ h => h) (by rfl) ?yaa2 ?_
  case yaa2 => (intro w' hw'; go_simp; try (with_reducible rfl))
  simp only [Act.put]; try simp only [List.setIfInBounds_toArray]; try simp only [List.set_cons_zero, List.set_cons_succ]
  refine wpAnyL_take (i := 3) (d := some 9) (v := ?vaa3) rfl rfl (by kernel_rfl) (by kernel_rfl) (by kernel_rfl) (fun _ _ _ h => h) (by rfl) ?yaa3 ?_
  case yaa3 => (intro w' hw'; go_simp; try (with_reducible rfl))
  simp only [Act.put]; try simp only [List.setIfInBounds_toArray]; try simp only [List.set_cons_zero, List.set_cons_succ]
  refine wpAnyL_take (i := 4) (d := some 10) (v := ?vaa4) rfl rfl (by kernel_rfl) (by kernel_rfl) (by kernel_rfl) (fun _ _ _ h => h) (by rfl) ?yaa4 ?_
  case yaa4 => (intro w' hw'; go_simp; try (with_reducible rfl))
  simp only [Act.put]; try simp only [List.setIfInBounds_toArray]; try simp only [List.set_cons_zero, List.set_cons_succ]
  refine wpAnyL_take (i := 5) (d := some 11) (v := ?vaa5) rfl rfl (by kernel_rfl) (by kernel_rfl) (by kernel_rfl) (fun _ _ _ h => h) (by rfl) ?yaa5 ?_
  case yaa5 => (intro w' hw'; go_simp; try (with_reducible rfl))
  simp only [Act.put]; try simp only [List.setIfInBounds_toArray]; try simp only [List.set_cons_zero, List.set_cons_succ]
  refine wpAnyL_take (i := 6) (d := some 12) (v := ?vaa6) rfl rfl (by kernel_rfl) (by kernel_rfl) (by kernel_rfl) (fun _ _ _ h => h) (by rfl) ?yaa6 ?_
  case yaa6 => (intro w' hw'; have hq := (HF.out w' (D0.out.trans hw')).1; go_simp; try (with_reducible rfl))
  simp only [Act.put]; try simp only [List.setIfInBounds_toArray]; try simp only [List.set_cons_zero, List.set_cons_succ]
  refine wpAnyL_take (i := 7) (d := some 13) (v := ?vaa7) rfl rfl (by kernel_rfl) (by kernel_rfl) (by kernel_rfl) (fun _ _ _ h => h) (by rfl) ?yaa7 ?_
  case yaa7 => (intro w' hw'; go_simp; try (with_reducible rfl))
  simp only [Act.put]; try simp only [List.setIfInBounds_toArray]; try simp only [List.set_cons_zero, List.set_cons_succ]
  refine wpAnyL_take (i := 8) (d := some 14) (v := ?vaa8) rfl rfl (by kernel_rfl) (by kernel_rfl) (by kernel_rfl) (fun _ _ _ h => h) (by rfl) ?yaa8 ?_
  case yaa8 => (intro w' hw'; go_simp; try (with_reducible rfl))
  simp only [Act.put]; try simp only [List.setIfInBounds_toArray]; try simp only [List.set_cons_zero, List.set_cons_succ]
  refine wpAnyL_take (i := 9) (d := some 15) (v := ?vaa9) rfl rfl (by kernel_rfl) (by kernel_rfl) (by kernel_rfl) (fun _ _ _ h => h) (by rfl) ?yaa9 ?_
  case yaa9 => (intro w' hw'; go_simp; try (with_reducible rfl))
  simp only [Act.put]; try simp only [List.setIfInBounds_toArray]; try simp only [List.set_cons_zero, List.set_cons_succ]
  refine wpAnyL_take (i := 10) (d := some 16) (v := ?vaa10) rfl rfl (by kernel_rfl) (by kernel_rfl) (by kernel_rfl) (fun _ _ _ h => h) (by rfl) ?yaa10 ?_
  case yaa10 => (intro w' hw'; have hq : w'.cell? ⟨w.heap.size, 1, none⟩ = some (.int .i64 m.src) := box_cell (HX.out w' (D0.out.trans hw')) 1 _ (by rfl); go_simp; try (with_reducible rfl))
  simp only [Act.put]; try simp only [List.setIfInBounds_toArray]; try simp only [List.set_cons_zero, List.set_cons_succ]
  refine wpAnyL_take (i := 11) (d := some 17) (v := ?vaa11) rfl rfl (by kernel_rfl) (by kernel_rfl) (by kernel_rfl) (fun _ _ _ h => h) (by rfl) ?yaa11 ?_
  case yaa11 => (intro w' hw'; go_simp; try (with_reducible rfl))
  simp only [Act.put]; try simp only [List.setIfInBounds_toArray]; try simp only [List.set_cons_zero, List.set_cons_succ]
  refine wpAnyL_take (i := 12) (d := some 18) (v := ?vaa12) rfl rfl (by kernel_rfl) (by kernel_rfl) (by kernel_rfl) (fun _ _ _ h => h) (by rfl) ?yaa12 ?_
  case yaa12 => (intro w' hw'; go_simp; try (with_reducible rfl))
  simp only [Act.put]; try simp only [List.setIfInBounds_toArray]; try simp only [List.set_cons_zero, List.set_cons_succ]
  refine wpAnyL_take (i := 13) (d := some 19) (v := ?vaa13) rfl rfl (by kernel_rfl) (by kernel_rfl) (by kernel_rfl) (fun _ _ _ h => h) (by rfl) ?yaa13 ?_
  case yaa13 => (intro w' hw'; go_simp; try (with_reducible rfl))
  simp only [Act.put]; try simp only [List.setIfInBounds_toArray]; try simp only [List.set_cons_zero, List.set_cons_succ]
  refine wpAnyL_take (i := 14) (d := some 20) (v := ?vaa14) rfl rfl (by kernel_rfl) (by kernel_rfl) (by kernel_rfl) (fun _ _ _ h => h) (by rfl) ?yaa14 ?_
  case yaa14 => (intro w' hw'; go_simp; try (with_reducible rfl))
  simp only [Act.put]; try simp only [List.setIfInBounds_toArray]; try simp only [List.set_cons_zero, List.set_cons_succ]
  refine wpAnyL_take (i := 15) (d := some 21) (v := ?vaa15) rfl rfl (by kernel_rfl) (by kernel_rfl) (by kernel_rfl) (fun _ _ _ h => h) (by rfl) ?yaa15 ?_
  case yaa15 => (intro w' hw'; have hq := (HF.out w' (D0.out.trans hw')).1; go_simp; try (with_reducible rfl))
  simp only [Act.put]; try simp only [List.setIfInBounds_toArray]; try simp only [List.set_cons_zero, List.set_cons_succ]
  refine wpAnyL_take (i := 16) (d := some 22) (v := ?vaa16) rfl rfl (by kernel_rfl) (by kernel_rfl) (by kernel_rfl) (fun _ _ _ h => h) (by rfl) ?yaa16 ?_
  case yaa16 => (intro w' hw'; go_simp; try (with_reducible rfl))
  simp only [Act.put]; try simp only [List.setIfInBounds_toArray]; try simp only [List.set_cons_zero, List.set_cons_succ]
  refine wpAnyL_take (i := 17) (d := some 23) (v := ?vaa17) rfl rfl (by kernel_rfl) (by kernel_rfl) (by kernel_rfl) (fun _ _ _ h => h) (by rfl) ?yaa17 ?_
  case yaa17 => (intro w' hw'; go_simp; try (with_reducible rfl))
  simp only [Act.put]; try simp only [List.setIfInBounds_toArray]; try simp only [List.set_cons_zero, List.set_cons_succ]
  refine wpAnyL_take (i := 18) (d := some 24) (v := ?vaa18) rfl rfl (by kernel_rfl) (by kernel_rfl) (by kernel_rfl) (fun _ _ _ h => h) (by rfl) ?yaa18 ?_
  case yaa18 => (intro w' hw'; go_simp; try (with_reducible rfl))
  simp only [Act.put]; try simp only [List.setIfInBounds_toArray]; try simp only [List.set_cons_zero, List.set_cons_succ]
  refine wpAnyL_take (i := 19) (d := some 25) (v := ?vaa19) rfl rfl (by kernel_rfl) (by kernel_rfl) (by kernel_rfl) (fun _ _ _ h => h) (by rfl) ?yaa19 ?_
  case yaa19 => (intro w' hw'; go_simp; try (with_reducible rfl))
  simp only [Act.put]; try simp only [List.setIfInBounds_toArray]; try simp only [List.set_cons_zero, List.set_cons_succ]
  refine wpAnyL_take (i := 20) (d := some 26) (v := .slice mA m.incs.length mc) rfl rfl (by kernel_rfl) (by kernel_rfl) (by kernel_rfl) (fun _ _ _ h => h) (by rfl) ?yaa20 ?_
  case yaa20 => (intro w' hw'; have hq : w'.cell? ⟨w.heap.size, 33, none⟩ = some (.slice mA m.incs.length mc) := box_cell (HX.out w' (D0.out.trans hw')) 33 _ (by rfl); go_simp; try (with_reducible rfl))
  simp only [Act.put]; try simp only [List.setIfInBounds_toArray]; try simp only [List.set_cons_zero, List.set_cons_succ]
  refine wpAnyL_take (i := 21) (d := some 27) (v := ?vaa21) rfl rfl (by kernel_rfl) (by kernel_rfl) (by kernel_rfl) (fun _ _ _ h => h) (by rfl) ?yaa21 ?_
  case yaa21 => (intro w' hw'; go_simp; try (with_reducible rfl))
  simp only [Act.put]; try simp only [List.setIfInBounds_toArray]; try simp only [List.set_cons_zero, List.set_cons_succ]
  refine wpAnyL_take (i := 22) (d := some 28) (v := ?vaa22) rfl rfl (by kernel_rfl) (by kernel_rfl) (by kernel_rfl) (fun _ _ _ h => h) (by rfl) ?yaa22 ?_
  case yaa22 => (intro w' hw'; go_simp; try (with_reducible rfl))
  simp only [Act.put]; try simp only [List.setIfInBounds_toArray]; try simp only [List.set_cons_zero, List.set_cons_succ]
  refine wpAnyL_take (i := 23) (d := some 29) (v := ?vaa23) rfl rfl (by kernel_rfl) (by kernel_rfl) (by kernel_rfl) (fun _ _ _ h => h) (by rfl) ?yaa23 ?_
  case yaa23 => (intro w' hw'; go_simp; try (with_reducible rfl))
  simp only [Act.put]; try simp only [List.setIfInBounds_toArray]; try simp only [List.set_cons_zero, List.set_cons_succ]
  refine wpAnyL_take (i := 24) (d := some 30) (v := ?vaa24) rfl rfl (by kernel_rfl) (by kernel_rfl) (by kernel_rfl) (fun _ _ _ h => h) (by rfl) ?yaa24 ?_
  case yaa24 => (intro w' hw'; go_simp; try (with_reducible rfl))
  simp only [Act.put]; try simp only [List.setIfInBounds_toArray]; try simp only [List.set_cons_zero, List.set_cons_succ]
  refine wpAnyL_take (i := 25) (d := some 31) (v := ?vaa25) rfl rfl (by kernel_rfl) (by kernel_rfl) (by kernel_rfl) (fun _ _ _ h => h) (by rfl) ?yaa25 ?_
  case yaa25 => (intro w' hw'; go_simp; try (with_reducible rfl))
  simp only [Act.put]; try simp only [List.setIfInBounds_toArray]; try simp only [List.set_cons_zero, List.set_cons_succ]
  refine wpAnyL_take (i := 26) (d := some 32) (v := ?vaa26) rfl rfl (by kernel_rfl) (by kernel_rfl) (by kernel_rfl) (fun _ _ _ h => h) (by rfl) ?yaa26 ?_
  case yaa26 => (intro w' hw'; have hq := (HF.out w' (D0.out.trans hw')).2.1; go_simp; try (with_reducible rfl))
  simp only [Act.put]; try simp only [List.setIfInBounds_toArray]; try simp only [List.set_cons_zero, List.set_cons_succ]
  refine wpAnyL_take (i := 27) (d := some 33) (v := ?vaa27) rfl rfl (by kernel_rfl) (by kernel_rfl) (by kernel_rfl) (fun _ _ _ h => h) (by rfl) ?yaa27 ?_
  case yaa27 => (intro w' hw'; go_simp; try (with_reducible rfl))
  simp only [Act.put]; try simp only [List.setIfInBounds_toArray]; try simp only [List.set_cons_zero, List.set_cons_succ]
  refine wpAnyL_take (i := 28) (d := some 34) (v := ?vaa28) rfl rfl (by kernel_rfl) (by kernel_rfl) (by kernel_rfl) (fun _ _ _ h => h) (by rfl) ?yaa28 ?_
  case yaa28 => (intro w' hw'; go_simp; try (with_reducible rfl))
  simp only [Act.put]; try simp only [List.setIfInBounds_toArray]; try simp only [List.set_cons_zero, List.set_cons_succ]
  refine wpAnyL_take (i := 29) (d := some 35) (v := ?vaa29) rfl rfl (by kernel_rfl) (by kernel_rfl) (by kernel_rfl) (fun _ _ _ h => h) (by rfl) ?yaa29 ?_
  case yaa29 => (intro w' hw'; go_simp; try (with_reducible rfl))
  simp only [Act.put]; try simp only [List.setIfInBounds_toArray]; try simp only [List.set_cons_zero, List.set_cons_succ]
  refine wpAnyL_take (i := 30) (d := some 36) (v := ?vaa30) rfl rfl (by kernel_rfl) (by kernel_rfl) (by kernel_rfl) (fun _ _ _ h => h) (by rfl) ?yaa30 ?_
  case yaa30 => (intro w' hw'; go_simp; try (with_reducible rfl))
  simp only [Act.put]; try simp only [List.setIfInBounds_toArray]; try simp only [List.set_cons_zero, List.set_cons_succ]
  refine wpAnyL_take (i := 31) (d := some 37) (v := ?vaa31) rfl rfl (by kernel_rfl) (by kernel_rfl) (by kernel_rfl) (fun _ _ _ h => h) (by rfl) ?yaa31 ?_
  case yaa31 => (intro w' hw'; have hq : w'.cell? ⟨w.heap.size, 3, none⟩ = some (.int .i64 m.view) := box_cell (HX.out w' (D0.out.trans hw')) 3 _ (by rfl); go_simp; try (with_reducible rfl))
  simp only [Act.put]; try simp only [List.setIfInBounds_toArray]; try simp only [List.set_cons_zero, List.set_cons_succ]
  refine wpAnyL_take (i := 32) (d := some 38) (v := ?vaa32) rfl rfl (by kernel_rfl) (by kernel_rfl) (by kernel_rfl) (fun _ _ _ h => h) (by rfl) ?yaa32 ?_
  case yaa32 => (intro w' hw'; go_simp; try (with_reducible rfl))
  simp only [Act.put]; try simp only [List.setIfInBounds_toArray]; try simp only [List.set_cons_zero, List.set_cons_succ]
  refine wpAnyL_take (i := 33) (d := some 39) (v := ?vaa33) rfl rfl (by kernel_rfl) (by kernel_rfl) (by kernel_rfl) (fun _ _ _ h => h) (by rfl) ?yaa33 ?_
  case yaa33 => (intro w' hw'; have hq : w'.cell? ⟨w.heap.size, 4, none⟩ = some (.int .i64 m.last) := box_cell (HX.out w' (D0.out.trans hw')) 4 _ (by rfl); go_simp; try (with_reducible rfl))
  simp only [Act.put]; try simp only [List.setIfInBounds_toArray]; try simp only [List.set_cons_zero, List.set_cons_succ]
  refine wpAnyL_take (i := 34) (d := some 40) (v := ?vaa34) rfl rfl (by kernel_rfl) (by kernel_rfl) (by kernel_rfl) (fun _ _ _ h => h) (by rfl) ?yaa34 ?_
  case yaa34 => (intro w' hw'; go_simp; try (with_reducible rfl))
  simp only [Act.put]; try simp only [List.setIfInBounds_toArray]; try simp only [List.set_cons_zero, List.set_cons_succ]
  refine wpAnyL_take (i := 35) (d := some 41) (v := ?vaa35) rfl rfl (by kernel_rfl) (by kernel_rfl) (by kernel_rfl) (fun _ _ _ h => h) (by rfl) ?yaa35 ?_
  case yaa35 => (intro w' hw'; have hq : w'.cell? ⟨w.heap.size, 5, none⟩ = some (.int .i64 m.num) := box_cell (HX.out w' (D0.out.trans hw')) 5 _ (by rfl); go_simp; try (with_reducible rfl))
  simp only [Act.put]; try simp only [List.setIfInBounds_toArray]; try simp only [List.set_cons_zero, List.set_cons_succ]
  refine wpAnyL_take (i := 36) (d := some 42) (v := ?vaa36) rfl rfl (by kernel_rfl) (by kernel_rfl) (by kernel_rfl) (fun _ _ _ h => h) (by rfl) ?yaa36 ?_
  case yaa36 => (intro w' hw'; go_simp; try (with_reducible rfl))
  simp only [Act.put]; try simp only [List.setIfInBounds_toArray]; try simp only [List.set_cons_zero, List.set_cons_succ]
  refine wpAnyL_take (i := 37) (d := some 43) (v := ?vaa37) rfl rfl (by kernel_rfl) (by kernel_rfl) (by kernel_rfl) (fun _ _ _ h => h) (by rfl) ?yaa37 ?_
  case yaa37 => (intro w' hw'; have hq : w'.cell? ⟨w.heap.size, 6, none⟩ = some (.int .i64 m.commit) := box_cell (HX.out w' (D0.out.trans hw')) 6 _ (by rfl); go_simp; try (with_reducible rfl))
  simp only [Act.put]; try simp only [List.setIfInBounds_toArray]; try simp only [List.set_cons_zero, List.set_cons_succ]
  refine wpAnyL_take (i := 38) (d := some 44) (v := ?vaa38) rfl rfl (by kernel_rfl) (by kernel_rfl) (by kernel_rfl) (fun _ _ _ h => h) (by rfl) ?yaa38 ?_
  case yaa38 => (intro w' hw'; go_simp; try (with_reducible rfl))
  simp only [Act.put]; try simp only [List.setIfInBounds_toArray]; try simp only [List.set_cons_zero, List.set_cons_succ]
  refine wpAnyL_take (i := 39) (d := some 45) (v := ?vaa39) rfl rfl (by kernel_rfl) (by kernel_rfl) (by kernel_rfl) (fun _ _ _ h => h) (by rfl) ?yaa39 ?_
  case yaa39 => (intro w' hw'; have hq : w'.cell? ⟨w.heap.size, 7, none⟩ = some (.int .i64 m.nonce) := box_cell (HX.out w' (D0.out.trans hw')) 7 _ (by rfl); go_simp; try (with_reducible rfl))
  simp only [Act.put]; try simp only [List.setIfInBounds_toArray]; try simp only [List.set_cons_zero, List.set_cons_succ]
  refine wpAnyL_take (i := 41) (d := some 47) (v := ?vaa41) rfl rfl (by kernel_rfl) (by kernel_rfl) (by kernel_rfl) (fun _ _ _ h => h) (by rfl) ?yaa41 ?_
  case yaa41 => (intro w' hw'; go_simp; try (with_reducible rfl))
  simp only [Act.put]; try simp only [List.setIfInBounds_toArray]; try simp only [List.set_cons_zero, List.set_cons_succ]
  refine wpAnyL_only (i := 40) rfl (by kernel_rfl) (by rfl) fun K hK => ?_
  go_simp
  obtain ⟨W5, hW5⟩ : ∃ W5, W5 = (W.alloc (.cells #[.int .i64 m.view, .int .i64 m.last, .int .i64 m.num, .int .i64 m.commit, .int .i64 m.nonce] 3 (0, 0))).drew := ⟨_, rfl⟩
  rw [← hW5]
  have L5 : Hid (Later W.drew W5) := by
    have b : Later W W5 := by rw [hW5]; exact ((Below.refl _ _).alloc (Nat.le_refl _) _).drew
    exact ⟨b.os, b.tape, b.output, b.size, b.block⟩
  have HLIT : Hid (SlI (W.heap.size ≤ ·) W5 (.slice (some ⟨W.heap.size, 0, none⟩) 5 5) [m.view, m.last, m.num, m.commit, m.nonce]) := by rw [hW5]; exact sli_lit W 3 [m.view, m.last, m.num, m.commit, m.nonce] (fun z hz => by have := HMAY.out z hz; omega) (by simp) (by simp)
  clear hW5
  refine hK.out _ _ L5.out ?_
  clear hK K
  try (simp only [Act.put]; try simp only [List.setIfInBounds_toArray]; try simp only [List.set_cons_zero, List.set_cons_succ])
  refine wpAnyL_only (i := 42) rfl (by kernel_rfl) (by rfl) fun K hK => ?_
  go_simp
  refine (contains_no HLIT.out HMAY.out (by omega)).mono ?_
  rintro e v1 ⟨rfl, rfl⟩
  refine hK.out _ _ (Below.refl _ _) ?_
  clear hK K
  try (simp only [Act.put]; try simp only [List.setIfInBounds_toArray]; try simp only [List.set_cons_zero, List.set_cons_succ])
  refine wpAnyL_take (i := 43) (d := some 49) (v := ?vaa43) rfl rfl (by kernel_rfl) (by kernel_rfl) (by kernel_rfl) (fun _ _ _ h => h) (by rfl) ?yaa43 ?_
  case yaa43 => (intro w' hw'; go_simp; try (with_reducible rfl))
  simp only [Act.put]; try simp only [List.setIfInBounds_toArray]; try simp only [List.set_cons_zero, List.set_cons_succ]
  refine wpAnyL_take (i := 44) (d := some 50) (v := ?vaa44) rfl rfl (by kernel_rfl) (by kernel_rfl) (by kernel_rfl) (fun _ _ _ h => h) (by rfl) ?yaa44 ?_
  case yaa44 => (intro w' hw'; go_simp; try (with_reducible rfl))
  simp only [Act.put]; try simp only [List.setIfInBounds_toArray]; try simp only [List.set_cons_zero, List.set_cons_succ]
  refine wpAnyL_take (i := 45) (d := some 51) (v := ?vaa45) rfl rfl (by kernel_rfl) (by kernel_rfl) (by kernel_rfl) (fun _ _ _ h => h) (by rfl) ?yaa45 ?_
  case yaa45 => (intro w' hw'; go_simp; try (with_reducible rfl))
  simp only [Act.put]; try simp only [List.setIfInBounds_toArray]; try simp only [List.set_cons_zero, List.set_cons_succ]
  refine wpAnyL_take (i := 46) (d := some 52) (v := ?vaa46) rfl rfl (by kernel_rfl) (by kernel_rfl) (by kernel_rfl) (fun _ _ _ h => h) (by rfl) ?yaa46 ?_
  case yaa46 => (intro w' hw'; go_simp; try (with_reducible rfl))
  simp only [Act.put]; try simp only [List.setIfInBounds_toArray]; try simp only [List.set_cons_zero, List.set_cons_succ]
  refine wpAnyL_take (i := 47) (d := some 53) (v := ?vaa47) rfl rfl (by kernel_rfl) (by kernel_rfl) (by kernel_rfl) (fun _ _ _ h => h) (by rfl) ?yaa47 ?_
  case yaa47 => (intro w' hw'; go_simp; try (with_reducible rfl))
  simp only [Act.put]; try simp only [List.setIfInBounds_toArray]; try simp only [List.set_cons_zero, List.set_cons_succ]
  refine wpAnyL_take (i := 48) (d := some 54) (v := ?vaa48) rfl rfl (by kernel_rfl) (by kernel_rfl) (by kernel_rfl) (fun _ _ _ h => h) (by rfl) ?yaa48 ?_
  case yaa48 => (intro w' hw'; go_simp; try (with_reducible rfl))
  simp only [Act.put]; try simp only [List.setIfInBounds_toArray]; try simp only [List.set_cons_zero, List.set_cons_succ]
  refine wpAnyL_take (i := 49) (d := some 55) (v := ?vaa49) rfl rfl (by kernel_rfl) (by kernel_rfl) (by kernel_rfl) (fun _ _ _ h => h) (by rfl) ?yaa49 ?_
  case yaa49 => (intro w' hw'; have hq := (HF.out w' (D0.out.trans (L5.out.trans hw'))).2.2; go_simp; try (with_reducible rfl))
  simp only [Act.put]; try simp only [List.setIfInBounds_toArray]; try simp only [List.set_cons_zero, List.set_cons_succ]
  refine wpAnyL_take (i := 50) (d := some 56) (v := .agg (m.cells s o (.slice mA m.incs.length mc)).toArray) rfl rfl (by kernel_rfl) (by kernel_rfl) (by kernel_rfl) (fun _ _ _ h => h) (by rfl) ?yaa50 ?_
  case yaa50 => (intro w' hw'; exact exec_load_box 42 _ (by rfl) w.heap.size 0 (by rfl) 42 _ (HX.out w' (D0.out.trans (L5.out.trans hw'))) 34 _ Tryz.underlying42 (by rfl) (by kernel_rfl) (m.cells s o (.slice mA m.incs.length mc)) (by rfl) (by rfl))
  simp only [Act.put]; try simp only [List.setIfInBounds_toArray]; try simp only [List.set_cons_zero, List.set_cons_succ]
  refine wpAnyL_only (i := 51) rfl (by kernel_rfl) (by rfl) fun K hK => ?_
  go_simp
  refine (CS.out _ (D0.out.trans L5.out)).mono ?_
  rintro e w6 ⟨rfl, hl6⟩
  have LE : Hid (Later W.drew w6) := L5.out.trans hl6
  refine hK.out _ _ hl6 ?_
  clear hl6
  clear hK K
  try (simp only [Act.put]; try simp only [List.setIfInBounds_toArray]; try simp only [List.set_cons_zero, List.set_cons_succ])
  refine wpAnyL_take (i := 52) (d := some 58) (v := ?vaa52) rfl rfl (by kernel_rfl) (by kernel_rfl) (by kernel_rfl) (fun _ _ _ h => h) (by rfl) ?yaa52 ?_
  case yaa52 => (intro w' hw'; go_simp; try (with_reducible rfl))
  simp only [Act.put]; try simp only [List.setIfInBounds_toArray]; try simp only [List.set_cons_zero, List.set_cons_succ]
  refine wpAnyL_take (i := 53) (d := some 59) (v := ?vaa53) rfl rfl (by kernel_rfl) (by kernel_rfl) (by kernel_rfl) (fun _ _ _ h => h) (by rfl) ?yaa53 ?_
  case yaa53 => (intro w' hw'; go_simp; try (with_reducible rfl))
  simp only [Act.put]; try simp only [List.setIfInBounds_toArray]; try simp only [List.set_cons_zero, List.set_cons_succ]
  refine wpAnyL_take (i := 54) (d := some 4) (v := ?vaa54) rfl rfl (by kernel_rfl) (by kernel_rfl) (by kernel_rfl) (fun _ _ _ h => h) (by rfl) ?yaa54 ?_
  case yaa54 => (intro w' hw'; go_simp; try (with_reducible rfl))
  simp only [Act.put]; try simp only [List.setIfInBounds_toArray]; try simp only [List.set_cons_zero, List.set_cons_succ]
  refine wpAnyL_done (by kernel_rfl) ?_ _
  go_wp2
  go_ret
  exact ⟨rfl, LB.out.trans (D0.out.trans LE.out)⟩
end
end Go.Proofs.YtaiegmhlgjogmaaGreat
/- Merged incarnations, as lists. -/
namespace Go.Proofs.YtaiegmhlgjogmaaGreat

def mergeUp (a b : List Int) (k : Nat) : List Int := (List.range a.length).map fun i => if i < k then max (a.getD i 0) (b.getD i 0) else a.getD i 0
/-- Of each place of a the greater one of both. -/
def mergeL (a b : List Int) : List Int := mergeUp a b a.length
theorem merge_len (a b : List Int) (k : Nat) : (mergeUp a b k).length = a.length := by simp [mergeUp]
theorem merge_zero (a b : List Int) : mergeUp a b 0 = a := by
  apply List.ext_getElem (by simp [mergeUp])
  intro i h1 h2
  simp [mergeUp, List.getD, h2]
theorem merge_get (a b : List Int) {k i : Nat} (hi : i < a.length) : (mergeUp a b k).getD i 0 = if i < k then max (a.getD i 0) (b.getD i 0) else a.getD i 0 := by
  simp [mergeUp, List.getD, hi]
theorem merge_set (a b : List Int) (k : Nat) : (mergeUp a b k).set k (max (a.getD k 0) (b.getD k 0)) = mergeUp a b (k + 1) := by
  apply List.ext_getElem (by simp [mergeUp])
  intro i h1 h2
  have hi : i < a.length := by simpa [mergeUp] using h2
  by_cases hk : i = k
  · subst hk
    simp [mergeUp]
  · rw [List.getElem_set_ne (by omega)]
    simp only [mergeUp, List.getElem_map, List.getElem_range]
    by_cases h : i < k
    · rw [if_pos h, if_pos (by omega)]
    · rw [if_neg h, if_neg (by omega)]
theorem mergeL_len (a b : List Int) : (mergeL a b).length = a.length := merge_len a b _
theorem mergeL_get (a b : List Int) {i : Nat} (hi : i < a.length) : (mergeL a b).getD i 0 = max (a.getD i 0) (b.getD i 0) := by rw [mergeL, merge_get a b hi, if_pos hi]
theorem merge_fit {a b : List Int} (ha : Fit a) (hb : Fit b) (k : Nat) : Fit (mergeUp a b k) := by
  intro x hx
  obtain ⟨i, _, rfl⟩ := List.mem_map.1 hx
  have h1 := ha.get i
  have h2 := hb.get i
  split
  · constructor <;> omega
  · exact h1
/-- Merged again, nothing changes. -/
theorem merge_twice (a b : List Int) : mergeL (mergeL a b) b = mergeL a b := by
  apply List.ext_getElem (by simp [mergeL_len])
  intro i h1 h2
  have hi : i < a.length := by simpa [mergeL_len] using h2
  have e1 : (mergeL (mergeL a b) b)[i] = (mergeL (mergeL a b) b).getD i 0 := by simp [List.getD, h1]
  have e2 : (mergeL a b)[i] = (mergeL a b).getD i 0 := by simp [List.getD, h2]
  rw [e1, e2, mergeL_get _ _ (by rw [mergeL_len]; exact hi), mergeL_get _ _ hi]
  omega
end Go.Proofs.YtaiegmhlgjogmaaGreat
/- The walk over Merge of package vr. -/
namespace Go.Proofs.YtaiegmhlgjogmaaGreat
open Go.RowKit

set_option maxHeartbeats 2000000 in
set_option maxRecDepth 100000 in
theorem merge_any {F G : Nat → Prop} {w : World} {u v : Value} {a b : List Int} (ha : SlI F w u a) (hb : SlI G w v b) (hn : a.length ≤ 1000000) :
    Calls Tryz.prog 106 #[u, v] w (NewInts w (mergeL a b)) := by
  have C := hide (clone_ints F u a.length _ w ha.1 hn)
  obtain ⟨A, c, rfl, h1, h2⟩ := ha.shape
  obtain ⟨A2, c2, rfl, h3, h4⟩ := hb.shape
  have HA := hide ha.2
  have HBF := hide hb.2
  have HB := hide hb
  have h5 : b.length ≤ maxLen := by omega
  unfold maxLen at h5
  obtain ⟨m, hm⟩ : ∃ m, b.length = m := ⟨_, rfl⟩
  obtain ⟨n, hn2⟩ : ∃ n, a.length = n := ⟨_, rfl⟩
  have HM := hide hm
  have HN := hide hn2
  rw [hm] at HB h5 ⊢
  rw [hn2] at C hn ⊢
  clear ha hb h1 h2 h3 h4 hm hn2
  go_enter Tryz.func106, Tryz.ntmps106
  go_wp2_with (fail)
  refine C.out.mono ?_
  rintro e w1 ⟨r, rfl, hown, hbl⟩
  have hown' : w1.ownsRow w.heap.size 3 1 r n (ivs (mergeUp a b 0)) := by rw [merge_zero]; exact hown
  obtain ⟨AR, cR, rfl, hnc⟩ : ∃ A c, r = .slice A n c ∧ n ≤ c := own_slice hown
  have HO := hide hown'
  have HL := hide hbl
  clear hown hown' hbl C
  go_wp2
  go_loopw [13] (fun j wr => ∃ k : Nat, k ≤ n ∧ j = .int .i64 (k : Int) ∧ wr.ownsRow w.heap.size 3 1 (.slice AR n cR) n (ivs (mergeUp a b k)) ∧ Below w.heap.size w wr) (fun j _ => n - (Go.RowKit.intOf j).toNat)
  case atStart => exact ⟨0, by omega, rfl, HO.out, HL.out⟩
  case round =>
    obtain ⟨k, hk, rfl, hown, hbw⟩ := hrel
    have HW := hide hown
    have HB2 := hide hbw
    clear hown hbw
    by_cases hkn : k < n
    · obtain ⟨g, c9, hv, hg, hlt, _, _⟩ := iown_at HW.out (by omega)
      obtain ⟨rfl, rfl⟩ : AR = some ⟨g, 0, none⟩ ∧ cR = c9 := by injection hv with e1 _ e3; exact ⟨e1, e3⟩
      have hc := iown_cell HW.out hkn
      have hf := iown_free HW.out k
      rw [merge_get a b (by rw [HN.out]; exact hkn), if_neg (by omega)] at hc
      have HS := hide (merge_set a b k)
      have HD := hide (HB.out.kept (Kept.of_below HB2.out G))
      obtain ⟨x, hx⟩ : ∃ x, a.getD k 0 = x := ⟨_, rfl⟩
      rw [hx] at hc HS
      clear hv hx
      by_cases hkm : k < m
      · obtain ⟨b2, off2, rfl, _, hc2⟩ := HD.out.cell (i := k) hkm
        obtain ⟨y, hy⟩ : ∃ y, b.getD k 0 = y := ⟨_, rfl⟩
        rw [hy] at hc2 HS
        clear hy
        go_wp2
        go_roundw
        case rel =>
          have h := iown_set HW.out k (max x y)
          refine ⟨k + 1, by omega, by go_num, ?_, HB2.out.grown h.2 HB2.out.size (fun j hj => by have := Option.some.inj hj; omega)⟩
          rw [← HS.out]
          exact h.1
        case measure => simp [Go.RowKit.intOf]; omega
      · have hy : b.getD k 0 = 0 := by
          have h1 := HM.out
          simp [List.getD, List.getElem?_eq_none (show b.length ≤ k by omega)]
        rw [hy] at HS
        clear hy
        go_wp2
        go_roundw
        case rel =>
          have h := iown_set HW.out k (max x 0)
          refine ⟨k + 1, by omega, by go_num, ?_, HB2.out.grown h.2 HB2.out.size (fun j hj => by have := Option.some.inj hj; omega)⟩
          rw [← HS.out]
          exact h.1
        case measure => simp [Go.RowKit.intOf]; omega
    · obtain rfl : k = n := by omega
      go_wp2
      go_ret
      have h1 := HW.out
      rw [show mergeUp a b k = mergeL a b from by rw [mergeL, HN.out]] at h1
      obtain ⟨A', c', hv, hnc', _, hh⟩ := IHolds.of_own h1 (merge_fit HA.out HBF.out _)
      obtain ⟨rfl, rfl⟩ : AR = A' ∧ cR = c' := by injection hv with e1 _ e3; exact ⟨e1, e3⟩
      exact ⟨AR, k, cR, rfl, h1, hh, hnc', HB2.out⟩
end Go.Proofs.YtaiegmhlgjogmaaGreat
/- A node learns of incarnations: what is kept of elder ones is forgotten. How a message's view stands to its own. -/
namespace Go.Proofs.YtaiegmhlgjogmaaGreat
open Go.RowKit Go.Maps

/-- Of the nodes up to k those that were started anew are forgotten. -/
def keptUp (x : RepD) (new : List Int) (k : Nat) : List (Int × HeardD) := x.kept.filter fun (y : Int × HeardD) => !(decide (y.1 ≤ (k : Int)) && decide (x.incs.getD (y.1.toNat - 1) 0 < new.getD (y.1.toNat - 1) 0))
def learnR (x : RepD) (inc : List Int) (iv : Value) : RepD := { x with incs := mergeL x.incs inc, iv := iv, kept := keptUp x (mergeL x.incs inc) x.incs.length }
theorem keptUp_zero {x : RepD} {g : Nat} (ok : x.OK g) (new : List Int) : keptUp x new 0 = x.kept := by
  unfold keptUp
  rw [List.filter_eq_self]
  intro y hy
  have := (ok.keys y hy).1
  simp
  omega
theorem keptUp_next {x : RepD} {g : Nat} (ok : x.OK g) (new : List Int) (k : Nat) : keptUp x new (k + 1) = if x.incs.getD k 0 < new.getD k 0 then delH (keptUp x new k) ((k : Int) + 1) else keptUp x new k := by
  unfold keptUp delH
  split
  · rename_i hlt
    rw [List.filter_filter]
    apply List.filter_congr
    intro y hy
    have := (ok.keys y hy).1
    by_cases he : y.1 = (k : Int) + 1
    · have e1 : y.1.toNat - 1 = k := by omega
      have e2 : y.1 ≤ ((k + 1 : Nat) : Int) := by omega
      have ht : decide (x.incs.getD k 0 < new.getD k 0) = true := decide_eq_true hlt
      have ha : decide (y.1 ≤ ((k + 1 : Nat) : Int)) = true := decide_eq_true e2
      have hb : (y.1 == (k : Int) + 1) = true := by simpa using he
      rw [e1, ht, ha, hb]
      rfl
    · have e3 : (y.1 == (k : Int) + 1) = false := by simpa using he
      have e4 : (decide (y.1 ≤ ((k + 1 : Nat) : Int))) = decide (y.1 ≤ (k : Int)) := by
        rw [decide_eq_decide]
        omega
      rw [e3, e4]
      simp
  · rename_i hlt
    apply List.filter_congr
    intro y hy
    have := (ok.keys y hy).1
    by_cases he : y.1 = (k : Int) + 1
    · have e1 : y.1.toNat - 1 = k := by omega
      have ht : decide (x.incs.getD k 0 < new.getD k 0) = false := decide_eq_false hlt
      rw [e1, ht, Bool.and_false, Bool.and_false]
    · have e4 : (decide (y.1 ≤ ((k + 1 : Nat) : Int))) = decide (y.1 ≤ (k : Int)) := by
        rw [decide_eq_decide]
        omega
      rw [e4]
theorem keptUp_mem {x : RepD} {new : List Int} {k : Nat} {y : Int × HeardD} (h : y ∈ keptUp x new k) : y ∈ x.kept := (List.mem_filter.1 h).1
theorem learnt_ok {x : RepD} {g : Nat} (ok : x.OK g) (inc : List Int) (iv : Value) (k : Nat) : ({ x with incs := mergeL x.incs inc, iv := iv, kept := keptUp x (mergeL x.incs inc) k } : RepD).OK g :=
  ⟨ok.id, ok.n, ok.view, ok.last, ok.nonce, by show ((mergeL x.incs inc).length : Int) = _; rw [mergeL_len]; exact ok.incs, ok.taken, ok.now, ok.names, ok.later, fun y hy => ok.keys y (keptUp_mem hy), ok.rise.filter _, fun y hy => ok.acks y (keptUp_mem hy)⟩

section
variable {col : Nat → Nat} {q B r g : Nat} {w : World} {p : RepP} {x : RepD}
set_option maxHeartbeats 4000000 in
set_option maxRecDepth 100000 in
theorem learn_any {G : Nat → Prop} {v : Value} {inc : List Int} (h : RepAt col q B w r p x g) (hv : SlI G w v inc) :
    Calls Tryz.prog 56 #[.pointer (some ⟨p.s, 0, none⟩), v] w fun e w' => e = .returned (.tuple #[]) ∧ ∃ iv, Since q B w col col w' r p (learnR x inc iv) g := by
  obtain ⟨oA, oc, hiv, hoc1, hoc2⟩ := h.incs.shape
  obtain ⟨n, hn⟩ : ∃ n : Nat, x.incs.length = n := ⟨_, rfl⟩
  have hn5 : n ≤ 5 := by have := h.ok.incs; have := h.ok.n; omega
  have CM := hide (merge_any h.incs hv (by omega))
  have c6 : w.cell? ⟨p.s, 6, none⟩ = some (.slice oA n oc) := by rw [← hn, ← hiv]; exact h.cell (k := 6) rfl
  obtain ⟨vA, vn, vc, rfl⟩ : ∃ A n c, v = .slice A n c := by obtain ⟨A, c, e, _⟩ := hv.shape; exact ⟨A, _, c, e⟩
  have H := hide h
  have HN := hide hn
  rw [hiv, hn] at CM
  have HIV := hide hiv
  clear h hv hn hiv
  go_enter Tryz.func56, Tryz.ntmps56
  go_wp2_with (fail)
  refine CM.out.mono ?_
  rintro e w1 ⟨A, n1, c, rfl, ho, hih, hnc, hb⟩
  have hn1 : n = n1 := by have := hih.1; rw [mergeL_len] at this; have := HN.out; omega
  subst hn1
  have hsl := (SlI.of_own ho hih.2.1).mono (G := fun i => col i = 0) (fun i _ hbase => H.out.fresh i hbase)
  have HR1 := hide (H.out.later hb)
  have c6' : w1.cell? ⟨p.s, 6, none⟩ = some (.slice oA n oc) := by rw [← HN.out, ← HIV.out]; exact HR1.out.cell (k := 6) rfl
  have f6 := HR1.out.free 6
  have hsh : ∃ A' c', Value.slice A n c = .slice A' (mergeL x.incs inc).length c' := by obtain ⟨A', c', e, _⟩ := hsl.shape; exact ⟨A', c', e⟩
  have HS1 : Hid (Since q B w col col (w1.setCell ⟨p.s, 6, none⟩ (.slice A n c)) r p { x with incs := mergeL x.incs inc, iv := .slice A n c, kept := keptUp x (mergeL x.incs inc) 0 } g) := by
    have s1 := HR1.out.state (x' := { x with incs := mergeL x.incs inc, iv := .slice A n c, kept := keptUp x (mergeL x.incs inc) 0 }) (grown_set w1 p.s 6 (.slice A n c)) (by rw [heap_setCell_same w1 p.s 6 _ _ (.slice A n c) HR1.out.scell]; rfl) ⟨rfl, rfl, rfl, rfl, keptUp_zero H.out.ok _⟩ hsl (learnt_ok H.out.ok inc _ 0)
    exact ((Since.refl H.out).later hb).next s1
  have HOLD : Hid (SlI (fun i => col i = 0) w (.slice oA n oc) x.incs) := by rw [← HN.out, ← HIV.out]; exact H.out.incs
  obtain ⟨W, hW⟩ : ∃ W, W = w1.setCell ⟨p.s, 6, none⟩ (.slice A n c) := ⟨_, rfl⟩
  rw [← hW] at HS1
  clear ho hih hb hsl c6 CM hsh hnc
  have c6w : (w1.setCell ⟨p.s, 6, none⟩ (.slice A n c)).cell? ⟨p.s, 6, none⟩ = some (.slice A n c) := by rw [← hW]; exact HS1.out.rep.cell (k := 6) rfl
  go_wp2
  rw [← hW]
  clear hW c6' f6 c6w
  go_loopw [22] (fun j wr => ∃ k : Nat, k ≤ n ∧ j = .int .i64 (k : Int) ∧ Since q B w col col wr r p { x with incs := mergeL x.incs inc, iv := .slice A n c, kept := keptUp x (mergeL x.incs inc) k } g) (fun j _ => n - (Go.RowKit.intOf j).toNat)
  case atStart => exact ⟨0, by omega, rfl, HS1.out⟩
  case round =>
    obtain ⟨k, hk, rfl, hs⟩ := hrel
    have HS := hide hs
    clear hs
    by_cases hlt : k < n
    · have hnew := HS.out.rep.incs
      obtain ⟨b1, o1, rfl, _, hc1⟩ := SlI.cell (A := A) (n := n) (c := c) (l := mergeL x.incs inc) hnew hlt
      obtain ⟨b2, o2, rfl, _, hc2⟩ := (HOLD.out.kept (HS.out.turned.kept fun i e e2 => by unfold hues at e2; omega)).cell (i := k) hlt
      have HNX := hide (keptUp_next H.out.ok (mergeL x.incs inc) k)
      obtain ⟨a, ha⟩ : ∃ a, (mergeL x.incs inc).getD k 0 = a := ⟨_, rfl⟩
      obtain ⟨d, hd⟩ : ∃ d, x.incs.getD k 0 = d := ⟨_, rfl⟩
      rw [ha] at hc1 HNX
      rw [hd] at hc2 HNX
      clear ha hd hnew
      have hwk : IntKind.i64.wrap ((k : Int) + 1) = (k : Int) + 1 := IntWalk.i64_in _ (by omega)
      have c10 : wr.cell? ⟨p.s, 10, none⟩ = some (.map (some p.b)) := HS.out.rep.cell (k := 10) rfl
      by_cases hgt : d < a
      · rw [if_pos hgt] at HNX
        have HMAP : Hid (wr.ownsMap Tryz.prog 3 heldR p.b g (mapD ((keptUp x (mergeL x.incs inc) k).map hpair))) := HS.out.rep.map
        have HKEY := hide (Ck.int_key (a := (k : Int) + 1) (by omega) (by omega))
        go_wp2_with (refine wpList_delete_own _ (by rfl) _ _ 104 3 (by rfl) 177 Ck.Tryz.int_law Tryz.underlying104 heldR p.b g _ (by rfl) HMAP.out _ _ (by rfl) HKEY.out ?_; intro w2 ho2 ht2; rw [del_mapD] at ho2; have ho3 : w2.ownsMap Tryz.prog 3 heldR p.b g (mapD ((keptUp x (mergeL x.incs inc) (k + 1)).map hpair)) := (by rw [HNX.out, delH_map]; exact ho2); have HS2 := hide (HS.out.next (HS.out.rep.maps (L' := keptUp x (mergeL x.incs inc) (k + 1)) ht2.grown ho3 (Nat.le_refl _) (fun y hy => HS.out.rep.msgs y (by rw [HNX.out] at hy; exact (List.mem_filter.1 hy).1)) (learnt_ok H.out.ok inc _ (k + 1)))); clear ho2 ho3 ht2 c10 hc1 hc2)
        go_roundw
        case rel => exact ⟨k + 1, by omega, by go_num, HS2.out⟩
        case measure => simp [Go.RowKit.intOf]; omega
      · rw [if_neg hgt] at HNX
        go_wp2
        go_roundw
        case rel => exact ⟨k + 1, by omega, by go_num, by rw [HNX.out]; exact HS.out⟩
        case measure => simp [Go.RowKit.intOf]; omega
    · obtain rfl : k = n := by omega
      have hk2 : keptUp x (mergeL x.incs inc) x.incs.length = keptUp x (mergeL x.incs inc) k := by rw [HN.out]
      have HK2 := hide hk2
      clear hk2
      go_wp2
      go_end0
      exact ⟨rfl, _, by unfold learnR; rw [HK2.out]; exact HS.out⟩
end
end Go.Proofs.YtaiegmhlgjogmaaGreat
/- A node hears a message. -/
namespace Go.Proofs.YtaiegmhlgjogmaaGreat
open Go.RowKit Go.Maps

section
variable {col : Nat → Nat} {q B r g : Nat} {w : World} {p : RepP} {x : RepD}
/-- Lists of no colour, behind calls that turn the node. -/
theorem Since.lists {c1 : Nat → Nat} {w1 : World} {x1 : RepD} {g1 : Nat} {m : MsgD} {s o i : Value} (h : Since q B w col c1 w1 r p x1 g1) (hm : Lists (fun i => col i = 0) w m s o i) : Lists (fun i => c1 i = 0) w1 m s o i := by
  have b3 : Lists (fun i => col i = 0 ∧ i < w.heap.size) w m s o i := hm.mono fun i hi e => ⟨e, hi⟩
  have b4 := b3.kept (h.turned.kept fun i e e2 => by unfold hues at e2; omega)
  exact b4.mono fun i _ e => by rw [h.ext.old i e.2]; exact e.1
/-- What a call tells and leaves. -/
def Told (q B r : Nat) (p : RepP) (col : Nat → Nat) (w : World) (y : RepD) (l : List MsgD) (g : Nat) (e : Ending) (w' : World) : Prop := ∃ col', Since q B w col col' w' r p y g ∧ SentC col' l w e w'

set_option maxHeartbeats 8000000 in
set_option maxRecDepth 100000 in
theorem hear_3 {m : MsgD} {s o i : Value} {y : RepD} {l : List MsgD} {g' : Nat} (h : RepAt col q B w r p x g) (hm : Lists (fun i => col i = 0) w m s o i) (hk : m.kind = 3) (hf : follI x.phase x.view m.view = 1)
    (hc : ∀ W, Later w W → Calls Tryz.prog 108 #[.pointer (some ⟨p.s, 0, none⟩), .agg (m.cells s o i).toArray, .int .i64 1] W (Told q B r p col W y l g')) :
    Calls Tryz.prog 57 #[.pointer (some ⟨p.s, 0, none⟩), .agg (m.cells s o i).toArray] w (Told q B r p col w y l g') := by
  obtain ⟨k1, k2, k3⟩ := hm.cell
  obtain ⟨W, hW⟩ : ∃ W, W = w.alloc (.cells (m.cells s o i).toArray 42 (0, 0)) := ⟨_, rfl⟩
  have LB : Hid (Later w W) := by rw [hW]; exact (Below.refl _ _).alloc (Nat.le_refl _) _
  have XB : Hid (W.heap[w.heap.size]? = some (.cells (m.cells s o i).toArray 42 (0, 0))) := by rw [hW]; exact heap_alloc_new _ _
  have H := hide h
  have HR := hide (h.later LB.out)
  have HM := hide (hm.kept (Kept.of_below LB.out _))
  have D0 : Hid (Later W W.drew) := (Below.refl _ _).drew
  have HX : Hid (∀ w', Later W w' → w'.heap[w.heap.size]? = some (.cells (m.cells s o i).toArray 42 (0, 0))) := fun w' hl => (hl.block _ (lt_of_block XB.out)).trans XB.out
  have HF : Hid (∀ w', Later W w' → w'.cell? ⟨p.s, 0, none⟩ = some (.int .i64 x.id) ∧ w'.cell? ⟨p.s, 1, none⟩ = some (.int .i64 x.n) ∧ w'.cell? ⟨p.s, 2, none⟩ = some (.int .i64 x.phase) ∧ w'.cell? ⟨p.s, 3, none⟩ = some (.int .i64 x.view) ∧ w'.cell? ⟨p.s, 4, none⟩ = some (.int .i64 x.last)) := fun w' hl => ⟨(HR.out.later hl).cell (k := 0) rfl, (HR.out.later hl).cell (k := 1) rfl, (HR.out.later hl).cell (k := 2) rfl, (HR.out.later hl).cell (k := 3) rfl, (HR.out.later hl).cell (k := 4) rfl⟩
  have CF := hide (fun w' (hl : Later W w') => follows_any x.id x.n x.phase x.view x.last (HM.out.kept (Kept.of_below hl _)))
  rw [hf] at CF
  have HC := hide (fun w' (hl : Later W w') => hc w' (LB.out.trans hl))
  unfold MsgD.cells at hW CF HC
  unfold MsgD.cells
  rw [hk] at hW CF HC ⊢
  have HK := hide hk
  clear h hm hf hc hk
  go_enter Tryz.func57, Tryz.ntmps57
  go_wp2
  rw [← hW]
  clear hW
  refine wp_region_L (by kernel_rfl) ?_
  refine wpAnyL_take (i := 0) (d := some 6) (v := ?vah30) rfl rfl (by kernel_rfl) (by kernel_rfl) (by kernel_rfl) (fun _ _ _ h => h) (by rfl) ?yah30 ?_
  case yah30 => (intro w' hw'; go_simp; try (with_reducible rfl))
  simp only [Act.put]; try simp only [List.setIfInBounds_toArray]; try simp only [List.set_cons_zero, List.set_cons_succ]
  refine wpAnyL_take (i := 1) (d := some 7) (v := ?vah31) rfl rfl (by kernel_rfl) (by kernel_rfl) (by kernel_rfl) (fun _ _ _ h => h) (by rfl) ?yah31 ?_
  case yah31 => (intro w' hw'; go_simp; try (with_reducible rfl))
  simp only [Act.put]; try simp only [List.setIfInBounds_toArray]; try simp only [List.set_cons_zero, List.set_cons_succ]
  refine wpAnyL_take (i := 2) (d := some 8) (v := ?vah32) rfl rfl (by kernel_rfl) (by kernel_rfl) (by kernel_rfl) (fun _ _ _ h => h) (by rfl) ?yah32 ?_
  case yah32 => (intro w' hw'; go_simp; try (with_reducible rfl))
  simp only [Act.put]; try simp only [List.setIfInBounds_toArray]; try simp only [List.set_cons_zero, List.set_cons_succ]
  refine wpAnyL_take (i := 3) (d := some 9) (v := .agg #[.int .i64 x.id, .int .i64 x.n, .int .i64 x.phase, .int .i64 x.view, .int .i64 x.last]) rfl rfl (by kernel_rfl) (by kernel_rfl) (by kernel_rfl) (fun _ _ _ h => h) (by rfl) ?yah33 ?_
  case yah33 => (intro w' hw'; obtain ⟨q0, q1, q2, q3, q4⟩ := HF.out w' (D0.out.trans hw'); go_simp; try (with_reducible rfl))
  simp only [Act.put]; try simp only [List.setIfInBounds_toArray]; try simp only [List.set_cons_zero, List.set_cons_succ]
  refine wpAnyL_take (i := 4) (d := some 10) (v := .agg #[.int .i64 3, .int .i64 m.src, .int .i64 m.dst, .int .i64 m.view, .int .i64 m.last, .int .i64 m.num, .int .i64 m.commit, .int .i64 m.nonce, .int .i64 m.request, .bool m.lead, .bool m.good, .bool m.fenced, .int .i64 m.op.kind, .int .i64 m.op.client, .int .i64 m.op.request, .string m.op.name, s, .int .i64 m.op.saga, .int .i64 m.op.step, .int .i64 m.op.try_, .bool m.op.back, .bool m.op.good, .int .i64 m.rerr, .int .i64 m.rsaga, .int .i64 m.rstate, .int .i64 m.rstep, .int .i64 m.cview, .int .i64 m.cstub, .int .i64 m.csaga, .int .i64 m.cstep, .int .i64 m.ctry, .bool m.cback, o, i]) rfl rfl (by kernel_rfl) (by kernel_rfl) (by kernel_rfl) (fun _ _ _ h => h) (by rfl) ?yah34 ?_
  case yah34 => (intro w' hw'; have hbx := HX.out w' (D0.out.trans hw'); unfold MsgD.cells at hbx; rw [HK.out] at hbx; exact exec_load_box 42 _ (by rfl) w.heap.size 0 (by rfl) 42 _ hbx 34 _ Tryz.underlying42 (by rfl) (by kernel_rfl) _ (by rfl) (by rfl))
  simp only [Act.put]; try simp only [List.setIfInBounds_toArray]; try simp only [List.set_cons_zero, List.set_cons_succ]
  refine wpAnyL_only (i := 5) rfl (by kernel_rfl) (by rfl) fun K hK => ?_
  go_simp
  refine (CF.out _ D0.out).mono ?_
  rintro e w1 ⟨rfl, hl⟩
  have LE : Hid (Later W.drew w1) := hl
  refine hK.out _ _ hl ?_
  clear hl
  clear hK K
  try (simp only [Act.put]; try simp only [List.setIfInBounds_toArray]; try simp only [List.set_cons_zero, List.set_cons_succ])
  refine wpAnyL_take (i := 6) (d := some 5) (v := ?vah36) rfl rfl (by kernel_rfl) (by kernel_rfl) (by kernel_rfl) (fun _ _ _ h => h) (by rfl) ?yah36 ?_
  case yah36 => (intro w' hw'; go_simp; try (with_reducible rfl))
  simp only [Act.put]; try simp only [List.setIfInBounds_toArray]; try simp only [List.set_cons_zero, List.set_cons_succ]
  refine wpAnyL_done (by kernel_rfl) ?_ _
  have L1 : Hid (Later W w1) := D0.out.trans LE.out
  have X1 : w1.heap[w.heap.size]? = some (.cells (m.cells s o i).toArray 42 (0, 0)) := HX.out w1 L1.out
  have b0 : w1.cell? ⟨w.heap.size, 0, none⟩ = some (.int .i64 3) := by rw [← HK.out]; exact box_cell X1 0 _ (by rfl)
  unfold MsgD.cells at X1
  rw [HK.out] at X1
  have HX1 := hide X1
  have HC1 := hide (HC.out w1 L1.out)
  clear CF HF HX HC LE D0 HM HR X1
  go_wp2_with (refine wpList_load_box (by rfl) 42 _ (by rfl) w.heap.size 0 (by rfl) 42 _ HX1.out 34 _ Tryz.underlying42 (by rfl) (by kernel_rfl) _ (by rfl) (by rfl) ?_)
  refine HC1.out.mono ?_
  rintro e w5 ⟨c5, hs, u, ps, base, rfl, hb, hf, hrow, hps⟩
  have HS := hide hs
  have HB := hide hb
  have HFF := hide hf
  have HROW := hide hrow
  have HPS := hide hps
  obtain ⟨A, n, c, rfl⟩ : ∃ A n c, u = .slice A n c := by
    obtain ⟨_, _, A, c, e, _⟩ := hrow.msgs.1
    exact ⟨A, _, c, e⟩
  clear hs hb hf hrow hps HC1 b0
  go_wp2
  go_ret
  have hsz := Below.size (LB.out.trans L1.out)
  exact ⟨c5, (((Since.refl H.out).later LB.out).later L1.out).next HS.out, _, ps, base, rfl, Nat.le_trans hsz HB.out, HFF.out, HROW.out, HPS.out⟩
set_option maxHeartbeats 8000000 in
set_option maxRecDepth 100000 in
theorem hear_4 {m : MsgD} {s o i : Value} {y : RepD} {l : List MsgD} {g' : Nat} (h : RepAt col q B w r p x g) (hm : Lists (fun i => col i = 0) w m s o i) (hk : m.kind = 4) (hf : follI x.phase x.view m.view = 1)
    (hc : ∀ W, Later w W → Calls Tryz.prog 109 #[.pointer (some ⟨p.s, 0, none⟩), .agg (m.cells s o i).toArray, .int .i64 1] W (Told q B r p col W y l g')) :
    Calls Tryz.prog 57 #[.pointer (some ⟨p.s, 0, none⟩), .agg (m.cells s o i).toArray] w (Told q B r p col w y l g') := by
  obtain ⟨k1, k2, k3⟩ := hm.cell
  obtain ⟨W, hW⟩ : ∃ W, W = w.alloc (.cells (m.cells s o i).toArray 42 (0, 0)) := ⟨_, rfl⟩
  have LB : Hid (Later w W) := by rw [hW]; exact (Below.refl _ _).alloc (Nat.le_refl _) _
  have XB : Hid (W.heap[w.heap.size]? = some (.cells (m.cells s o i).toArray 42 (0, 0))) := by rw [hW]; exact heap_alloc_new _ _
  have H := hide h
  have HR := hide (h.later LB.out)
  have HM := hide (hm.kept (Kept.of_below LB.out _))
  have D0 : Hid (Later W W.drew) := (Below.refl _ _).drew
  have HX : Hid (∀ w', Later W w' → w'.heap[w.heap.size]? = some (.cells (m.cells s o i).toArray 42 (0, 0))) := fun w' hl => (hl.block _ (lt_of_block XB.out)).trans XB.out
  have HF : Hid (∀ w', Later W w' → w'.cell? ⟨p.s, 0, none⟩ = some (.int .i64 x.id) ∧ w'.cell? ⟨p.s, 1, none⟩ = some (.int .i64 x.n) ∧ w'.cell? ⟨p.s, 2, none⟩ = some (.int .i64 x.phase) ∧ w'.cell? ⟨p.s, 3, none⟩ = some (.int .i64 x.view) ∧ w'.cell? ⟨p.s, 4, none⟩ = some (.int .i64 x.last)) := fun w' hl => ⟨(HR.out.later hl).cell (k := 0) rfl, (HR.out.later hl).cell (k := 1) rfl, (HR.out.later hl).cell (k := 2) rfl, (HR.out.later hl).cell (k := 3) rfl, (HR.out.later hl).cell (k := 4) rfl⟩
  have CF := hide (fun w' (hl : Later W w') => follows_any x.id x.n x.phase x.view x.last (HM.out.kept (Kept.of_below hl _)))
  rw [hf] at CF
  have HC := hide (fun w' (hl : Later W w') => hc w' (LB.out.trans hl))
  unfold MsgD.cells at hW CF HC
  unfold MsgD.cells
  rw [hk] at hW CF HC ⊢
  have HK := hide hk
  clear h hm hf hc hk
  go_enter Tryz.func57, Tryz.ntmps57
  go_wp2
  rw [← hW]
  clear hW
  refine wp_region_L (by kernel_rfl) ?_
  refine wpAnyL_take (i := 0) (d := some 6) (v := ?vah40) rfl rfl (by kernel_rfl) (by kernel_rfl) (by kernel_rfl) (fun _ _ _ h => h) (by rfl) ?yah40 ?_
  case yah40 => (intro w' hw'; go_simp; try (with_reducible rfl))
  simp only [Act.put]; try simp only [List.setIfInBounds_toArray]; try simp only [List.set_cons_zero, List.set_cons_succ]
  refine wpAnyL_take (i := 1) (d := some 7) (v := ?vah41) rfl rfl (by kernel_rfl) (by kernel_rfl) (by kernel_rfl) (fun _ _ _ h => h) (by rfl) ?yah41 ?_
  case yah41 => (intro w' hw'; go_simp; try (with_reducible rfl))
  simp only [Act.put]; try simp only [List.setIfInBounds_toArray]; try simp only [List.set_cons_zero, List.set_cons_succ]
  refine wpAnyL_take (i := 2) (d := some 8) (v := ?vah42) rfl rfl (by kernel_rfl) (by kernel_rfl) (by kernel_rfl) (fun _ _ _ h => h) (by rfl) ?yah42 ?_
  case yah42 => (intro w' hw'; go_simp; try (with_reducible rfl))
  simp only [Act.put]; try simp only [List.setIfInBounds_toArray]; try simp only [List.set_cons_zero, List.set_cons_succ]
  refine wpAnyL_take (i := 3) (d := some 9) (v := .agg #[.int .i64 x.id, .int .i64 x.n, .int .i64 x.phase, .int .i64 x.view, .int .i64 x.last]) rfl rfl (by kernel_rfl) (by kernel_rfl) (by kernel_rfl) (fun _ _ _ h => h) (by rfl) ?yah43 ?_
  case yah43 => (intro w' hw'; obtain ⟨q0, q1, q2, q3, q4⟩ := HF.out w' (D0.out.trans hw'); go_simp; try (with_reducible rfl))
  simp only [Act.put]; try simp only [List.setIfInBounds_toArray]; try simp only [List.set_cons_zero, List.set_cons_succ]
  refine wpAnyL_take (i := 4) (d := some 10) (v := .agg #[.int .i64 4, .int .i64 m.src, .int .i64 m.dst, .int .i64 m.view, .int .i64 m.last, .int .i64 m.num, .int .i64 m.commit, .int .i64 m.nonce, .int .i64 m.request, .bool m.lead, .bool m.good, .bool m.fenced, .int .i64 m.op.kind, .int .i64 m.op.client, .int .i64 m.op.request, .string m.op.name, s, .int .i64 m.op.saga, .int .i64 m.op.step, .int .i64 m.op.try_, .bool m.op.back, .bool m.op.good, .int .i64 m.rerr, .int .i64 m.rsaga, .int .i64 m.rstate, .int .i64 m.rstep, .int .i64 m.cview, .int .i64 m.cstub, .int .i64 m.csaga, .int .i64 m.cstep, .int .i64 m.ctry, .bool m.cback, o, i]) rfl rfl (by kernel_rfl) (by kernel_rfl) (by kernel_rfl) (fun _ _ _ h => h) (by rfl) ?yah44 ?_
  case yah44 => (intro w' hw'; have hbx := HX.out w' (D0.out.trans hw'); unfold MsgD.cells at hbx; rw [HK.out] at hbx; exact exec_load_box 42 _ (by rfl) w.heap.size 0 (by rfl) 42 _ hbx 34 _ Tryz.underlying42 (by rfl) (by kernel_rfl) _ (by rfl) (by rfl))
  simp only [Act.put]; try simp only [List.setIfInBounds_toArray]; try simp only [List.set_cons_zero, List.set_cons_succ]
  refine wpAnyL_only (i := 5) rfl (by kernel_rfl) (by rfl) fun K hK => ?_
  go_simp
  refine (CF.out _ D0.out).mono ?_
  rintro e w1 ⟨rfl, hl⟩
  have LE : Hid (Later W.drew w1) := hl
  refine hK.out _ _ hl ?_
  clear hl
  clear hK K
  try (simp only [Act.put]; try simp only [List.setIfInBounds_toArray]; try simp only [List.set_cons_zero, List.set_cons_succ])
  refine wpAnyL_take (i := 6) (d := some 5) (v := ?vah46) rfl rfl (by kernel_rfl) (by kernel_rfl) (by kernel_rfl) (fun _ _ _ h => h) (by rfl) ?yah46 ?_
  case yah46 => (intro w' hw'; go_simp; try (with_reducible rfl))
  simp only [Act.put]; try simp only [List.setIfInBounds_toArray]; try simp only [List.set_cons_zero, List.set_cons_succ]
  refine wpAnyL_done (by kernel_rfl) ?_ _
  have L1 : Hid (Later W w1) := D0.out.trans LE.out
  have X1 : w1.heap[w.heap.size]? = some (.cells (m.cells s o i).toArray 42 (0, 0)) := HX.out w1 L1.out
  have b0 : w1.cell? ⟨w.heap.size, 0, none⟩ = some (.int .i64 4) := by rw [← HK.out]; exact box_cell X1 0 _ (by rfl)
  unfold MsgD.cells at X1
  rw [HK.out] at X1
  have HX1 := hide X1
  have HC1 := hide (HC.out w1 L1.out)
  clear CF HF HX HC LE D0 HM HR X1
  go_wp2_with (refine wpList_load_box (by rfl) 42 _ (by rfl) w.heap.size 0 (by rfl) 42 _ HX1.out 34 _ Tryz.underlying42 (by rfl) (by kernel_rfl) _ (by rfl) (by rfl) ?_)
  refine HC1.out.mono ?_
  rintro e w5 ⟨c5, hs, u, ps, base, rfl, hb, hf, hrow, hps⟩
  have HS := hide hs
  have HB := hide hb
  have HFF := hide hf
  have HROW := hide hrow
  have HPS := hide hps
  obtain ⟨A, n, c, rfl⟩ : ∃ A n c, u = .slice A n c := by
    obtain ⟨_, _, A, c, e, _⟩ := hrow.msgs.1
    exact ⟨A, _, c, e⟩
  clear hs hb hf hrow hps HC1 b0
  go_wp2
  go_ret
  have hsz := Below.size (LB.out.trans L1.out)
  exact ⟨c5, (((Since.refl H.out).later LB.out).later L1.out).next HS.out, _, ps, base, rfl, Nat.le_trans hsz HB.out, HFF.out, HROW.out, HPS.out⟩

set_option maxHeartbeats 8000000 in
set_option maxRecDepth 100000 in
theorem hears_any {m : MsgD} {s o i : Value} {Y : Value → RepD} {M : Value → List MsgD} {g' : Nat} (h : RepAt col q B w r p x g) (hm : Lists (fun i => col i = 0) w m s o i) (hc : Comes x m) (hph : x.phase ≠ 3) (hfit : Fit m.incs)
    (hh : ∀ (W : World) (c1 : Nat → Nat) (iv : Value), RepAt c1 q B W r p (learnR x m.incs iv) g → Lists (fun i => c1 i = 0) W m s o i → Calls Tryz.prog 57 #[.pointer (some ⟨p.s, 0, none⟩), .agg (m.cells s o i).toArray] W (Told q B r p c1 W (Y iv) (M iv) g')) :
    Calls Tryz.prog 25 #[.pointer (some ⟨r, 0, none⟩), .agg (m.cells s o i).toArray] w fun e w' => ∃ iv, Told q B r p col w (Y iv) (M iv) g' e w' := by
  obtain ⟨k1, k2, k3⟩ := hm.cell
  obtain ⟨mA, mc, rfl, _, _, _⟩ := FlatAt.shape hm.2.2
  obtain ⟨W, hW⟩ : ∃ W, W = w.alloc (.cells (m.cells s o (.slice mA m.incs.length mc)).toArray 42 (0, 0)) := ⟨_, rfl⟩
  have LB : Hid (Later w W) := by rw [hW]; exact (Below.refl _ _).alloc (Nat.le_refl _) _
  have XB : Hid (W.heap[w.heap.size]? = some (.cells (m.cells s o (.slice mA m.incs.length mc)).toArray 42 (0, 0))) := by rw [hW]; exact heap_alloc_new _ _
  have hcw : col w.heap.size = 0 := h.fresh _ (Nat.le_refl _)
  have HCW := hide hcw
  have H := hide h
  have HR := hide (h.later LB.out)
  have HM := hide (hm.kept (Kept.of_below LB.out _))
  have HH := hide hh
  have HFI := hide hfit
  have HPH := hide hph
  have D0 : Hid (Later W W.drew) := (Below.refl _ _).drew
  have HF : Hid (∀ w', Later W w' → w'.cell? ⟨r, 0, none⟩ = some (.pointer (some ⟨p.s, 0, none⟩))) := fun w' hl => (HR.out.later hl).rptr
  have CM := hide (fun w' (hl : Later W w') => made_any (HR.out.later hl))
  have CL := hide (fun w' (hl : Later W w') => listens_yes (HR.out.later hl) (HM.out.kept (Kept.of_below hl _)) hc)
  have hn5 : m.incs.length ≤ 5 := by have := hc.incs; have := h.ok.n; omega
  unfold MsgD.cells at hW CL
  unfold MsgD.cells
  clear h hm hc hh hfit hcw hph
  go_enter Tryz.func25, Tryz.ntmps25
  go_wp2
  rw [← hW]
  clear hW
  refine wp_region_L (by kernel_rfl) ?_
  refine wpAnyL_take (i := 0) (d := some 5) (v := ?vaa0) rfl rfl (by kernel_rfl) (by kernel_rfl) (by kernel_rfl) (fun _ _ _ h => h) (by rfl) ?yaa0 ?_
  case yaa0 => (intro w' hw'; go_simp; try (with_reducible rfl))
  simp only [Act.put]; try simp only [List.setIfInBounds_toArray]; try simp only [List.set_cons_zero, List.set_cons_succ]
  refine wpAnyL_only (i := 1) rfl (by kernel_rfl) (by rfl) fun K hK => ?_
  go_simp
  refine (CM.out _ D0.out).mono ?_
  rintro e v1 ⟨rfl, rfl⟩
  refine hK.out _ _ (Below.refl _ _) ?_
  clear hK K
  try (simp only [Act.put]; try simp only [List.setIfInBounds_toArray]; try simp only [List.set_cons_zero, List.set_cons_succ])
  refine wpAnyL_take (i := 2) (d := some 7) (v := ?vaa2) rfl rfl (by kernel_rfl) (by kernel_rfl) (by kernel_rfl) (fun _ _ _ h => h) (by rfl) ?yaa2 ?_
  case yaa2 => (intro w' hw'; go_simp; try (with_reducible rfl))
  simp only [Act.put]; try simp only [List.setIfInBounds_toArray]; try simp only [List.set_cons_zero, List.set_cons_succ]
  refine wpAnyL_take (i := 3) (d := some 8) (v := ?vaa3) rfl rfl (by kernel_rfl) (by kernel_rfl) (by kernel_rfl) (fun _ _ _ h => h) (by rfl) ?yaa3 ?_
  case yaa3 => (intro w' hw'; go_simp; try (with_reducible rfl))
  simp only [Act.put]; try simp only [List.setIfInBounds_toArray]; try simp only [List.set_cons_zero, List.set_cons_succ]
  refine wpAnyL_take (i := 4) (d := some 9) (v := ?vaa4) rfl rfl (by kernel_rfl) (by kernel_rfl) (by kernel_rfl) (fun _ _ _ h => h) (by rfl) ?yaa4 ?_
  case yaa4 => (intro w' hw'; go_simp; try (with_reducible rfl))
  simp only [Act.put]; try simp only [List.setIfInBounds_toArray]; try simp only [List.set_cons_zero, List.set_cons_succ]
  refine wpAnyL_take (i := 5) (d := some 10) (v := ?vaa5) rfl rfl (by kernel_rfl) (by kernel_rfl) (by kernel_rfl) (fun _ _ _ h => h) (by rfl) ?yaa5 ?_
  case yaa5 => (intro w' hw'; go_simp; try (with_reducible rfl))
  simp only [Act.put]; try simp only [List.setIfInBounds_toArray]; try simp only [List.set_cons_zero, List.set_cons_succ]
  refine wpAnyL_take (i := 6) (d := some 11) (v := ?vaa6) rfl rfl (by kernel_rfl) (by kernel_rfl) (by kernel_rfl) (fun _ _ _ h => h) (by rfl) ?yaa6 ?_
  case yaa6 => (intro w' hw'; go_simp; try (with_reducible rfl))
  simp only [Act.put]; try simp only [List.setIfInBounds_toArray]; try simp only [List.set_cons_zero, List.set_cons_succ]
  refine wpAnyL_take (i := 7) (d := some 12) (v := .pointer (some ⟨p.s, 0, none⟩)) rfl rfl (by kernel_rfl) (by kernel_rfl) (by kernel_rfl) (fun _ _ _ h => h) (by rfl) ?yaa7 ?_
  case yaa7 => (intro w' hw'; have hq := HF.out w' (D0.out.trans hw'); go_simp; try (with_reducible rfl))
  simp only [Act.put]; try simp only [List.setIfInBounds_toArray]; try simp only [List.set_cons_zero, List.set_cons_succ]
  refine wpAnyL_take (i := 8) (d := some 13) (v := .agg #[.int .i64 m.kind, .int .i64 m.src, .int .i64 m.dst, .int .i64 m.view, .int .i64 m.last, .int .i64 m.num, .int .i64 m.commit, .int .i64 m.nonce, .int .i64 m.request, .bool m.lead, .bool m.good, .bool m.fenced, .int .i64 m.op.kind, .int .i64 m.op.client, .int .i64 m.op.request, .string m.op.name, s, .int .i64 m.op.saga, .int .i64 m.op.step, .int .i64 m.op.try_, .bool m.op.back, .bool m.op.good, .int .i64 m.rerr, .int .i64 m.rsaga, .int .i64 m.rstate, .int .i64 m.rstep, .int .i64 m.cview, .int .i64 m.cstub, .int .i64 m.csaga, .int .i64 m.cstep, .int .i64 m.ctry, .bool m.cback, o, .slice mA m.incs.length mc]) rfl rfl (by kernel_rfl) (by kernel_rfl) (by kernel_rfl) (fun _ _ _ h => h) (by rfl) ?yaa8 ?_
  case yaa8 => (intro w' hw'; exact exec_load_box 42 _ (by rfl) w.heap.size 0 (by rfl) 42 _ ((Below.block (D0.out.trans hw') _ (lt_of_block XB.out)).trans XB.out) 34 _ Tryz.underlying42 (by rfl) (by kernel_rfl) (m.cells s o (.slice mA m.incs.length mc)) (by rfl) (by rfl))
  simp only [Act.put]; try simp only [List.setIfInBounds_toArray]; try simp only [List.set_cons_zero, List.set_cons_succ]
  refine wpAnyL_only (i := 9) rfl (by kernel_rfl) (by rfl) fun K hK => ?_
  go_simp
  refine (CL.out _ D0.out).mono ?_
  rintro e w1 ⟨rfl, hl⟩
  have LE : Hid (Later W.drew w1) := hl
  refine hK.out _ _ hl ?_
  clear hl
  clear hK K
  try (simp only [Act.put]; try simp only [List.setIfInBounds_toArray]; try simp only [List.set_cons_zero, List.set_cons_succ])
  refine wpAnyL_take (i := 10) (d := some 15) (v := ?vaa10) rfl rfl (by kernel_rfl) (by kernel_rfl) (by kernel_rfl) (fun _ _ _ h => h) (by rfl) ?yaa10 ?_
  case yaa10 => (intro w' hw'; go_simp; try (with_reducible rfl))
  simp only [Act.put]; try simp only [List.setIfInBounds_toArray]; try simp only [List.set_cons_zero, List.set_cons_succ]
  refine wpAnyL_take (i := 11) (d := some 16) (v := ?vaa11) rfl rfl (by kernel_rfl) (by kernel_rfl) (by kernel_rfl) (fun _ _ _ h => h) (by rfl) ?yaa11 ?_
  case yaa11 => (intro w' hw'; go_simp; try (with_reducible rfl))
  simp only [Act.put]; try simp only [List.setIfInBounds_toArray]; try simp only [List.set_cons_zero, List.set_cons_succ]
  refine wpAnyL_done (by kernel_rfl) ?_ _
  have HR1 := hide ((HR.out.later D0.out).later LE.out)
  have L1 : Hid (Later w w1) := LB.out.trans (D0.out.trans LE.out)
  have X1 : Hid (w1.heap[w.heap.size]? = some (.cells (m.cells s o (.slice mA m.incs.length mc)).toArray 42 (0, 0))) := ((D0.out.trans LE.out).block _ (lt_of_block XB.out)).trans XB.out
  have HM1 := hide (HM.out.kept (Kept.of_below (D0.out.trans LE.out) _))
  have HF1 : Hid (∀ w', Later w1 w' → w'.cell? ⟨r, 0, none⟩ = some (.pointer (some ⟨p.s, 0, none⟩)) ∧ w'.cell? ⟨w.heap.size, 33, none⟩ = some (.slice mA m.incs.length mc)) := fun w' hl => ⟨(HR1.out.later hl).rptr, box_cell ((hl.block _ (lt_of_block X1.out)).trans X1.out) 33 _ (by rfl)⟩
  have CE := hide (fun w' (hl : Later w1 w') => learn_any (HR1.out.later hl) (⟨(HM1.out.kept (Kept.of_below hl _)).2.2, HFI.out⟩ : SlI (fun i => col i = 0) w' (.slice mA m.incs.length mc) m.incs))
  have D1 : Hid (Later w1 w1.drew) := (Below.refl _ _).drew
  clear HF CM CL LE D0 HR HM LB
  go_wp2
  refine wp_region_S (fun j => j == 6) (by kernel_rfl) ?_
  refine wpAnyS_take (i := 0) (d := some 17) (v := ?vab0) rfl rfl (by kernel_rfl) (by kernel_rfl) (by kernel_rfl) (by kernel_rfl) (by kernel_rfl) (fun _ _ _ h => h) (by rfl) ?yab0 ?_
  case yab0 => (intro w' hw'; go_simp; try (with_reducible rfl))
  simp only [Act.put]; try simp only [List.setIfInBounds_toArray]; try simp only [List.set_cons_zero, List.set_cons_succ]
  refine wpAnyS_take (i := 1) (d := some 18) (v := ?vab1) rfl rfl (by kernel_rfl) (by kernel_rfl) (by kernel_rfl) (by kernel_rfl) (by kernel_rfl) (fun _ _ _ h => h) (by rfl) ?yab1 ?_
  case yab1 => (intro w' hw'; go_simp; try (with_reducible rfl))
  simp only [Act.put]; try simp only [List.setIfInBounds_toArray]; try simp only [List.set_cons_zero, List.set_cons_succ]
  refine wpAnyS_take (i := 2) (d := some 19) (v := ?vab2) rfl rfl (by kernel_rfl) (by kernel_rfl) (by kernel_rfl) (by kernel_rfl) (by kernel_rfl) (fun _ _ _ h => h) (by rfl) ?yab2 ?_
  case yab2 => (intro w' hw'; go_simp; try (with_reducible rfl))
  simp only [Act.put]; try simp only [List.setIfInBounds_toArray]; try simp only [List.set_cons_zero, List.set_cons_succ]
  refine wpAnyS_take (i := 3) (d := some 20) (v := .pointer (some ⟨p.s, 0, none⟩)) rfl rfl (by kernel_rfl) (by kernel_rfl) (by kernel_rfl) (by kernel_rfl) (by kernel_rfl) (fun _ _ _ h => h) (by rfl) ?yab3 ?_
  case yab3 => (intro w' hw'; have hq := (HF1.out w' (D1.out.trans hw')).1; go_simp; try (with_reducible rfl))
  simp only [Act.put]; try simp only [List.setIfInBounds_toArray]; try simp only [List.set_cons_zero, List.set_cons_succ]
  refine wpAnyS_take (i := 4) (d := some 21) (v := ?vab4) rfl rfl (by kernel_rfl) (by kernel_rfl) (by kernel_rfl) (by kernel_rfl) (by kernel_rfl) (fun _ _ _ h => h) (by rfl) ?yab4 ?_
  case yab4 => (intro w' hw'; go_simp; try (with_reducible rfl))
  simp only [Act.put]; try simp only [List.setIfInBounds_toArray]; try simp only [List.set_cons_zero, List.set_cons_succ]
  refine wpAnyS_take (i := 5) (d := some 22) (v := .slice mA m.incs.length mc) rfl rfl (by kernel_rfl) (by kernel_rfl) (by kernel_rfl) (by kernel_rfl) (by kernel_rfl) (fun _ _ _ h => h) (by rfl) ?yab5 ?_
  case yab5 => (intro w' hw'; have hq := (HF1.out w' (D1.out.trans hw')).2; go_simp; try (with_reducible rfl))
  simp only [Act.put]; try simp only [List.setIfInBounds_toArray]; try simp only [List.set_cons_zero, List.set_cons_succ]
  refine wpAnyS_write (i := 6) rfl rfl (by kernel_rfl) (by rfl) fun K hK => ?_
  go_simp
  refine (CE.out _ D1.out).mono ?_
  rintro e w2 ⟨rfl, iv, hn⟩
  have HN := hide hn
  clear hn
  refine hK.out _ _ ?_
  clear hK K
  try (simp only [Act.put]; try simp only [List.setIfInBounds_toArray]; try simp only [List.set_cons_zero, List.set_cons_succ])
  refine wpAnyS_done (by kernel_rfl) ?_ _
  have HS2 : Hid (Since q B w col col w2 r p (learnR x m.incs iv) g) := (((Since.refl H.out).later L1.out).later D1.out).next HN.out
  have X2 : Hid (w2.heap[w.heap.size]? = some (.cells (m.cells s o (.slice mA m.incs.length mc)).toArray 42 (0, 0))) := HN.out.white (show w1.drew.heap[w.heap.size]? = _ from X1.out) HCW.out
  have HM2 := hide (HN.out.lists (HM1.out.kept (Kept.of_below D1.out _)))
  have ph : (learnR x m.incs iv).phase = x.phase := rfl
  have c2 : w2.cell? ⟨p.s, 2, none⟩ = some (.int .i64 x.phase) := HS2.out.rep.cell (k := 2) rfl
  have rp : w2.cell? ⟨r, 0, none⟩ = some (.pointer (some ⟨p.s, 0, none⟩)) := HS2.out.rep.rptr
  have e3 : (x.phase == 3) = false := by simpa using HPH.out
  have HF2 : Hid (∀ w', Later w2 w' → w'.cell? ⟨r, 0, none⟩ = some (.pointer (some ⟨p.s, 0, none⟩))) := fun w' hl => (HS2.out.rep.later hl).rptr
  have CR := hide (fun w' (hl : Later w2 w') => HH.out w' col iv (HS2.out.rep.later hl) (HM2.out.kept (Kept.of_below hl _)))
  unfold MsgD.cells at CR
  have D2 : Hid (Later w2 w2.drew) := (Below.refl _ _).drew
  clear CE HF1 HN X1 HM1 HH HR1 ph
  go_wp2
  refine wp_region_S (fun j => j == 5) (by kernel_rfl) ?_
  refine wpAnyS_take (i := 0) (d := some 38) (v := ?vac0) rfl rfl (by kernel_rfl) (by kernel_rfl) (by kernel_rfl) (by kernel_rfl) (by kernel_rfl) (fun _ _ _ h => h) (by rfl) ?yac0 ?_
  case yac0 => (intro w' hw'; go_simp; try (with_reducible rfl))
  simp only [Act.put]; try simp only [List.setIfInBounds_toArray]; try simp only [List.set_cons_zero, List.set_cons_succ]
  refine wpAnyS_take (i := 1) (d := some 39) (v := ?vac1) rfl rfl (by kernel_rfl) (by kernel_rfl) (by kernel_rfl) (by kernel_rfl) (by kernel_rfl) (fun _ _ _ h => h) (by rfl) ?yac1 ?_
  case yac1 => (intro w' hw'; go_simp; try (with_reducible rfl))
  simp only [Act.put]; try simp only [List.setIfInBounds_toArray]; try simp only [List.set_cons_zero, List.set_cons_succ]
  refine wpAnyS_take (i := 2) (d := some 40) (v := ?vac2) rfl rfl (by kernel_rfl) (by kernel_rfl) (by kernel_rfl) (by kernel_rfl) (by kernel_rfl) (fun _ _ _ h => h) (by rfl) ?yac2 ?_
  case yac2 => (intro w' hw'; go_simp; try (with_reducible rfl))
  simp only [Act.put]; try simp only [List.setIfInBounds_toArray]; try simp only [List.set_cons_zero, List.set_cons_succ]
  refine wpAnyS_take (i := 3) (d := some 41) (v := .pointer (some ⟨p.s, 0, none⟩)) rfl rfl (by kernel_rfl) (by kernel_rfl) (by kernel_rfl) (by kernel_rfl) (by kernel_rfl) (fun _ _ _ h => h) (by rfl) ?yac3 ?_
  case yac3 => (intro w' hw'; have hq := HF2.out w' (D2.out.trans hw'); go_simp; try (with_reducible rfl))
  simp only [Act.put]; try simp only [List.setIfInBounds_toArray]; try simp only [List.set_cons_zero, List.set_cons_succ]
  refine wpAnyS_take (i := 4) (d := some 42) (v := .agg #[.int .i64 m.kind, .int .i64 m.src, .int .i64 m.dst, .int .i64 m.view, .int .i64 m.last, .int .i64 m.num, .int .i64 m.commit, .int .i64 m.nonce, .int .i64 m.request, .bool m.lead, .bool m.good, .bool m.fenced, .int .i64 m.op.kind, .int .i64 m.op.client, .int .i64 m.op.request, .string m.op.name, s, .int .i64 m.op.saga, .int .i64 m.op.step, .int .i64 m.op.try_, .bool m.op.back, .bool m.op.good, .int .i64 m.rerr, .int .i64 m.rsaga, .int .i64 m.rstate, .int .i64 m.rstep, .int .i64 m.cview, .int .i64 m.cstub, .int .i64 m.csaga, .int .i64 m.cstep, .int .i64 m.ctry, .bool m.cback, o, .slice mA m.incs.length mc]) rfl rfl (by kernel_rfl) (by kernel_rfl) (by kernel_rfl) (by kernel_rfl) (by kernel_rfl) (fun _ _ _ h => h) (by rfl) ?yac4 ?_
  case yac4 => (intro w' hw'; exact exec_load_box 42 _ (by rfl) w.heap.size 0 (by rfl) 42 _ ((Below.block (D2.out.trans hw') _ (lt_of_block X2.out)).trans X2.out) 34 _ Tryz.underlying42 (by rfl) (by kernel_rfl) (m.cells s o (.slice mA m.incs.length mc)) (by rfl) (by rfl))
  simp only [Act.put]; try simp only [List.setIfInBounds_toArray]; try simp only [List.set_cons_zero, List.set_cons_succ]
  refine wpAnyS_write (i := 5) rfl rfl (by kernel_rfl) (by rfl) fun K hK => ?_
  go_simp
  refine (CR.out _ D2.out).mono ?_
  rintro e w5 ht
  have HT := hide ht
  obtain ⟨u, rfl⟩ : ∃ u, e = .returned u := by obtain ⟨_, _, u, _, _, h, _⟩ := ht; exact ⟨u, h⟩
  clear ht
  refine hK.out _ _ ?_
  clear hK K
  try (simp only [Act.put]; try simp only [List.setIfInBounds_toArray]; try simp only [List.set_cons_zero, List.set_cons_succ])
  refine wpAnyS_pure (i := 6) (d := some 4) (v := ?vac6) rfl rfl (by kernel_rfl) (by kernel_rfl) (by kernel_rfl) (by kernel_rfl) (fun _ _ _ h => h) (by rfl) ?yac6 ?_
  case yac6 => (intro w'; go_simp; try (with_reducible rfl))
  simp only [Act.put]; try simp only [List.setIfInBounds_toArray]; try simp only [List.set_cons_zero, List.set_cons_succ]
  refine wpAnyS_done (by kernel_rfl) ?_ _
  obtain ⟨c5, hs, u', ps, base, he, hb, hf, hrow, hps⟩ := HT.out
  injection he with he
  subst he
  have HS := hide hs
  have HB := hide hb
  have HFF := hide hf
  have HROW := hide hrow
  have HPS := hide hps
  obtain ⟨A, n, c, rfl⟩ : ∃ A n c, u = .slice A n c := by
    obtain ⟨_, _, A, c, e, _⟩ := hrow.msgs.1
    exact ⟨A, _, c, e⟩
  clear hs hb hf hrow hps HT
  go_wp2
  go_ret
  exact ⟨iv, c5, (HS2.out.later D2.out).next HS.out, _, ps, base, rfl, Nat.le_trans HS2.out.turned.size HB.out, HFF.out, HROW.out, HPS.out⟩
end
end Go.Proofs.YtaiegmhlgjogmaaGreat
/- What a quorum has reached, as numbers: the acks falling, the quorum's one of them. -/
namespace Go.Proofs.YtaiegmhlgjogmaaGreat
open Go.RowKit

def falling (l : List Int) : List Int := l.mergeSort fun x y => decide (y ≤ x)
theorem falling_perm (l : List Int) : (falling l).Perm l := List.mergeSort_perm _ _
theorem falling_len (l : List Int) : (falling l).length = l.length := (falling_perm l).length_eq
theorem falling_sorted (l : List Int) : (falling l).Pairwise fun x y => y ≤ x := by
  have h := List.pairwise_mergeSort (le := fun x y : Int => decide (y ≤ x)) (by intro a b c h1 h2; simp at *; omega) (by intro a b; simp; omega) l
  exact h.imp (by intro a b h; simpa using h)
theorem falling_fit {l : List Int} (h : Fit l) : Fit (falling l) := fun x hx => h x ((falling_perm l).mem_iff.1 hx)
/-- What is reached of these acks. -/
def reachI (l : List Int) (last n : Int) : Int := if quorI n = 0 ∨ (l.length : Int) < quorI n then 0 else max 0 (min last ((falling l).getD ((quorI n).toNat - 1) 0))
theorem quor_cases (n : Int) : quorI n = 0 ∨ quorI n = 2 ∨ quorI n = 3 := by
  unfold quorI okN
  by_cases h : 2 ≤ n ∧ n ≤ 5
  · have h2 : (decide (2 ≤ n) && decide (n ≤ 5)) = true := by simpa using h
    rw [if_pos h2]
    omega
  · left
    rw [if_neg (by simpa using h)]
/-- The item at k of a falling list: so many are as great, and not so many are greater. -/
theorem count_ge {s : List Int} (hs : s.Pairwise fun x y => y ≤ x) {k : Nat} (hk : k < s.length) : k + 1 ≤ s.countP (fun x => decide (s[k] ≤ x)) := by
  have h1 : (s.take (k + 1)).countP (fun x => decide (s[k] ≤ x)) = (s.take (k + 1)).length := by
    rw [List.countP_eq_length]
    intro x hx
    obtain ⟨i, hi, rfl⟩ := List.getElem_of_mem hx
    rw [List.length_take] at hi
    rw [List.getElem_take]
    simp only [decide_eq_true_eq]
    by_cases e : i = k
    · subst e; exact Int.le_refl _
    · exact List.pairwise_iff_getElem.1 hs i k (by omega) hk (by omega)
  have h2 : (s.take (k + 1)).length = k + 1 := by rw [List.length_take]; omega
  have h3 := (List.take_sublist (k + 1) s).countP_le (p := fun x => decide (s[k] ≤ x))
  omega
theorem count_gt {s : List Int} (hs : s.Pairwise fun x y => y ≤ x) {k : Nat} (hk : k < s.length) : s.countP (fun x => decide (s[k] < x)) ≤ k := by
  have e : s = s.take k ++ s.drop k := (List.take_append_drop k s).symm
  have h1 : (s.drop k).countP (fun x => decide (s[k] < x)) = 0 := by
    rw [List.countP_eq_zero]
    intro x hx
    obtain ⟨i, hi, rfl⟩ := List.getElem_of_mem hx
    rw [List.getElem_drop]
    simp only [decide_eq_true_eq]
    rw [List.length_drop] at hi
    by_cases e : i = 0
    · subst e; simp
    · have := List.pairwise_iff_getElem.1 hs k (k + i) hk (by omega) (by omega)
      omega
  have h2 : (s.take k).countP (fun x => decide (s[k] < x)) ≤ k := by
    have := List.countP_le_length (p := fun x => decide (s[k] < x)) (l := s.take k)
    rw [List.length_take] at this
    omega
  have h3 : s.countP (fun x => decide (s[k] < x)) = (s.take k ++ s.drop k).countP (fun x => decide (s[k] < x)) := by rw [List.take_append_drop]
  rw [h3, List.countP_append]
  omega
theorem reach_ex : reachI [5, 3, 4] 5 3 = 4 := by
  have h : falling [5, 3, 4] = [5, 4, 3] := by
    refine List.Perm.eq_of_pairwise (le := fun x y : Int => y ≤ x) (fun a b _ _ h1 h2 => by omega) (falling_sorted _) (by simp) ((falling_perm _).trans ?_)
    decide
  rw [reachI, h]
  decide
end Go.Proofs.YtaiegmhlgjogmaaGreat
/- Contracts of the library laid at this program: its numbers, and that its bodies are the ones that the contracts speak of. -/
namespace Go.Proofs.YtaiegmhlgjogmaaGreat
open Go.Shelf
def Tryz.sortD_ren : Go.Shelf.Ren := ⟨fun | 6 => 176 | 15 => 194 | 14 => 193 | 28 => 213 | 29 => 214 | 20 => 205 | 21 => 206 | 22 => 207 | 23 => 208 | 24 => 209 | 25 => 210 | 26 => 211 | 27 => 212 | 46 => 226 | 47 => 227 | 48 => 228 | 49 => 229 | 50 => 230 | 57 => 235 | n => n, fun | 22 => 40 | 24 => 3 | 25 => 124 | 3 => 3 | 39 => 48 | 0 => 0 | 53 => 218 | 55 => 220 | 4 => 4 | 46 => 212 | 45 => 211 | 50 => 159 | 5 => 5 | 9 => 9 | 66 => 227 | 70 => 231 | 76 => 235 | 77 => 133 | n => n, fun | n => n⟩
theorem Tryz.sortD : Go.Proofs.SlLaysF.n6 Tryz.prog Tryz.sortD_ren := {
  mixed := by kernel_rfl
  f6 := ⟨Tryz.f176.name, by decide, Tryz.func176.trans (congrArg some (by kernel_rfl))⟩
  f14 := ⟨Tryz.f193.name, by decide, Tryz.func193.trans (congrArg some (by kernel_rfl))⟩
  f15 := Tryz.func194.trans (congrArg some (by kernel_rfl))
  f20 := ⟨Tryz.f205.name, by decide, Tryz.func205.trans (congrArg some (by kernel_rfl))⟩
  f21 := ⟨Tryz.f206.name, by decide, Tryz.func206.trans (congrArg some (by kernel_rfl))⟩
  f22 := ⟨Tryz.f207.name, by decide, Tryz.func207.trans (congrArg some (by kernel_rfl))⟩
  f23 := ⟨Tryz.f208.name, by decide, Tryz.func208.trans (congrArg some (by kernel_rfl))⟩
  f24 := ⟨Tryz.f209.name, by decide, Tryz.func209.trans (congrArg some (by kernel_rfl))⟩
  f25 := ⟨Tryz.f210.name, by decide, Tryz.func210.trans (congrArg some (by kernel_rfl))⟩
  f26 := ⟨Tryz.f211.name, by decide, Tryz.func211.trans (congrArg some (by kernel_rfl))⟩
  f27 := ⟨Tryz.f212.name, by decide, Tryz.func212.trans (congrArg some (by kernel_rfl))⟩
  f28 := Tryz.func213.trans (congrArg some (by kernel_rfl))
  f29 := Tryz.func214.trans (congrArg some (by kernel_rfl))
  f46 := ⟨Tryz.f226.name, by decide, Tryz.func226.trans (congrArg some (by kernel_rfl))⟩
  f47 := Tryz.func227.trans (congrArg some (by kernel_rfl))
  f48 := Tryz.func228.trans (congrArg some (by kernel_rfl))
  f49 := ⟨Tryz.f229.name, by decide, Tryz.func229.trans (congrArg some (by kernel_rfl))⟩
  f50 := ⟨Tryz.f230.name, by decide, Tryz.func230.trans (congrArg some (by kernel_rfl))⟩
  f57 := ⟨Tryz.f235.name, by decide, Tryz.func235.trans (congrArg some (by kernel_rfl))⟩
  t0 := Tryz.underlying0
  a0 := Tryz.isAgg0
  z0 := Tryz.sizeOf0
  v0 := Tryz.zeroValue0
  t3 := Tryz.underlying3
  a3 := Tryz.isAgg3
  z3 := Tryz.sizeOf3
  v3 := Tryz.zeroValue3
  t4 := Tryz.underlying4
  a4 := Tryz.isAgg4
  z4 := Tryz.sizeOf4
  v4 := Tryz.zeroValue4
  t5 := Tryz.underlying5
  a5 := Tryz.isAgg5
  z5 := Tryz.sizeOf5
  v5 := Tryz.zeroValue5
  t9 := Tryz.underlying9
  a9 := Tryz.isAgg9
  z9 := Tryz.sizeOf9
  v9 := Tryz.zeroValue9
  t22 := Tryz.underlying40
  a22 := Tryz.isAgg40
  z22 := Tryz.sizeOf40
  v22 := Tryz.zeroValue40
  a24 := Tryz.isAgg3
  z24 := Tryz.sizeOf3
  t25 := Tryz.underlying124
  a25 := Tryz.isAgg124
  z25 := Tryz.sizeOf124
  v25 := Tryz.zeroValue124
  t39 := Tryz.underlying48
  a39 := Tryz.isAgg48
  z39 := Tryz.sizeOf48
  v39 := Tryz.zeroValue48
  t45 := Tryz.underlying211
  a45 := Tryz.isAgg211
  z45 := Tryz.sizeOf211
  v45 := Tryz.zeroValue211
  t46 := Tryz.underlying212
  a46 := Tryz.isAgg212
  z46 := Tryz.sizeOf212
  v46 := Tryz.zeroValue212
  t50 := Tryz.underlying159
  a50 := Tryz.isAgg159
  z50 := Tryz.sizeOf159
  v50 := Tryz.zeroValue159
  t53 := Tryz.underlying218
  a53 := Tryz.isAgg218
  z53 := Tryz.sizeOf218
  v53 := Tryz.zeroValue218
  t55 := Tryz.underlying220
  a55 := Tryz.isAgg220
  z55 := Tryz.sizeOf220
  v55 := Tryz.zeroValue220
  t66 := Tryz.underlying227
  a66 := Tryz.isAgg227
  z66 := Tryz.sizeOf227
  v66 := Tryz.zeroValue227
  t70 := Tryz.underlying231
  a70 := Tryz.isAgg231
  z70 := Tryz.sizeOf231
  v70 := Tryz.zeroValue231
  t76 := Tryz.underlying235
  a76 := Tryz.isAgg235
  z76 := Tryz.sizeOf235
  v76 := Tryz.zeroValue235
  t77 := Tryz.underlying133
  a77 := Tryz.isAgg133
  z77 := Tryz.sizeOf133
  v77 := Tryz.zeroValue133 }
def Tryz.cmpD_ren : Go.Shelf.Ren := ⟨fun | 5 => 178 | 7 => 195 | n => n, fun | 22 => 3 | 3 => 3 | 4 => 4 | n => n, fun | n => n⟩
theorem Tryz.cmpD : Go.Proofs.SlLaysC2.n5 Tryz.prog Tryz.cmpD_ren := {
  mixed := by kernel_rfl
  f5 := ⟨Tryz.f178.name, by decide, Tryz.func178.trans (congrArg some (by kernel_rfl))⟩
  f7 := ⟨Tryz.f195.name, by decide, Tryz.func195.trans (congrArg some (by kernel_rfl))⟩
  t3 := Tryz.underlying3
  a3 := Tryz.isAgg3
  z3 := Tryz.sizeOf3
  v3 := Tryz.zeroValue3
  t4 := Tryz.underlying4
  a4 := Tryz.isAgg4
  z4 := Tryz.sizeOf4
  v4 := Tryz.zeroValue4
  t22 := Tryz.underlying3
  a22 := Tryz.isAgg3
  z22 := Tryz.sizeOf3
  v22 := Tryz.zeroValue3 }
end Go.Proofs.YtaiegmhlgjogmaaGreat
/- slices.SortFunc at ints, falling, by package vr's own comparison: what a row of the call's own holds behind it. -/
namespace Go.Proofs.YtaiegmhlgjogmaaGreat
open Go.Shelf Go.RowKit Go.Lib Go.Sort

def cfD (x y : Int) : Int := Lib.compareInt y x
theorem ltD (x y : Int) : ltOf cfD x y = decide (y < x) := by
  unfold ltOf cfD Lib.compareInt
  by_cases h1 : y < x
  · simp [h1]
  · by_cases h2 : x < y <;> simp [h1, h2]
theorem swoD : SWO (ltOf cfD) where
  irrefl x := by rw [ltD]; simp
  trans x y z h1 h2 := by rw [ltD] at *; simp at *; omega
  ntrans x y z h1 h2 := by rw [ltD] at *; simp at *; omega
theorem totD (x y : Int) (h1 : ltOf cfD x y = false) (h2 : ltOf cfD y x = false) : x = y := by rw [ltD] at *; simp at *; omega
theorem geD : (fun x y : Int => !ltOf cfD y x) = fun x y => decide (y ≤ x) := by
  funext x y
  rw [ltD]
  by_cases h : y ≤ x
  · have h' : ¬ x < y := by omega
    simp [h, h']
  · have h' : x < y := by omega
    simp [h, h']

set_option maxHeartbeats 1000000 in
theorem closureD (x y : Int) (W : World) : Calls Tryz.prog 177 #[.int .i64 x, .int .i64 y] W fun e w' => e = .returned (.int .i64 (cfD x y)) ∧ ∃ q, w' = W.drewN q := by
  have hcon := AnyG.cmp_Compare_int Tryz.cmpD y x W
  change Calls Tryz.prog 178 _ _ _ at hcon
  unfold cfD
  generalize Lib.compareInt y x = r at hcon ⊢
  go_enter Tryz.func177, Tryz.ntmps177
  go_wp2_with (go_at_call 178; refine hcon.mono ?_; rintro e w' ⟨rfl, rfl⟩)
  go_ret
  exact ⟨rfl, 0, rfl⟩
theorem cmpReadsD (blk off size : Nat) (w : World) : CmpReads Tryz.prog 177 #[] (Value.int .i64) cfD blk off size w := fun _ _ _ _ x y => closureD x y _

theorem below_set_own {B : Nat} {a : World} (b : Nat) (hb : B ≤ b) : ∀ (vs : List Value) (o : Nat) {w : World}, Below B a w → Below B a (w.setCells b o vs)
  | [], _, _, h => h
  | v :: r, o, _, h => below_set_own b hb r (o + 1) (h.setCell (p := ⟨b, o, none⟩) hb v)
theorem below_grow_own {B : Nat} {a w : World} (os : Array Obj) (h : Below B a w) (hB : B ≤ w.heap.size) : Below B a (grow w os) :=
  h.trans ⟨rfl, rfl, rfl, by simp [grow], fun i hi => by
    show (w.heap ++ os)[i]? = _
    rw [Array.getElem?_append_left (by omega)]⟩

set_option maxHeartbeats 1000000 in
/-- Sorted, a row of the call's own holds its items falling; nothing below it has turned. -/
theorem sortd_any {w : World} {base g n c : Nat} {l : List Int} (hown : w.ownsRow base 3 1 (.slice (some ⟨g, 0, none⟩) n c) n (ivs l)) (hn : n ≤ 1000000) (hb : base ≤ w.heap.size) :
    Calls Tryz.prog 176 #[.slice (some ⟨g, 0, none⟩) n c, .func (.func 177) #[] #[]] w fun e w' =>
      e = .returned (.tuple #[]) ∧ (∀ j, j < n → w'.cell? ⟨g, j, none⟩ = some (.int .i64 ((falling l).getD j 0))) ∧ Below base w w' := by
  have hl : l.length = n := by have := hown.1; rw [ivs_len] at this; omega
  obtain ⟨hg, hlt⟩ : base ≤ g ∧ g < w.heap.size := by
    rcases hown.2 with ⟨h0, _⟩ | ⟨g', cap, cur, hv, hb', hg', _⟩
    · cases h0
    · simp only [Value.slice.injEq, Option.some.injEq, Addr.mk.injEq, and_true, true_and] at hv
      obtain ⟨rfl, _⟩ := hv
      exact ⟨hb', lt_of_block hg'⟩
  have hc : ∀ j, j < l.length → w.cell? ⟨g, 0 + j, none⟩ = some (.int .i64 (l.getD j 0)) := fun j hj => by rw [Nat.zero_add]; exact iown_cell hown (by omega)
  have hH : Go.Sort.Holds (Value.int .i64) w g 0 l.toArray := by
    have h := Lib.holds_of_ints (n := n) (b := g) (off := 0) (zs := l) (by omega) hc (fun j _ => by rw [Nat.zero_add]; exact iown_free hown j)
    rwa [List.take_of_length_le (by omega)] at h
  have eg : ∀ args w, (callFunc 177 args).run Tryz.prog w = .ok (.enter 177 args) w := enters_of Tryz.func177 (by kernel_rfl) rfl
  have hS := Any.slices_SortFunc_total Tryz.sortD (Value.int .i64) (fun _ => rfl) cfD swoD 177 #[] g 0 c l.toArray w eg (cmpReadsD g 0 _ w).lays hH hlt (by simp; omega) totD
  rw [geD] at hS
  change Calls Tryz.prog 176 _ _ _ at hS
  rw [show l.toArray.size = n from by simpa using hl] at hS
  refine hS.mono ?_
  rintro e w' ⟨rfl, q, os, rfl⟩
  have hy : (falling l).length = l.toArray.size := by rw [falling_len]; simp
  have e2 : sortWorld (Value.int .i64) w g 0 q ((l.toArray.toList.mergeSort fun x y => decide (y ≤ x)).toArray) os = grow ((w.drewN q).setCells g 0 ((falling l).map (Value.int .i64))) os :=
    Lib.sorted_world (Value.int .i64) w g 0 q l.toArray (falling l) os hH hy
  rw [e2]
  refine ⟨rfl, fun j hj => ?_, ?_⟩
  · have h := Lib.cells_sorted_ints (W := w) (b := g) (off := 0) (n := n) (q := q) (zs := l) (ys := falling l) (os := os) (by omega) (by rw [falling_len]; exact hl) hc j (by rw [List.drop_eq_nil_of_le (by omega), List.append_nil, falling_len]; omega)
    rw [Nat.zero_add, List.drop_eq_nil_of_le (by omega), List.append_nil] at h
    exact h
  · refine below_grow_own os ?_ ?_
    · exact below_set_own g hg _ 0 (below_drewN _ _ _)
    · have h : w.heap.size ≤ ((w.drewN q).setCells g 0 ((falling l).map (Value.int .i64))).heap.size := (below_set_own (B := 0) (a := w) g (Nat.zero_le _) ((falling l).map (Value.int .i64)) 0 (w := w.drewN q) (below_drewN 0 w q)).size
      omega
end Go.Proofs.YtaiegmhlgjogmaaGreat
/- The walk over Reached of package vr. -/
namespace Go.Proofs.YtaiegmhlgjogmaaGreat
open Go.RowKit

set_option maxHeartbeats 2000000 in
set_option maxRecDepth 100000 in
theorem reached_any {F : Nat → Prop} {w : World} {v : Value} {l : List Int} (hl : SlI F w v l) (hn : l.length ≤ 1000000) (last n : Int) :
    Calls Tryz.prog 146 #[v, .int .i64 last, .int .i64 n] w fun e w' => e = .returned (.int .i64 (reachI l last n)) ∧ Later w w' := by
  have CQ := hide (quorum_any n)
  have C := hide (clone_ints F v l.length _ w hl.1 hn)
  obtain ⟨A, c, rfl, h1, h2⟩ := hl.shape
  obtain ⟨m, hm⟩ : ∃ m, l.length = m := ⟨_, rfl⟩
  have HM := hide hm
  rw [hm] at C hn ⊢
  clear hl h1 h2 hm
  rcases quor_cases n with hq | hq | hq
  · have H : Hid (reachI l last n = 0) := by show _ = _; rw [reachI, if_pos (.inl hq)]
    rw [hq] at CQ
    clear hq
    go_enter Tryz.func146, Tryz.ntmps146
    go_wp2_with (go_at_call 175; refine (CQ.out _).mono ?_; rintro e w1 ⟨rfl, rfl⟩)
    go_ret
    exact ⟨ret_int H.out.symm, Below.refl _ _⟩
  · by_cases hlt : m < 2
    · have H : Hid (reachI l last n = 0) := by show _ = _; rw [reachI, if_pos (.inr (by rw [hq, HM.out]; omega))]
      rw [hq] at CQ
      clear hq
      go_enter Tryz.func146, Tryz.ntmps146
      go_wp2_with (go_at_call 175; refine (CQ.out _).mono ?_; rintro e w1 ⟨rfl, rfl⟩)
      go_ret
      exact ⟨ret_int H.out.symm, Below.refl _ _⟩
    · have H : Hid (reachI l last n = max 0 (min last ((falling l).getD 1 0))) := by
        show _ = _
        rw [reachI, if_neg (by rw [hq, HM.out]; omega), hq]
        rfl
      rw [hq] at CQ
      have hmq : decide (m < 2) = false := by simpa using hlt
      clear hq
      go_enter Tryz.func146, Tryz.ntmps146
      go_wp2_with (go_at_call 175; refine (CQ.out _).mono ?_; rintro e w1 ⟨rfl, rfl⟩)
      refine C.out.mono ?_
      rintro e w1 ⟨r, rfl, hown, hbl⟩
      obtain ⟨g, cc, rfl, hg, hlt2, hnc, hcm⟩ := iown_at hown (by omega)
      have S := hide (sortd_any hown (by omega) hbl.size)
      have HB := hide hbl
      clear hown hbl C
      go_wp2_with (fail)
      refine S.out.mono ?_
      rintro e w2 ⟨rfl, hcell, hb2⟩
      have hk := hcell 1 (by omega)
      obtain ⟨x, hx⟩ : ∃ x, (falling l).getD 1 0 = x := ⟨_, rfl⟩
      rw [hx] at hk H
      have HB2 : Hid (Later w w2) := HB.out.trans hb2
      clear hcell hb2 S hx
      go_wp2
      go_ret
      exact ⟨ret_int H.out.symm, HB2.out⟩
  · by_cases hlt : m < 3
    · have H : Hid (reachI l last n = 0) := by show _ = _; rw [reachI, if_pos (.inr (by rw [hq, HM.out]; omega))]
      rw [hq] at CQ
      clear hq
      go_enter Tryz.func146, Tryz.ntmps146
      go_wp2_with (go_at_call 175; refine (CQ.out _).mono ?_; rintro e w1 ⟨rfl, rfl⟩)
      go_ret
      exact ⟨ret_int H.out.symm, Below.refl _ _⟩
    · have H : Hid (reachI l last n = max 0 (min last ((falling l).getD 2 0))) := by
        show _ = _
        rw [reachI, if_neg (by rw [hq, HM.out]; omega), hq]
        rfl
      rw [hq] at CQ
      have hmq : decide (m < 3) = false := by simpa using hlt
      clear hq
      go_enter Tryz.func146, Tryz.ntmps146
      go_wp2_with (go_at_call 175; refine (CQ.out _).mono ?_; rintro e w1 ⟨rfl, rfl⟩)
      refine C.out.mono ?_
      rintro e w1 ⟨r, rfl, hown, hbl⟩
      obtain ⟨g, cc, rfl, hg, hlt2, hnc, hcm⟩ := iown_at hown (by omega)
      have S := hide (sortd_any hown (by omega) hbl.size)
      have HB := hide hbl
      clear hown hbl C
      go_wp2_with (fail)
      refine S.out.mono ?_
      rintro e w2 ⟨rfl, hcell, hb2⟩
      have hk := hcell 2 (by omega)
      obtain ⟨x, hx⟩ : ∃ x, (falling l).getD 2 0 = x := ⟨_, rfl⟩
      rw [hx] at hk H
      have HB2 : Hid (Later w w2) := HB.out.trans hb2
      clear hcell hb2 S hx
      go_wp2
      go_ret
      exact ⟨ret_int H.out.symm, HB2.out⟩
end Go.Proofs.YtaiegmhlgjogmaaGreat
/- A leader hears how many operations another node has. -/
namespace Go.Proofs.YtaiegmhlgjogmaaGreat
open Go.RowKit Go.Maps

section
variable {col : Nat → Nat} {q B r g : Nat} {w : World} {p : RepP} {x : RepD}
def ackH (y : HeardD) (n last : Int) : HeardD := { y with ack := max y.ack (min n last) }
theorem ack_cells (y : HeardD) (n last : Int) : y.cells.toArray.setIfInBounds 0 (.int .i64 (max y.ack (min n last))) = (ackH y n last).cells.toArray := rfl
theorem enters_ack : EntersF 144 := fun args w => by go_simp
set_option maxHeartbeats 4000000 in
set_option maxRecDepth 100000 in
theorem ackc_any {bm bl : Nat} {m : MsgD} {s o i : Value} {last : Int} {y : HeardD} (hm : w.heap[bm]? = some (.cells (m.cells s o i).toArray 42 (0, 0))) (hs : w.heap[bl]? = some (.cells #[.int .i64 last] 3 (0, 0))) (hl : Lists (fun i => col i = 0) w y.p.m y.p.s y.p.o y.p.i) :
    Changes 144 #[.pointer (some ⟨bm, 0, none⟩), .pointer (some ⟨bl, 0, none⟩)] col w y (ackH y m.num last) := by
  intro W u hW hu hb
  have HM : Hid (W.heap[bm]? = some (.cells (m.cells s o i).toArray 42 (0, 0))) := (hW.block _ (lt_of_block hm)).trans hm
  have HS : Hid (W.heap[bl]? = some (.cells #[.int .i64 last] 3 (0, 0))) := (hW.block _ (lt_of_block hs)).trans hs
  have HB := hide hb
  have HL := hide hl
  have HW := hide hW
  have HF : Hid (∀ w', Later W w' → w'.cell? ⟨bm, 5, none⟩ = some (.int .i64 m.num) ∧ w'.cell? ⟨bl, 0, none⟩ = some (.int .i64 last) ∧ w'.cell? ⟨u, 0, none⟩ = some (.int .i64 y.ack) ∧ w'.frozen? ⟨u, 0, none⟩ = false) := fun w' hl =>
    ⟨box_cell ((hl.block _ (lt_of_block HM.out)).trans HM.out) 5 _ (by rfl), cell_of_row w' bl 0 _ _ _ ((hl.block _ (lt_of_block HS.out)).trans HS.out), box_cell ((hl.block _ (lt_of_block HB.out)).trans HB.out) 0 _ (by rfl), box_free ((hl.block _ (lt_of_block HB.out)).trans HB.out) 0⟩
  have D0 : Hid (Later W W.drew) := (Below.refl _ _).drew
  clear hb hl hW hm hs
  simp only [List.append_toArray, List.nil_append, List.cons_append]
  go_enter Tryz.func144, Tryz.ntmps144
  go_wp2
  refine wp_region_S (fun j => j == 12) (by kernel_rfl) ?_
  refine wpAnyS_take (i := 0) (d := some 4) (v := ?vaa0) rfl rfl (by kernel_rfl) (by kernel_rfl) (by kernel_rfl) (by kernel_rfl) (by kernel_rfl) (fun _ _ _ h => h) (by rfl) ?yaa0 ?_
  case yaa0 => (intro w' hw'; go_simp; try (with_reducible rfl))
  simp only [Act.put]; try simp only [List.setIfInBounds_toArray]; try simp only [List.set_cons_zero, List.set_cons_succ]
  refine wpAnyS_take (i := 1) (d := some 5) (v := ?vaa1) rfl rfl (by kernel_rfl) (by kernel_rfl) (by kernel_rfl) (by kernel_rfl) (by kernel_rfl) (fun _ _ _ h => h) (by rfl) ?yaa1 ?_
  case yaa1 => (intro w' hw'; go_simp; try (with_reducible rfl))
  simp only [Act.put]; try simp only [List.setIfInBounds_toArray]; try simp only [List.set_cons_zero, List.set_cons_succ]
  refine wpAnyS_take (i := 2) (d := some 6) (v := ?vaa2) rfl rfl (by kernel_rfl) (by kernel_rfl) (by kernel_rfl) (by kernel_rfl) (by kernel_rfl) (fun _ _ _ h => h) (by rfl) ?yaa2 ?_
  case yaa2 => (intro w' hw'; go_simp; try (with_reducible rfl))
  simp only [Act.put]; try simp only [List.setIfInBounds_toArray]; try simp only [List.set_cons_zero, List.set_cons_succ]
  refine wpAnyS_take (i := 3) (d := some 7) (v := ?vaa3) rfl rfl (by kernel_rfl) (by kernel_rfl) (by kernel_rfl) (by kernel_rfl) (by kernel_rfl) (fun _ _ _ h => h) (by rfl) ?yaa3 ?_
  case yaa3 => (intro w' hw'; go_simp; try (with_reducible rfl))
  simp only [Act.put]; try simp only [List.setIfInBounds_toArray]; try simp only [List.set_cons_zero, List.set_cons_succ]
  refine wpAnyS_take (i := 4) (d := some 8) (v := ?vaa4) rfl rfl (by kernel_rfl) (by kernel_rfl) (by kernel_rfl) (by kernel_rfl) (by kernel_rfl) (fun _ _ _ h => h) (by rfl) ?yaa4 ?_
  case yaa4 => (intro w' hw'; have hq := (HF.out w' (D0.out.trans hw')).2.2.1; go_simp; try (with_reducible rfl))
  simp only [Act.put]; try simp only [List.setIfInBounds_toArray]; try simp only [List.set_cons_zero, List.set_cons_succ]
  refine wpAnyS_take (i := 5) (d := some 9) (v := ?vaa5) rfl rfl (by kernel_rfl) (by kernel_rfl) (by kernel_rfl) (by kernel_rfl) (by kernel_rfl) (fun _ _ _ h => h) (by rfl) ?yaa5 ?_
  case yaa5 => (intro w' hw'; go_simp; try (with_reducible rfl))
  simp only [Act.put]; try simp only [List.setIfInBounds_toArray]; try simp only [List.set_cons_zero, List.set_cons_succ]
  refine wpAnyS_take (i := 6) (d := some 10) (v := ?vaa6) rfl rfl (by kernel_rfl) (by kernel_rfl) (by kernel_rfl) (by kernel_rfl) (by kernel_rfl) (fun _ _ _ h => h) (by rfl) ?yaa6 ?_
  case yaa6 => (intro w' hw'; have hq := (HF.out w' (D0.out.trans hw')).1; go_simp; try (with_reducible rfl))
  simp only [Act.put]; try simp only [List.setIfInBounds_toArray]; try simp only [List.set_cons_zero, List.set_cons_succ]
  refine wpAnyS_take (i := 7) (d := some 11) (v := ?vaa7) rfl rfl (by kernel_rfl) (by kernel_rfl) (by kernel_rfl) (by kernel_rfl) (by kernel_rfl) (fun _ _ _ h => h) (by rfl) ?yaa7 ?_
  case yaa7 => (intro w' hw'; have hq := (HF.out w' (D0.out.trans hw')).2.1; go_simp; try (with_reducible rfl))
  simp only [Act.put]; try simp only [List.setIfInBounds_toArray]; try simp only [List.set_cons_zero, List.set_cons_succ]
  refine wpAnyS_take (i := 8) (d := some 12) (v := .int .i64 (min m.num last)) rfl rfl (by kernel_rfl) (by kernel_rfl) (by kernel_rfl) (by kernel_rfl) (by kernel_rfl) (fun _ _ _ h => h) (by rfl) ?yaa8 ?_
  case yaa8 => (intro w' hw'; go_simp; try (with_reducible rfl))
  simp only [Act.put]; try simp only [List.setIfInBounds_toArray]; try simp only [List.set_cons_zero, List.set_cons_succ]
  refine wpAnyS_take (i := 9) (d := some 13) (v := .int .i64 (max y.ack (min m.num last))) rfl rfl (by kernel_rfl) (by kernel_rfl) (by kernel_rfl) (by kernel_rfl) (by kernel_rfl) (fun _ _ _ h => h) (by rfl) ?yaa9 ?_
  case yaa9 => (intro w' hw'; go_simp; try (with_reducible rfl))
  simp only [Act.put]; try simp only [List.setIfInBounds_toArray]; try simp only [List.set_cons_zero, List.set_cons_succ]
  refine wpAnyS_take (i := 10) (d := some 14) (v := ?vaa10) rfl rfl (by kernel_rfl) (by kernel_rfl) (by kernel_rfl) (by kernel_rfl) (by kernel_rfl) (fun _ _ _ h => h) (by rfl) ?yaa10 ?_
  case yaa10 => (intro w' hw'; go_simp; try (with_reducible rfl))
  simp only [Act.put]; try simp only [List.setIfInBounds_toArray]; try simp only [List.set_cons_zero, List.set_cons_succ]
  refine wpAnyS_take (i := 11) (d := some 15) (v := ?vaa11) rfl rfl (by kernel_rfl) (by kernel_rfl) (by kernel_rfl) (by kernel_rfl) (by kernel_rfl) (fun _ _ _ h => h) (by rfl) ?yaa11 ?_
  case yaa11 => (intro w' hw'; go_simp; try (with_reducible rfl))
  simp only [Act.put]; try simp only [List.setIfInBounds_toArray]; try simp only [List.set_cons_zero, List.set_cons_succ]
  refine wpAnyS_write (i := 12) rfl rfl (by kernel_rfl) (by rfl) fun K hK => ?_
  obtain ⟨q1, q2, q3, q4⟩ := HF.out _ D0.out
  go_simp
  refine hK.out _ _ ?_
  clear hK K
  try simp only [Act.put]
  refine wpAnyS_done (by kernel_rfl) ?_ _
  go_wp2
  go_end0
  have hg := grown_set W.drew u 0 (.int .i64 (max y.ack (min m.num last)))
  refine ⟨rfl, ⟨hg.os, hg.tape, hg.output, hg.size, fun j hj hne => hg.block j hj (fun e => hne (Option.some.inj e))⟩, ?_, ?_⟩
  · show (W.setCell ⟨u, 0, none⟩ (.int .i64 (max y.ack (min m.num last)))).heap[u]? = _
    rw [heap_setCell_same W u 0 _ _ (.int .i64 (max y.ack (min m.num last))) HB.out, ack_cells]
  · have h1 := (HL.out.mono (G := fun i => col i = 0 ∧ i ≠ u) fun i hi e => ⟨e, by omega⟩).kept (Kept.of_below HW.out _)
    exact (h1.kept ⟨Nat.le_refl _, fun _ _ _ => rfl⟩ : Lists (fun i => col i = 0 ∧ i ≠ u) W.drew y.p.m y.p.s y.p.o y.p.i).kept (Kept.of_grown hg fun i e h => h.2 (Option.some.inj e).symm)

def ackedK (x : RepD) (m : MsgD) : RepD := keptR x m.src (ackH (foundH x.kept m.src) m.num (x.log.length : Int))
def ackedR (x : RepD) (m : MsgD) : RepD := commitR (ackedK x m) (reachI (acksL (ackedK x m)) (x.log.length : Int) x.n)
theorem acks_fit (h : RepAt col q B w r p x g) : Fit (acksL x) := by
  have h2 := h.log.len
  intro a ha
  unfold acksL at ha
  rcases List.mem_or_eq_of_mem_set ha with ha | ha
  · obtain ⟨i, _, rfl⟩ := List.mem_map.1 ha
    have := found_acks h.ok ((i : Int) + 1)
    unfold ackOf
    omega
  · omega
set_option maxHeartbeats 8000000 in
set_option maxRecDepth 100000 in
theorem hearok_any {m : MsgD} {s o i : Value} (h : RepAt col q B w r p x g) (hm : Lists (fun i => col i = 0) w m s o i) (hlead : leadsR x = true) (hsrc : 1 ≤ m.src ∧ m.src ≤ x.n) (hg : g ≤ 800000) :
    Calls Tryz.prog 109 #[.pointer (some ⟨p.s, 0, none⟩), .agg (m.cells s o i).toArray, .int .i64 1] w (Told q B r p col w (ackedR x m) [] (g + 1)) := by
  obtain ⟨k1, k2, k3⟩ := hm.cell
  obtain ⟨W, hW⟩ : ∃ W, W = w.alloc (.cells (m.cells s o i).toArray 42 (0, 0)) := ⟨_, rfl⟩
  have LB : Hid (Later w W) := by rw [hW]; exact (Below.refl _ _).alloc (Nat.le_refl _) _
  have XB : Hid (W.heap[w.heap.size]? = some (.cells (m.cells s o i).toArray 42 (0, 0))) := by rw [hW]; exact heap_alloc_new _ _
  have H := hide h
  have HR := hide (h.later LB.out)
  have HCW := hide (h.fresh _ (Nat.le_refl w.heap.size))
  have HSRC := hide hsrc
  have c0 : W.cell? ⟨p.s, 0, none⟩ = some (.int .i64 x.id) := HR.out.cell (k := 0) rfl
  have c1 : W.cell? ⟨p.s, 1, none⟩ = some (.int .i64 x.n) := HR.out.cell (k := 1) rfl
  have c2 : W.cell? ⟨p.s, 2, none⟩ = some (.int .i64 x.phase) := HR.out.cell (k := 2) rfl
  have c3 : W.cell? ⟨p.s, 3, none⟩ = some (.int .i64 x.view) := HR.out.cell (k := 3) rfl
  have c4 : W.cell? ⟨p.s, 4, none⟩ = some (.int .i64 x.last) := HR.out.cell (k := 4) rfl
  have CL := hide (leads_any x.id x.n x.phase x.view x.last W)
  unfold leadsR at hlead
  rw [hlead] at CL
  have hWc := hW
  unfold MsgD.cells at hW ⊢
  rw [hW] at c0 c1 c2 c3 c4
  clear h hm hlead hsrc hWc
  go_enter Tryz.func109, Tryz.ntmps109
  go_wp2_with (fail)
  rw [← hW]
  clear hW c0 c1 c2 c3 c4
  refine CL.out.mono ?_
  rintro e w1 ⟨rfl, hl⟩
  have HR1 := hide (HR.out.later hl)
  have L1 : Hid (Later w w1) := LB.out.trans hl
  have X1 : Hid (w1.heap[w.heap.size]? = some (.cells (m.cells s o i).toArray 42 (0, 0))) := (hl.block _ (lt_of_block XB.out)).trans XB.out
  have c7 : w1.cell? ⟨p.s, 7, none⟩ = some (.pointer (some ⟨p.l, 0, none⟩)) := HR1.out.cell (k := 7) rfl
  have CLa := hide (Ol.lg_last HR1.out.log)
  obtain ⟨len, hlen⟩ : ∃ len : Nat, x.log.length = len := ⟨_, rfl⟩
  have HLEN := hide hlen
  rw [hlen] at CLa
  clear hl CL HR XB hlen
  go_wp2_with (fail)
  refine CLa.out.mono ?_
  rintro e w2 ⟨rfl, rfl⟩
  obtain ⟨W2, hW2⟩ : ∃ W2, W2 = w1.alloc (.cells #[.int .i64 (len : Int)] 3 (0, 0)) := ⟨_, rfl⟩
  have LA : Hid (Later w1 W2) := by rw [hW2]; exact (Below.refl _ _).alloc (Nat.le_refl _) _
  have XL : Hid (W2.heap[w1.heap.size]? = some (.cells #[.int .i64 (len : Int)] 3 (0, 0))) := by rw [hW2]; exact heap_alloc_new _ _
  have X2 : Hid (W2.heap[w.heap.size]? = some (.cells (m.cells s o i).toArray 42 (0, 0))) := (LA.out.block _ (lt_of_block X1.out)).trans X1.out
  have HR2 := hide (HR1.out.later LA.out)
  have L2 : Hid (Later w W2) := L1.out.trans LA.out
  have HCL := hide (HR1.out.fresh w1.heap.size (Nat.le_refl _))
  have b1 : (w1.alloc (.cells #[.int .i64 (len : Int)] 3 (0, 0))).cell? ⟨w.heap.size, 1, none⟩ = some (.int .i64 m.src) := by rw [← hW2]; exact box_cell X2.out 1 _ (by rfl)
  have hfa := found_acks H.out.ok m.src
  have CK := hide (keep_any HR2.out (node := m.src) HSRC.out enters_ack (ackc_any X2.out XL.out (found_lists HR2.out m.src)) (by have h2 := H.out.log.len; have h3 := HLEN.out; show 0 ≤ max (foundH x.kept m.src).ack (min m.num (len : Int)) ∧ max (foundH x.kept m.src).ack (min m.num (len : Int)) ≤ 2000; omega) (by omega))
  have hRK : keptR x m.src (ackH (foundH x.kept m.src) m.num (len : Int)) = ackedK x m := by unfold ackedK; rw [HLEN.out]
  rw [hRK] at CK
  clear hfa hRK c7 CLa HR1
  go_wp2_with (fail)
  rw [← hW2]
  clear hW2 b1
  refine CK.out.mono ?_
  rintro e w3 ⟨rfl, hs3⟩
  have HS3 := hide hs3
  have X3 : Hid (w3.heap[w1.heap.size]? = some (.cells #[.int .i64 (len : Int)] 3 (0, 0))) := HS3.out.white XL.out HCL.out
  have HF : Hid (∀ w', Later w3 w' → w'.cell? ⟨p.s, 7, none⟩ = some (.pointer (some ⟨p.l, 0, none⟩)) ∧ w'.cell? ⟨p.s, 1, none⟩ = some (.int .i64 x.n) ∧ w'.cell? ⟨w1.heap.size, 0, none⟩ = some (.int .i64 (len : Int))) := fun w' hl => ⟨(HS3.out.rep.later hl).cell (k := 7) rfl, (HS3.out.rep.later hl).cell (k := 1) rfl, cell_of_row w' _ 0 _ _ _ ((hl.block _ (lt_of_block X3.out)).trans X3.out)⟩
  have CA := hide (fun w' (hl : Later w3 w') => acks_any (HS3.out.rep.later hl))
  have HFI := hide (acks_fit HS3.out.rep)
  have hal : (acksL (ackedK x m)).length ≤ 1000000 := by
    unfold acksL
    rw [List.length_set, acksU_len]
    have := H.out.ok.n
    show x.n.toNat ≤ _
    omega
  have HAL := hide hal
  have D3 : Hid (Later w3 w3.drew) := (Below.refl _ _).drew
  clear hs3 CK hal X2 XL HR2 LA
  go_wp2
  refine wp_region_S (fun j => j == 13) (by kernel_rfl) ?_
  refine wpAnyS_take (i := 0) (d := some 28) (v := ?vab0) rfl rfl (by kernel_rfl) (by kernel_rfl) (by kernel_rfl) (by kernel_rfl) (by kernel_rfl) (fun _ _ _ h => h) (by rfl) ?yab0 ?_
  case yab0 => (intro w' hw'; go_simp; try (with_reducible rfl))
  simp only [Act.put]; try simp only [List.setIfInBounds_toArray]; try simp only [List.set_cons_zero, List.set_cons_succ]
  refine wpAnyS_take (i := 1) (d := some 29) (v := ?vab1) rfl rfl (by kernel_rfl) (by kernel_rfl) (by kernel_rfl) (by kernel_rfl) (by kernel_rfl) (fun _ _ _ h => h) (by rfl) ?yab1 ?_
  case yab1 => (intro w' hw'; go_simp; try (with_reducible rfl))
  simp only [Act.put]; try simp only [List.setIfInBounds_toArray]; try simp only [List.set_cons_zero, List.set_cons_succ]
  refine wpAnyS_take (i := 2) (d := some 30) (v := ?vab2) rfl rfl (by kernel_rfl) (by kernel_rfl) (by kernel_rfl) (by kernel_rfl) (by kernel_rfl) (fun _ _ _ h => h) (by rfl) ?yab2 ?_
  case yab2 => (intro w' hw'; go_simp; try (with_reducible rfl))
  simp only [Act.put]; try simp only [List.setIfInBounds_toArray]; try simp only [List.set_cons_zero, List.set_cons_succ]
  refine wpAnyS_take (i := 3) (d := some 31) (v := .pointer (some ⟨p.l, 0, none⟩)) rfl rfl (by kernel_rfl) (by kernel_rfl) (by kernel_rfl) (by kernel_rfl) (by kernel_rfl) (fun _ _ _ h => h) (by rfl) ?yab3 ?_
  case yab3 => (intro w' hw'; have hq := (HF.out w' (D3.out.trans hw')).1; go_simp; try (with_reducible rfl))
  simp only [Act.put]; try simp only [List.setIfInBounds_toArray]; try simp only [List.set_cons_zero, List.set_cons_succ]
  refine wpAnyS_take (i := 4) (d := some 32) (v := ?vab4) rfl rfl (by kernel_rfl) (by kernel_rfl) (by kernel_rfl) (by kernel_rfl) (by kernel_rfl) (fun _ _ _ h => h) (by rfl) ?yab4 ?_
  case yab4 => (intro w' hw'; go_simp; try (with_reducible rfl))
  simp only [Act.put]; try simp only [List.setIfInBounds_toArray]; try simp only [List.set_cons_zero, List.set_cons_succ]
  refine wpAnyS_take (i := 6) (d := some 34) (v := ?vab6) rfl rfl (by kernel_rfl) (by kernel_rfl) (by kernel_rfl) (by kernel_rfl) (by kernel_rfl) (fun _ _ _ h => h) (by rfl) ?yab6 ?_
  case yab6 => (intro w' hw'; have hq := (HF.out w' (D3.out.trans hw')).2.2; go_simp; try (with_reducible rfl))
  simp only [Act.put]; try simp only [List.setIfInBounds_toArray]; try simp only [List.set_cons_zero, List.set_cons_succ]
  refine wpAnyS_take (i := 7) (d := some 35) (v := ?vab7) rfl rfl (by kernel_rfl) (by kernel_rfl) (by kernel_rfl) (by kernel_rfl) (by kernel_rfl) (fun _ _ _ h => h) (by rfl) ?yab7 ?_
  case yab7 => (intro w' hw'; go_simp; try (with_reducible rfl))
  simp only [Act.put]; try simp only [List.setIfInBounds_toArray]; try simp only [List.set_cons_zero, List.set_cons_succ]
  refine wpAnyS_take (i := 8) (d := some 36) (v := ?vab8) rfl rfl (by kernel_rfl) (by kernel_rfl) (by kernel_rfl) (by kernel_rfl) (by kernel_rfl) (fun _ _ _ h => h) (by rfl) ?yab8 ?_
  case yab8 => (intro w' hw'; go_simp; try (with_reducible rfl))
  simp only [Act.put]; try simp only [List.setIfInBounds_toArray]; try simp only [List.set_cons_zero, List.set_cons_succ]
  refine wpAnyS_take (i := 9) (d := some 37) (v := ?vab9) rfl rfl (by kernel_rfl) (by kernel_rfl) (by kernel_rfl) (by kernel_rfl) (by kernel_rfl) (fun _ _ _ h => h) (by rfl) ?yab9 ?_
  case yab9 => (intro w' hw'; go_simp; try (with_reducible rfl))
  simp only [Act.put]; try simp only [List.setIfInBounds_toArray]; try simp only [List.set_cons_zero, List.set_cons_succ]
  refine wpAnyS_take (i := 10) (d := some 38) (v := ?vab10) rfl rfl (by kernel_rfl) (by kernel_rfl) (by kernel_rfl) (by kernel_rfl) (by kernel_rfl) (fun _ _ _ h => h) (by rfl) ?yab10 ?_
  case yab10 => (intro w' hw'; go_simp; try (with_reducible rfl))
  simp only [Act.put]; try simp only [List.setIfInBounds_toArray]; try simp only [List.set_cons_zero, List.set_cons_succ]
  refine wpAnyS_take (i := 11) (d := some 39) (v := ?vab11) rfl rfl (by kernel_rfl) (by kernel_rfl) (by kernel_rfl) (by kernel_rfl) (by kernel_rfl) (fun _ _ _ h => h) (by rfl) ?yab11 ?_
  case yab11 => (intro w' hw'; have hq := (HF.out w' (D3.out.trans hw')).2.1; go_simp; try (with_reducible rfl))
  simp only [Act.put]; try simp only [List.setIfInBounds_toArray]; try simp only [List.set_cons_zero, List.set_cons_succ]
  refine wpAnyS_only (i := 5) rfl (by kernel_rfl) (by rfl) fun K hK => ?_
  go_simp
  refine (CA.out _ D3.out).mono ?_
  rintro e w4 ⟨A4, n4, c4, rfl, ho4, hi4, hc4, hb4⟩
  have HSL := hide (SlI.of_own ho4 HFI.out)
  have L4 : Hid (Later w3.drew w4) := hb4
  clear ho4 hi4 hc4 hb4
  refine hK.out _ _ L4.out ?_
  clear hK K
  try (simp only [Act.put]; try simp only [List.setIfInBounds_toArray]; try simp only [List.set_cons_zero, List.set_cons_succ])
  refine wpAnyS_only (i := 12) rfl (by kernel_rfl) (by rfl) fun K hK => ?_
  go_simp
  refine (reached_any HSL.out HAL.out (len : Int) x.n).mono ?_
  rintro e w5 ⟨rfl, hl5⟩
  have L5 : Hid (Later w4 w5) := hl5
  refine hK.out _ _ L5.out ?_
  clear hl5
  clear hK K
  try (simp only [Act.put]; try simp only [List.setIfInBounds_toArray]; try simp only [List.set_cons_zero, List.set_cons_succ])
  refine wpAnyS_write (i := 13) rfl rfl (by kernel_rfl) (by rfl) fun K hK => ?_
  go_simp
  refine (rep_commit (((HS3.out.rep.later D3.out).later L4.out).later L5.out) _).mono ?_
  rintro e w6 ⟨⟨v6, rfl⟩, c6, hn⟩
  have HN := hide hn
  clear hn
  refine hK.out _ _ ?_
  clear hK K
  try (simp only [Act.put]; try simp only [List.setIfInBounds_toArray]; try simp only [List.set_cons_zero, List.set_cons_succ])
  refine wpAnyS_done (by kernel_rfl) ?_ _
  go_wp2
  go_ret
  have HE : Since q B w col c6 w6 r p (ackedR x m) (g + 1) := by
    have a := (((Since.refl H.out).later L2.out).next HS3.out).later D3.out
    have b := ((a.later L4.out).later L5.out).next HN.out
    unfold ackedR
    rw [HLEN.out]
    exact b
  exact ⟨c6, HE, _, [], w6.heap.size, rfl, HE.turned.size, HE.rep.fresh, NRow.nil _ _, rfl⟩
end
end Go.Proofs.YtaiegmhlgjogmaaGreat
