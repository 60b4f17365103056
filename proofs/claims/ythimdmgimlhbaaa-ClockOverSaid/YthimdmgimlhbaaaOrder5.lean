/- The walk over droverlaw05.ClockOrder: timers are over in the order of their times, those of one tick by names; all are, in the end. -/
import Derived.Test.YthimdmgimlhbaaaMany5
import Derived.Test.YthimdmgimlhbaaaAct
namespace Go.Proofs.Ythimdmgimlhbaaa
open Go.RowKit Go.Maps

/-- At which tick the timer of the k-th number is over. -/
def endAt (l : List Int) (k : Nat) : Int := 1 + l.getD k 0 % 40
def orderL (l : List Int) (k : Nat) : List (Int × Int) := (List.range k).map fun (j : Nat) => (endAt l j, (j : Int))
theorem endAt_le (l : List Int) (k : Nat) : 1 ≤ endAt l k ∧ endAt l k ≤ 40 := by
  unfold endAt
  omega
theorem orderL_len (l : List Int) (k : Nat) : (orderL l k).length = k := by simp [orderL]
theorem orderL_mem {l : List Int} {k : Nat} {p : Int × Int} (h : p ∈ orderL l k) : ∃ j : Nat, j < k ∧ p = (endAt l j, (j : Int)) := by
  obtain ⟨j, hj, rfl⟩ := List.mem_map.1 h
  exact ⟨j, List.mem_range.1 hj, rfl⟩
theorem orderL_next (l : List Int) (k : Nat) : insT (0 + endAt l k, (k : Int)) (delT (orderL l k) (k : Int)) = orderL l (k + 1) := by
  have hn : findT (orderL l k) (k : Int) = none := by
    unfold findT
    rw [List.find?_eq_none]
    intro p hp
    obtain ⟨j, hj, rfl⟩ := orderL_mem hp
    simp
    omega
  rw [delT_none hn, insT_last _ _ fun p hp => by
    obtain ⟨j, hj, rfl⟩ := orderL_mem hp
    simp only
    omega]
  simp [orderL, List.range_succ]
theorem rest_rest (L : List (Int × Int)) {a b : Int} (h : a ≤ b) : restT (restT L a) b = restT L b := by
  unfold restT
  rw [List.filter_filter]
  apply List.filter_congr
  intro p _
  rw [Bool.eq_iff_iff]
  simp
  omega
theorem split_len (L : List (Int × Int)) (a : Int) : (dueT L a).length + (restT L a).length = L.length := by
  induction L with
  | nil => rfl
  | cons y r ih =>
    unfold dueT restT at ih ⊢
    by_cases h : y.1 ≤ a
    · rw [List.filter_cons, if_pos (by simpa using h), List.filter_cons, if_neg (by simpa using h), List.length_cons, List.length_cons]
      omega
    · rw [List.filter_cons, if_neg (by simpa using h), List.filter_cons, if_pos (by simpa using h), List.length_cons, List.length_cons]
      omega
/-- Those that are not over ahead of tick t, and how many are. -/
def ordL (l : List Int) (t : Nat) : List (Int × Int) := restT (orderL l l.length) ((t : Int) - 1)
def ordN (l : List Int) (t : Nat) : Nat := l.length - (ordL l t).length
theorem ordL_start (l : List Int) : ordL l 1 = orderL l l.length := by
  unfold ordL
  refine (due_none fun q hq => ?_).2
  obtain ⟨j, _, rfl⟩ := orderL_mem hq
  have := endAt_le l j
  simp only
  omega
theorem ordL_end (l : List Int) : ordL l 41 = [] := by
  unfold ordL restT
  rw [List.filter_eq_nil_iff]
  intro q hq
  obtain ⟨j, _, rfl⟩ := orderL_mem hq
  have := endAt_le l j
  simp
  omega
theorem ordL_le (l : List Int) (t : Nat) : (ordL l t).length ≤ l.length := by
  have := List.length_filter_le (fun p : Int × Int => !decide (p.1 ≤ (t : Int) - 1)) (orderL l l.length)
  rw [orderL_len] at this
  exact this
theorem ord_step (l : List Int) (t : Nat) : restT (ordL l t) (t : Int) = ordL l (t + 1) ∧ ordN l t + (dueT (ordL l t) (t : Int)).length = ordN l (t + 1) := by
  have h1 : restT (ordL l t) (t : Int) = ordL l (t + 1) := by
    unfold ordL
    rw [rest_rest _ (by omega), show ((t + 1 : Nat) : Int) - 1 = (t : Int) from by omega]
  refine ⟨h1, ?_⟩
  have h2 := split_len (ordL l t) (t : Int)
  rw [h1] at h2
  have h3 := ordL_le l t
  have h4 := ordL_le l (t + 1)
  unfold ordN
  omega
theorem ord_due {l : List Int} {t : Nat} {x : Int} (h : x ∈ namesT (dueT (ordL l t) (t : Int))) : ∃ j : Nat, x = (j : Int) ∧ j < l.length ∧ endAt l j = (t : Int) := by
  obtain ⟨p, hp, rfl⟩ := List.mem_map.1 h
  obtain ⟨h1, h2⟩ := List.mem_filter.1 hp
  obtain ⟨h3, h4⟩ := List.mem_filter.1 h1
  obtain ⟨j, hj, rfl⟩ := orderL_mem h3
  simp at h2 h4
  exact ⟨j, rfl, hj, by omega⟩
theorem ord_late (l : List Int) (t : Nat) : ∀ p ∈ ordL l t, (t : Int) - 1 < p.1 := by
  intro p hp
  have := (List.mem_filter.1 hp).2
  simp at this
  omega
theorem kept_at {B : Nat} {w w' : World} (h : Below B w w') : Kept (· < B) w w' := ⟨h.size, fun i _ hF => h.block i hF⟩
/-- The last name that was seen is below those that come. -/
def LastOf (ns : List Int) (j : Nat) (y : Int) : Prop := -1 ≤ y ∧ y < 9223372036854775808 ∧ ∀ i, j ≤ i → i < ns.length → y < ns.getD i 0
theorem LastOf.start (ns : List Int) (h : ∀ x ∈ ns, 0 ≤ x) : LastOf ns 0 (-1) := ⟨by omega, by omega, fun i _ hi => by
  rw [List.getD_eq_getElem?_getD, List.getElem?_eq_getElem hi]
  have := h _ (List.getElem_mem hi)
  simp only [Option.getD_some]
  omega⟩
theorem LastOf.next {ns : List Int} (hr : ns.Pairwise (· < ·)) {j : Nat} (hj : j < ns.length) (h0 : 0 ≤ ns.getD j 0) (h1 : ns.getD j 0 < 9223372036854775808) : LastOf ns (j + 1) (ns.getD j 0) := ⟨by omega, h1, fun i h2 h3 => by
  rw [List.getD_eq_getElem?_getD, List.getElem?_eq_getElem hj, List.getD_eq_getElem?_getD, List.getElem?_eq_getElem h3]
  exact List.pairwise_iff_getElem.1 hr j i hj h3 (by omega)⟩

set_option maxHeartbeats 4000000 in
set_option maxRecDepth 100000 in
theorem law_order (v : Value) (l : List Int) (w : World) (h : UintsAt (· < w.heap.size) w v l) (hl : ∀ a ∈ l, 0 ≤ a ∧ a < 18446744073709551616) :
    Calls Try.prog 8 #[v] w fun e w' => e = .returned (.bool true) ∧ Below w.heap.size w w' := by
  obtain ⟨A, cp, rfl, hcn, hcm, _⟩ := FlatAt.shape h
  unfold maxLen at hcm
  obtain ⟨n, hn⟩ : ∃ n, n = l.length := ⟨_, rfl⟩
  have hbd : ∀ k, 0 ≤ l.getD k 0 ∧ l.getD k 0 < 18446744073709551616 := fun k => by
    by_cases hk : k < l.length
    · rw [List.getD_eq_getElem?_getD, List.getElem?_eq_getElem hk]
      exact hl _ (List.getElem_mem hk)
    · rw [List.getD_eq_getElem?_getD, List.getElem?_eq_none (by omega)]
      simp
  rw [← hn] at hcn ⊢
  have HV : Hid (UintsAt (· < w.heap.size) w (.slice A n cp) l) := by rw [hn]; exact h
  have HBD := hide hbd
  have HN := hide hn
  have C := hide (clk_new w)
  clear h hl hbd hn
  by_cases hlong : 60 < n
  · have hlong' : (60 : Int) < (n : Int) := by omega
    go_enter Try.func8, Try.ntmps8
    go_wp2_with (fail)
    refine C.out.mono ?_
    rintro e w1 ⟨c, S1, rfl, hb1, h1⟩
    have HB1 := hide hb1
    clear hb1 h1 C
    go_wp2_with (fail)
    refine (lives_any _).mono ?_
    rintro e w2 ⟨rfl, hb2⟩
    have HB2 := hide (HB1.out.trans (hb2.mono HB1.out.size))
    clear hb2
    go_wp2
    go_ret
    exact ⟨rfl, HB2.out⟩
  · have hshort : (n : Int) ≤ 60 := by omega
    clear hlong
    go_enter Try.func8, Try.ntmps8
    go_wp2_with (fail)
    refine C.out.mono ?_
    rintro e w1 ⟨c, S1, rfl, hb1, h1⟩
    have HB1 := hide hb1
    have H1 := hide h1
    clear hb1 h1 C
    go_wp2
    go_loopw [18] (fun v wr => ∃ k : Nat, v = .int .i64 (k : Int) ∧ k ≤ n ∧ (∃ S, Clk w.heap.size S wr c 0 (orderL l k) k) ∧ Below w.heap.size w wr) (fun v _ => n - (intOf v).toNat)
    case atStart => exact ⟨0, rfl, by omega, ⟨S1, H1.out⟩, HB1.out⟩
    case round =>
      obtain ⟨k, rfl, hk, ⟨S, hc⟩, hb⟩ := hrel
      have HC := hide hc
      have HB := hide hb
      clear hc hb
      by_cases hkn : k < n
      · obtain ⟨b, off, c', hv, hcc, _, hbl, hcell⟩ := UintsAt.at_ (HV.out.kept (kept_at HB.out)) (i := k) (by rw [← HN.out]; exact hkn)
        rw [← HN.out] at hv
        obtain ⟨rfl, rfl⟩ : A = some ⟨b, off, none⟩ ∧ cp = c' := by injection hv with e1 _ e3; exact ⟨e1, e3⟩
        obtain ⟨x, hx⟩ : ∃ x, x = l.getD k 0 := ⟨_, rfl⟩
        obtain ⟨hx0, hx1⟩ := HBD.out k
        rw [← hx] at hcell hx0 hx1
        obtain ⟨r, hr⟩ : ∃ r, x % 40 = r := ⟨_, rfl⟩
        have hr0 : 0 ≤ r := by omega
        have hr1 : r < 40 := by omega
        have HE : Hid (endAt l k = 1 + r) := by
          show _ = _
          unfold endAt
          rw [← hx, hr]
        clear hv hx hcc
        go_wp2_with (fail)
        refine (clk_set (k : Int) (1 + r) HC.out (by omega) (by omega) (by omega) (by omega) (.inr (by rw [orderL_len]; omega)) (by omega)).mono ?_
        rintro e w2 ⟨S2, rfl, h2, t2, _⟩
        rw [← HE.out, orderL_next] at h2
        have HB2 := hide (HB.out.trans (HC.out.below t2))
        have H2 := hide h2
        clear h2 t2
        go_wp2
        go_roundw
        case rel => exact ⟨k + 1, by go_num, by omega, ⟨S2, H2.out⟩, HB2.out⟩
        case measure => simp [intOf]; omega
      · obtain rfl : k = n := by omega
        have HC1 : Hid (Clk w.heap.size S wr c (((1 : Nat) : Int) - 1) (ordL l 1) k) := by
          show Clk _ _ _ _ _ _ _
          rw [ordL_start, ← HN.out]
          exact HC.out
        have HN1 : Hid (ordN l 1 = 0) := by
          show _ = _
          unfold ordN
          rw [ordL_start, orderL_len]
          omega
        clear hk hkn
        go_wp2
        go_loopw [6, 7] (fun x v wr => ∃ t : Nat, v = .int .i64 (t : Int) ∧ x = .int .i64 ((ordN l t : Nat) : Int) ∧ 1 ≤ t ∧ t ≤ 41 ∧ Clk w.heap.size S wr c ((t : Int) - 1) (ordL l t) k ∧ Below w.heap.size w wr) (fun _ v _ => 41 - (intOf v).toNat)
        case atStart => exact ⟨1, rfl, by rw [HN1.out]; rfl, by omega, by omega, HC1.out, HB.out⟩
        case round =>
          obtain ⟨t, rfl, rfl, ht1, ht41, hc, hb⟩ := hrel
          have HC2 := hide hc
          have HB2 := hide hb
          obtain ⟨hs1, hs2⟩ := ord_step l t
          obtain ⟨x0, hx0⟩ : ∃ x, x = ordN l t := ⟨_, rfl⟩
          have hx0n : x0 ≤ k := by
            rw [hx0]
            unfold ordN
            have := HN.out
            omega
          rw [← hx0] at hs2 ⊢
          have HS2 := hide hs2
          have HX0 := hide hx0
          clear hc hb hs2 hx0
          by_cases ht : t ≤ 40
          · have htt : (t : Int) - 1 + 1 = (t : Int) := by omega
            have CT := clk_tick HC2.out (ord_late l t) (by omega)
            unfold ClkTick at CT
            rw [htt, hs1] at CT
            have HCT := hide CT
            clear CT htt hs1
            go_wp2_with (fail)
            refine HCT.out.mono ?_
            rintro e w5 ⟨A5, m, c5, rfl, _, hi, hm, hc5, ht5⟩
            have HB5 := hide (HB2.out.trans (HC2.out.below ht5))
            have HC5 := hide hc5
            obtain ⟨ns, hns⟩ : ∃ ns, ns = namesT (dueT (ordL l t) (t : Int)) := ⟨_, rfl⟩
            rw [← hns] at hi
            have HI := hide hi
            have HLEN : Hid (m = ns.length) := hi.1.symm
            have hsum : x0 + m = ordN l (t + 1) := by
              rw [← HS2.out, HLEN.out, hns, namesT_len]
            have hsum2 : ordN l (t + 1) ≤ k := by
              unfold ordN
              have := HN.out
              omega
            have HSUM := hide hsum
            have hm60 : x0 + m ≤ 60 := by omega
            have HRISE : Hid (ns.Pairwise (· < ·)) := by
              show List.Pairwise _ _
              rw [hns]
              exact names_rise (HC2.out.rise.filter _)
            have HDUE : Hid (∀ x ∈ ns, ∃ j : Nat, x = (j : Int) ∧ j < l.length ∧ endAt l j = (t : Int)) := fun x hx => by
              rw [hns] at hx
              exact ord_due hx
            clear hi hc5 ht5 HCT hns hsum hsum2
            go_wp2
            go_loop [6, 8, 39] (fun x y i => ∃ (j : Nat) (z : Int), j ≤ m ∧ i = .int .i64 (j : Int) ∧ x = .int .i64 ((x0 + j : Nat) : Int) ∧ y = .int .i64 z ∧ LastOf ns j z) (fun _ _ i => m - (intOf i).toNat)
            case atStart => exact ⟨0, -1, by omega, rfl, rfl, rfl, LastOf.start ns fun x hx => by
              obtain ⟨j, rfl, _⟩ := HDUE.out x hx
              omega⟩
            case round =>
              obtain ⟨j, z, hj, rfl, rfl, rfl, hlast⟩ := hrel
              by_cases hjm : j < m
              · obtain ⟨g, off, rfl, _, hcell⟩ := HI.out.at_ hjm
                have hmem : ns.getD j 0 ∈ ns := by
                  have : j < ns.length := by have := HLEN.out; omega
                  rw [List.getD_eq_getElem?_getD, List.getElem?_eq_getElem this]
                  exact List.getElem_mem this
                obtain ⟨q, hq, hql, hqe⟩ := HDUE.out _ hmem
                have hzq : z < (q : Int) := by
                  rw [← hq]
                  exact hlast.2.2 j (Nat.le_refl _) (by have := HLEN.out; omega)
                have hz1 := hlast.1
                have HNEXT : Hid (LastOf ns (j + 1) (q : Int)) := by
                  have := LastOf.next HRISE.out (j := j) (by have := HLEN.out; omega) (by rw [hq]; omega) (by rw [hq]; have := HN.out; omega)
                  rw [hq] at this
                  exact this
                rw [hq] at hcell
                have hqk : q < k := by have := HN.out; omega
                obtain ⟨b, off2, c', hv, hcc, _, hbl, hcell2⟩ := UintsAt.at_ (HV.out.kept (kept_at HB5.out)) (i := q) hql
                rw [← HN.out] at hv
                obtain ⟨rfl, rfl⟩ : A = some ⟨b, off2, none⟩ ∧ cp = c' := by injection hv with e1 _ e3; exact ⟨e1, e3⟩
                obtain ⟨x, hx⟩ : ∃ x, x = l.getD q 0 := ⟨_, rfl⟩
                obtain ⟨hxx0, hxx1⟩ := HBD.out q
                rw [← hx] at hcell2 hxx0 hxx1
                have hr : x % 40 = (t : Int) - 1 := by
                  unfold endAt at hqe
                  rw [← hx] at hqe
                  omega
                have hqt : (1 : Int) + ((t : Int) - 1) = (t : Int) := by omega
                have hqi : (q : Int) < (k : Int) := by omega
                have hqt2 : ((t : Int) != (t : Int)) = false := by simp
                clear hv hx hcc hlast hmem hq hqe hql
                go_wp2
                go_round
                case rel => exact ⟨j + 1, (q : Int), by omega, by go_num, by go_num, rfl, HNEXT.out⟩
                case measure => simp [intOf]; omega
              · obtain rfl : j = m := by omega
                clear hlast
                go_wp2
                go_roundw
                case rel => exact ⟨t + 1, by go_num, by rw [HSUM.out], by omega, by omega, by rw [show ((t + 1 : Nat) : Int) - 1 = (t : Int) from by omega]; exact HC5.out, HB5.out⟩
                case measure => simp [intOf]; omega
          · obtain rfl : t = 41 := by omega
            have hend : x0 = k := by
              rw [HX0.out, HN.out]
              unfold ordN
              rw [ordL_end]
              simp
            have HE := hide hend
            clear hend
            have hxe : (((x0 : Nat) : Int) == ((k : Nat) : Int)) = true := by
              rw [HE.out]
              simp
            have CN := clk_names HC2.out
            rw [ordL_end] at CN
            have HCN := hide CN
            clear CN hs1
            go_wp2_with (fail)
            refine HCN.out.mono ?_
            rintro e w6 ⟨A6, m, c6, rfl, _, hi, hm, hb6⟩
            have hm0 : m = 0 := hi.1.symm
            subst hm0
            have HB6 := hide (HB2.out.trans (hb6.mono HB2.out.size))
            clear hi hb6
            go_wp2_with (fail)
            refine (lives_any _).mono ?_
            rintro e w7 ⟨rfl, hb7⟩
            have HB7 := hide (HB6.out.trans (hb7.mono HB6.out.size))
            clear hb7
            go_wp2
            go_ret
            exact ⟨rfl, HB7.out⟩
end Go.Proofs.Ythimdmgimlhbaaa
