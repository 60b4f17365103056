/- The walk over droverlaw05.ClockOver: a timer is over once, just behind as many ticks as was said, whatever others do. -/
import Derived.Test.YthimdmgimlhbaaaOrder5
namespace Go.Proofs.Ythimdmgimlhbaaa
open Go.RowKit Go.Maps

theorem findT_of {L : List (Int × Int)} (hr : L.Pairwise (fun p q => p.2 < q.2)) {p : Int × Int} (hp : p ∈ L) : findT L p.2 = some p := by
  rcases hf : findT L p.2 with _ | q
  · exact absurd rfl (findT_none hf p hp)
  · obtain ⟨h1, h2⟩ := findT_mem hf
    rw [rise_one hr h1 hp h2]
/-- The timers ahead of tick t. -/
def ovL (L : List (Int × Int)) (t : Nat) : List (Int × Int) := restT L ((t : Int) - 1)
theorem ovL_next (L : List (Int × Int)) (t : Nat) : restT (ovL L t) (t : Int) = ovL L (t + 1) := by
  unfold ovL
  rw [rest_rest _ (by omega), show ((t + 1 : Nat) : Int) - 1 = (t : Int) from by omega]
theorem ovL_late (L : List (Int × Int)) (t : Nat) : ∀ p ∈ ovL L t, (t : Int) - 1 < p.1 := by
  intro p hp
  have := (List.mem_filter.1 hp).2
  simp at this
  omega
theorem ovL_start {L : List (Int × Int)} (h : ∀ p ∈ L, (0 : Int) < p.1) : ovL L 1 = L := by
  unfold ovL
  refine (due_none fun q hq => ?_).2
  have := h q hq
  omega
section
variable {L : List (Int × Int)} {n : Nat}
theorem ov_left (hr : L.Pairwise (fun p q => p.2 < q.2)) (hm : ((n : Int), (7 : Int)) ∈ L) (t : Nat) : leftOf (ovL L (t + 1)) (t : Int) 7 = if t < n then (n : Int) - (t : Int) else 0 := by
  have hr2 : (ovL L (t + 1)).Pairwise (fun p q => p.2 < q.2) := hr.filter _
  unfold leftOf
  by_cases h : t < n
  · have hmem : ((n : Int), (7 : Int)) ∈ ovL L (t + 1) := List.mem_filter.2 ⟨hm, by simp; omega⟩
    have := findT_of hr2 hmem
    rw [this, if_pos h]
  · rcases hf : findT (ovL L (t + 1)) 7 with _ | q
    · rw [if_neg h]
    · obtain ⟨h1, h2⟩ := findT_mem hf
      obtain ⟨h3, h4⟩ := List.mem_filter.1 h1
      have := rise_one hr h3 hm h2
      subst this
      simp at h4
      omega
theorem ov_mem (hr : L.Pairwise (fun p q => p.2 < q.2)) (hm : ((n : Int), (7 : Int)) ∈ L) (t : Nat) : (7 : Int) ∈ namesT (dueT (ovL L t) (t : Int)) ↔ t = n := by
  constructor
  · intro h
    obtain ⟨p, hp, h7⟩ := List.mem_map.1 h
    obtain ⟨h1, h2⟩ := List.mem_filter.1 hp
    obtain ⟨h3, h4⟩ := List.mem_filter.1 h1
    have := rise_one hr h3 hm h7
    subst this
    simp at h2 h4
    omega
  · rintro rfl
    exact List.mem_map.2 ⟨((t : Int), 7), List.mem_filter.2 ⟨List.mem_filter.2 ⟨hm, by simp; omega⟩, by simp⟩, rfl⟩
end
/-- How often 7 stands among the first j. -/
def cnt7 (ns : List Int) (j : Nat) : Nat := (ns.take j).count 7
theorem cnt7_next {ns : List Int} {j : Nat} (hj : j < ns.length) : cnt7 ns (j + 1) = cnt7 ns j + if ns.getD j 0 = 7 then 1 else 0 := by
  unfold cnt7
  rw [List.take_succ_eq_append_getElem hj, List.count_append, List.getD_eq_getElem?_getD, List.getElem?_eq_getElem hj]
  simp [List.count_singleton]
theorem cnt7_le (ns : List Int) (j : Nat) : cnt7 ns j ≤ j := by
  unfold cnt7
  have := List.count_le_length (a := (7 : Int)) (l := ns.take j)
  rw [List.length_take] at this
  omega
theorem cnt7_all {ns : List Int} (hr : ns.Pairwise (· < ·)) : cnt7 ns ns.length = if (7 : Int) ∈ ns then 1 else 0 := by
  unfold cnt7
  rw [List.take_length]
  have hnd : ns.Nodup := hr.imp fun h e => by omega
  exact hnd.count

set_option maxHeartbeats 4000000 in
set_option maxRecDepth 100000 in
theorem law_over (v : Value) (l : List ActC) (a : Nat) (w : World) (h : ActsAt (· < w.heap.size) w v l) (hl : ∀ x ∈ l, x.wf) (ha : a < 18446744073709551616) :
    Calls Try.prog 4 #[v, .int .u64 (a : Int)] w fun e w' => e = .returned (.bool true) ∧ Below w.heap.size w w' := by
  obtain ⟨A, cp, rfl, hcn, hcm, _⟩ := FlatAt.shape h
  unfold maxLen at hcm
  obtain ⟨n', hn⟩ : ∃ n', n' = l.length := ⟨_, rfl⟩
  rw [← hn] at hcn ⊢
  have HV : Hid (ActsAt (· < w.heap.size) w (.slice A n' cp) l) := by rw [hn]; exact h
  have HWF := hide hl
  have HN := hide hn
  obtain ⟨q, hq⟩ : ∃ q, q = a % 50 := ⟨_, rfl⟩
  have hq50 : q < 50 := by omega
  have e1 : (a : Int) % 50 = (q : Int) := by omega
  obtain ⟨n, hnn⟩ : ∃ n, n = q + 1 := ⟨_, rfl⟩
  have e3 : (1 : Int) + (q : Int) = (n : Int) := by omega
  have hn1 : 1 ≤ n := by omega
  have hn50 : n ≤ 50 := by omega
  have C := hide (clk_new w)
  clear h hl hn hq hnn
  by_cases hlong : 60 < n'
  · have hlong' : (60 : Int) < (n' : Int) := by omega
    go_enter Try.func4, Try.ntmps4
    go_wp2_with (fail)
    refine C.out.mono ?_
    rintro e w1 ⟨c, S1, rfl, hb1, h1⟩
    have HB1 := hide hb1
    clear hb1 h1 C
    go_wp2_with (fail)
    refine (lives_any _).mono ?_
    rintro e w2 ⟨rfl, hb2⟩
    have HB2 := hide (HB1.out.trans (hb2.mono HB1.out.size))
    clear hb2
    go_wp2
    go_ret
    exact ⟨rfl, HB2.out⟩
  · have hshort : (n' : Int) ≤ 60 := by omega
    clear hlong
    go_enter Try.func4, Try.ntmps4
    go_wp2_with (fail)
    refine C.out.mono ?_
    rintro e w1 ⟨c, S1, rfl, hb1, h1⟩
    have HB1 := hide hb1
    have H1 := hide h1
    clear hb1 h1 C
    go_wp2
    simp only [e1]
    go_loopw [25] (fun v wr => ∃ k : Nat, v = .int .i64 (k : Int) ∧ k ≤ n' ∧ (∃ S L, Clk w.heap.size S wr c 0 L k ∧ L.length ≤ k ∧ ∀ p ∈ L, (0 : Int) < p.1) ∧ Below w.heap.size w wr) (fun v _ => n' - (intOf v).toNat)
    case atStart => exact ⟨0, rfl, by omega, ⟨S1, [], H1.out, by simp, by simp⟩, HB1.out⟩
    case round =>
      obtain ⟨k, rfl, hk, ⟨S, L, hc, hlen, hpos⟩, hb⟩ := hrel
      have HC := hide hc
      have HB := hide hb
      have HPOS := hide hpos
      clear hc hb hpos
      by_cases hkn : k < n'
      · obtain ⟨x, b, off, c', hx, hv, hcc, _, hbl, hrange⟩ := ActsAt.at_ (HV.out.kept (kept_at HB.out)) (i := k) (by rw [← HN.out]; exact hkn)
        rw [← HN.out] at hv
        obtain ⟨rfl, rfl⟩ : A = some ⟨b, off, none⟩ ∧ cp = c' := by injection hv with e1 _ e3; exact ⟨e1, e3⟩
        have hwf := HWF.out x (List.mem_of_getElem? hx)
        obtain ⟨kd, nm, af⟩ := x
        obtain ⟨⟨k1, k2⟩, ⟨n1, n2⟩, a1, a2⟩ := hwf
        simp only at k1 k2 n1 n2 a1 a2
        have HR : Hid (wr.rangeAt b (off + k * 3) [.int .i64 kd, .int .i64 nm, .int .i64 af]) := hrange
        clear hx hv hcc hrange
        by_cases hkd : kd = 1
        · subst hkd
          have hc2 := HC.out.later ((Below.refl wr.heap.size wr).alloc (Nat.le_refl _) (.cells #[.int .i64 1, .int .i64 nm, .int .i64 af] 31 (0, 0)))
          have HC2 := hide hc2
          have HB2 := hide (HB.out.alloc HC.out.low (.cells #[.int .i64 1, .int .i64 nm, .int .i64 af] 31 (0, 0)))
          clear hc2
          by_cases haf : af < 1 ∨ 100000 < af
          · go_wp2_with (refine wpList_load_mid (by rfl) 31 _ (by rfl) b (off + k * 3) (by rfl) _ _ HR.out Try.underlying31 (by rfl) (by kernel_rfl) ?_)
            refine (clk_range nm af HC2.out haf).mono ?_
            rintro e w2 ⟨rfl, rfl⟩
            clear haf
            go_wp2
            go_roundw
            case rel => exact ⟨k + 1, by go_num, by omega, ⟨S, L, HC2.out.more (by omega), by omega, HPOS.out⟩, HB2.out⟩
            case measure => simp [intOf]; omega
          · go_wp2_with (refine wpList_load_mid (by rfl) 31 _ (by rfl) b (off + k * 3) (by rfl) _ _ HR.out Try.underlying31 (by rfl) (by kernel_rfl) ?_)
            refine (clk_set nm af HC2.out n1 n2 (by omega) (by omega) (.inr (by omega)) (by omega)).mono ?_
            rintro e w2 ⟨S2, rfl, h2, t2, _⟩
            have HB3 := hide (HB2.out.trans (HC2.out.below t2))
            have H2 := hide h2
            have HLEN : Hid ((insT (0 + af, nm) (delT L nm)).length ≤ k + 1) := by
              show _ ≤ _
              rw [(insT_perm _ _).length_eq, List.length_append]
              have := List.length_filter_le (fun p : Int × Int => !(p.2 == nm)) L
              unfold delT
              simp
              omega
            have HPOS2 : Hid (∀ p ∈ insT (0 + af, nm) (delT L nm), (0 : Int) < p.1) := fun p hp => by
              rcases insT_mem.1 hp with hp | rfl
              · exact HPOS.out p (delT_mem.1 hp).1
              · simp only
                omega
            clear h2 t2 haf
            go_wp2
            go_roundw
            case rel => exact ⟨k + 1, by go_num, by omega, ⟨S2, _, H2.out, HLEN.out, HPOS2.out⟩, HB3.out⟩
            case measure => simp [intOf]; omega
        · have hkd2 : (kd == 1) = false := by rw [beq_eq_false_iff_ne]; exact hkd
          have HB2 := hide (HB.out.alloc HC.out.low (.cells #[.int .i64 kd, .int .i64 nm, .int .i64 af] 31 (0, 0)))
          have HC2 := hide (HC.out.later ((Below.refl wr.heap.size wr).alloc (Nat.le_refl _) (.cells #[.int .i64 kd, .int .i64 nm, .int .i64 af] 31 (0, 0))))
          clear hkd
          go_wp2_with (refine wpList_load_mid (by rfl) 31 _ (by rfl) b (off + k * 3) (by rfl) _ _ HR.out Try.underlying31 (by rfl) (by kernel_rfl) ?_)
          go_roundw
          case rel => exact ⟨k + 1, by go_num, by omega, ⟨S, L, HC2.out.more (by omega), by omega, HPOS.out⟩, HB2.out⟩
          case measure => simp [intOf]; omega
      · obtain rfl : k = n' := by omega
        clear hkn
        go_wp2_with (fail)
        refine (clk_set 7 (n : Int) HC.out (by decide) (by decide) (by omega) (by omega) (.inr (by omega)) (by omega)).mono ?_
        rintro e w2 ⟨S2, rfl, h2, t2, _⟩
        have HB2 := hide (HB.out.trans (HC.out.below t2))
        obtain ⟨L1, hL1⟩ : ∃ L1, L1 = insT (0 + (n : Int), 7) (delT L 7) := ⟨_, rfl⟩
        rw [← hL1] at h2
        have hmem : ((n : Int), (7 : Int)) ∈ L1 := by
          rw [hL1]
          refine insT_mem.2 (.inr ?_)
          simp
        have hpos1 : ∀ p ∈ L1, (0 : Int) < p.1 := fun p hp => by
          rw [hL1] at hp
          rcases insT_mem.1 hp with hp | rfl
          · exact HPOS.out p (delT_mem.1 hp).1
          · simp only
            omega
        have HRISE := hide h2.rise
        have HMEM := hide hmem
        have H2 : Hid (Clk w.heap.size S2 w2 c (((1 : Nat) : Int) - 1) (ovL L1 1) (k + 1)) := by
          show Clk _ _ _ _ _ _ _
          rw [ovL_start hpos1]
          exact h2
        clear h2 t2 hL1 hmem hpos1
        go_wp2
        go_loopw [10] (fun v wr => ∃ t : Nat, v = .int .i64 (t : Int) ∧ 1 ≤ t ∧ t ≤ 61 ∧ Clk w.heap.size S2 wr c ((t : Int) - 1) (ovL L1 t) (k + 1) ∧ Below w.heap.size w wr) (fun v _ => 61 - (intOf v).toNat)
        case atStart => exact ⟨1, rfl, by omega, by omega, H2.out, HB2.out⟩
        case round =>
          obtain ⟨t, rfl, ht1, ht61, hc, hb⟩ := hrel
          have HC2 := hide hc
          have HB3 := hide hb
          clear hc hb
          by_cases ht : t ≤ 60
          · have htt : (t : Int) - 1 + 1 = (t : Int) := by omega
            have CT := clk_tick HC2.out (ovL_late L1 t) (by omega)
            unfold ClkTick at CT
            rw [htt, ovL_next] at CT
            have HCT := hide CT
            clear CT htt
            go_wp2_with (fail)
            refine HCT.out.mono ?_
            rintro e w5 ⟨A5, m, c5, rfl, _, hi, hm, hc5, ht5⟩
            have HB5 := hide (HB3.out.trans (HC2.out.below ht5))
            have HC5 := hide hc5
            have hm100 : m ≤ 100 := by
              have h1 := hi.1
              rw [namesT_len] at h1
              have h2 := List.length_filter_le (fun p : Int × Int => decide (p.1 ≤ (t : Int))) (ovL L1 t)
              have h3 := HC2.out.len
              unfold dueT at h1
              omega
            obtain ⟨ns, hns⟩ : ∃ ns, ns = namesT (dueT (ovL L1 t) (t : Int)) := ⟨_, rfl⟩
            rw [← hns] at hi
            have HI := hide hi
            have HLEN : Hid (m = ns.length) := hi.1.symm
            have HCNT : Hid (cnt7 ns m = if t = n then 1 else 0) := by
              show _ = _
              have hrise : ns.Pairwise (· < ·) := by
                rw [hns]
                exact names_rise (HC2.out.rise.filter _)
              rw [HLEN.out, cnt7_all hrise, hns]
              simp only [ov_mem HRISE.out HMEM.out t]
            clear hi hc5 ht5 HCT hns
            go_wp2
            go_loop [11, 51] (fun x i => ∃ j : Nat, j ≤ m ∧ i = .int .i64 (j : Int) ∧ x = .int .i64 ((cnt7 ns j : Nat) : Int)) (fun _ i => m - (intOf i).toNat)
            case atStart => exact ⟨0, by omega, rfl, rfl⟩
            case round =>
              obtain ⟨j, hj, rfl, rfl⟩ := hrel
              have hcj := cnt7_le ns j
              by_cases hjm : j < m
              · obtain ⟨g, off, rfl, _, hcell⟩ := HI.out.at_ hjm
                have HNX := hide (cnt7_next (ns := ns) (j := j) (by have := HLEN.out; omega))
                obtain ⟨y, hy⟩ : ∃ y, y = ns.getD j 0 := ⟨_, rfl⟩
                rw [← hy] at hcell HNX
                clear hy
                by_cases h7 : y = 7
                · subst h7
                  go_wp2
                  go_round
                  case rel => exact ⟨j + 1, by omega, by go_num, by rw [HNX.out, if_pos rfl]; go_num⟩
                  case measure => simp [intOf]; omega
                · have h7' : (y == 7) = false := by rw [beq_eq_false_iff_ne]; exact h7
                  have HNX2 : Hid (cnt7 ns (j + 1) = cnt7 ns j) := by
                    show _ = _
                    rw [HNX.out, if_neg h7]
                    rfl
                  clear h7
                  go_wp2
                  go_round
                  case rel => exact ⟨j + 1, by omega, by go_num, by rw [HNX2.out]⟩
                  case measure => simp [intOf]; omega
              · obtain rfl : j = m := by omega
                clear hj hjm
                have CL := clk_left 7 HC5.out (by decide) (by decide)
                rw [ov_left HRISE.out HMEM.out t] at CL
                obtain ⟨x, hx⟩ : ∃ x, x = cnt7 ns j := ⟨_, rfl⟩
                rw [← hx]
                have hxc := HCNT.out
                rw [← hx] at hxc
                clear hx hcj
                by_cases htn : t < n
                · have hx0 : x = 0 := by rw [hxc, if_neg (by omega)]
                  subst hx0
                  rw [if_pos htn] at CL
                  have HCL := hide CL
                  have ht2 : ((t : Int) == (n : Int)) = false := by rw [beq_eq_false_iff_ne]; omega
                  have htni : (t : Int) < (n : Int) := by omega
                  have htn2 : (((n : Int) - (t : Int)) != ((n : Int) - (t : Int))) = false := by simp
                  clear CL hxc htn
                  go_wp2_with (fail)
                  refine HCL.out.mono ?_
                  rintro e w6 ⟨rfl, hb6⟩
                  have HB6 := hide (HB5.out.trans (hb6.mono HC5.out.low))
                  have HC6 := hide (HC5.out.later hb6)
                  clear hb6 HCL
                  go_wp2
                  go_roundw
                  case rel => exact ⟨t + 1, by go_num, by omega, by omega, by rw [show ((t + 1 : Nat) : Int) - 1 = (t : Int) from by omega]; exact HC6.out, HB6.out⟩
                  case measure => simp [intOf]; omega
                · rw [if_neg htn] at CL
                  have HCL := hide CL
                  have htni : (n : Int) ≤ (t : Int) := by omega
                  have hcase : (x = 1 ∧ t = n) ∨ (x = 0 ∧ ((t : Int) == (n : Int)) = false) := by
                    by_cases e : t = n
                    · exact .inl ⟨by rw [hxc, if_pos e], e⟩
                    · exact .inr ⟨by rw [hxc, if_neg e], by rw [beq_eq_false_iff_ne]; omega⟩
                  clear CL hxc htn
                  rcases hcase with ⟨rfl, rfl⟩ | ⟨rfl, ht2⟩
                  all_goals
                    go_wp2_with (fail)
                    refine HCL.out.mono ?_
                    rintro e w6 ⟨rfl, hb6⟩
                    have HB6 := hide (HB5.out.trans (hb6.mono HC5.out.low))
                    have HC6 := hide (HC5.out.later hb6)
                    clear hb6 HCL
                    go_wp2
                    go_roundw
                    case rel => exact ⟨t + 1, by go_num, by omega, by omega, by rw [show ((t + 1 : Nat) : Int) - 1 = (t : Int) from by omega]; exact HC6.out, HB6.out⟩
                    case measure => simp [intOf]; omega
          · obtain rfl : t = 61 := by omega
            clear ht ht61
            go_wp2_with (fail)
            refine (clk_now HC2.out).mono ?_
            rintro e w6 ⟨rfl, rfl⟩
            go_wp2_with (fail)
            refine (lives_any _).mono ?_
            rintro e w7 ⟨rfl, hb7⟩
            have HB7 := hide (HB3.out.trans (hb7.mono HB3.out.size))
            clear hb7
            go_wp2
            go_ret
            exact ⟨rfl, HB7.out⟩
end Go.Proofs.Ythimdmgimlhbaaa
