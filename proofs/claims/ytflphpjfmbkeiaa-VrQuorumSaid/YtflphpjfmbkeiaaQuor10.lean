/- The walk over droverlaw10.VrQuorum: what is reached, as many nodes as are enough have; one more not so many have. -/
import Derived.Test.YtflphpjfmbkeiaaLives10
import Derived.Test.YtflphpjfmbkeiaaQuorM
import Derived.Test.YtflphpjfmbkeiaaArg10
namespace Go.Proofs.Ytflphpjfmbkeiaa
open Go.RowKit

theorem int_lit (w : World) (a : Int) (h1 : -9223372036854775808 ≤ a) (h2 : a < 9223372036854775808) : IHolds (w.alloc (.cells #[.int .i64 a] 3 (0, 0))) (w.heap.size + 1) (some ⟨w.heap.size, 0, none⟩) 1 [a] :=
  ⟨rfl, fun x hx => by
    obtain rfl : x = a := by simpa using hx
    exact ⟨h1, h2⟩, fun _ => ⟨w.heap.size, 0, rfl, by omega, fun i hi => by
    rw [Nat.zero_add, cell_of_row _ _ _ _ _ _ (heap_alloc_new w _)]
    match i, hi with
    | 0, _ => rfl⟩⟩
theorem count_step {L : List Int} {j : Nat} {x : Int} (p : Int → Bool) (h : L[j]? = some x) : (L.take (j + 1)).countP p = (L.take j).countP p + if p x then 1 else 0 := by
  rw [List.take_add_one, h]
  simp [List.countP_append, List.countP_cons]

set_option maxHeartbeats 8000000 in
set_option maxRecDepth 100000 in
theorem law_quorum5 (n x0 x1 x2 x3 x4 : Nat) (w : World) (hn : n < 18446744073709551616) (hx : ∀ x ∈ [x0, x1, x2, x3, x4], x < 18446744073709551616) :
    Calls Try.prog 4 #[.int .u64 n, .agg #[.int .u64 x0, .int .u64 x1, .int .u64 x2, .int .u64 x3, .int .u64 x4]] w fun e w' => e = .returned (.bool true) ∧ Below w.heap.size w w' := by
  have LV := hide lives_any
  obtain ⟨i0, hi, hz0, hz1, hz2⟩ := info_parts Try.infoI64
  obtain ⟨l, hl⟩ : ∃ l, [x0, x1, x2, x3, x4] = l := ⟨_, rfl⟩
  have hlen : l.length = 5 := by rw [← hl]; rfl
  have HX0 : Hid (∀ w', Later (w.alloc (.cells #[.int .u64 x0, .int .u64 x1, .int .u64 x2, .int .u64 x3, .int .u64 x4] 46 (0, 0))) w' → ∀ (i x : Nat), l[i]? = some x → w'.cell? ⟨w.heap.size, i, none⟩ = some (.int .u64 (x : Int))) := fun w' h i x hix => by
    have h1 := (Below.block h w.heap.size (by simp)).trans (heap_alloc_new _ _)
    rw [cell_of_row _ _ i _ _ _ h1]
    rw [← hl] at hix
    match i, hix with
    | 0, hix =>
      obtain rfl : x0 = x := by simpa using hix
      rfl
    | 1, hix =>
      obtain rfl : x1 = x := by simpa using hix
      rfl
    | 2, hix =>
      obtain rfl : x2 = x := by simpa using hix
      rfl
    | 3, hix =>
      obtain rfl : x3 = x := by simpa using hix
      rfl
    | 4, hix =>
      obtain rfl : x4 = x := by simpa using hix
      rfl
  have HXL : Hid (∀ x ∈ l, x < 18446744073709551616) := by rw [← hl]; exact hx
  have HL0 : Hid (Later w (w.alloc (.cells #[.int .u64 x0, .int .u64 x1, .int .u64 x2, .int .u64 x3, .int .u64 x4] 46 (0, 0)))) := (Below.refl _ _).alloc (Nat.le_refl _) _
  obtain ⟨q, hq⟩ : ∃ q, q = n % 4 := ⟨_, rfl⟩
  have e1 : (n : Int) % 4 = (q : Int) := by omega
  have hq4 : q < 4 := by omega
  have hok : okN (2 + (q : Int)) = true := okN_iff.2 ⟨by omega, by omega⟩
  have HOK := hide hok
  have HLEN := hide hlen
  clear hq hl hx hlen hok
  go_enter Try.func4, Try.ntmps4
  go_wp2
  simp only [e1]
  go_loopw [6, 7, 8] (fun s t j wr => ∃ i : Nat, j = .int .i64 (i : Int) ∧ i ≤ 2 + q ∧ t = .int .i64 (topI (ackL l i)) ∧ wr.ownsRow (w.heap.size + 1) 3 1 s i (ivs (ackL l i)) ∧ Later (w.alloc (.cells #[.int .u64 x0, .int .u64 x1, .int .u64 x2, .int .u64 x3, .int .u64 x4] 46 (0, 0))) wr) (fun _ _ j _ => 3 + q - (Go.RowKit.intOf j).toNat)
  case atStart => exact ⟨0, by go_num, by omega, rfl, by rw [ack_zero]; exact World.ownsRow_nil _ _ _ _, Below.refl _ _⟩
  case round =>
    obtain ⟨i, rfl, hik, rfl, ho, hb⟩ := hrel
    have HO := hide ho
    have HB := hide hb
    clear ho hb
    obtain ⟨A, c, rfl, _, _, hh⟩ := IHolds.of_own HO.out (ack_fit l i)
    have HH := hide hh
    have HTL : Hid (topI (ackL l i) < 100) := top_lt
    have HTG : Hid (0 ≤ topI (ackL l i)) := (top_le (ackL l i) 0).1
    have HWS : Hid (w.heap.size + 1 ≤ wr.heap.size) := by have h := Below.size HB.out; rw [World.size_alloc] at h; exact h
    clear hh
    by_cases hi2 : i < 2 + q
    · obtain ⟨x, hix⟩ : ∃ x, l[i]? = some x := ⟨_, List.getElem?_eq_getElem (by have := HLEN.out; omega)⟩
      have hc := HX0.out wr HB.out i x hix
      have hxl := HXL.out x (List.mem_of_getElem? hix)
      have HS := hide (ack_succ hix)
      have HTS := hide (top_succ (ackL l i) ((x % 100 : Nat) : Int))
      rw [← HS.out] at HTS
      obtain ⟨y, hy⟩ : ∃ y, x % 100 = y := ⟨_, rfl⟩
      have e3 : (x : Int) % 100 = (y : Int) := by omega
      have hy2 : y < 100 := by omega
      rw [hy] at HS HTS
      have HO2 := hide (HO.out.alloc (.cells #[.int .i64 (y : Int)] 3))
      generalize hT : topI (ackL l i) = T at HTL HTG HTS ⊢
      have hws := HWS.out
      clear hix hy hT
      by_cases hty : T < (y : Int)
      · have HY := hide hty
        rw [if_pos hty] at HTS
        go_wp2_with (at_builtin; refine wpList_append_ints _ rfl (.tmp 29) (.tmp 31) 22 rfl (w.heap.size + 1) 3 i0 (.int .i64 0) Try.underlying22 hi hz0 hz1 hz2 rfl (.slice A i c) i (ivs (ackL l i)) rfl HO2.out _ (some ⟨wr.heap.size, 0, none⟩) 1 1 [(y : Int)] rfl (int_lit wr (y : Int) (by omega) (by omega)) (by omega) (by simp; omega) ?_; intro v5 w5 o5 g5)
        have o6 : w5.ownsRow (w.heap.size + 1) 3 1 v5 (i + 1) (ivs (ackL l (i + 1))) := by rw [HS.out, ivs_append]; exact o5
        have O6 := hide o6
        have B6 : Hid (Later (w.alloc (.cells #[.int .u64 x0, .int .u64 x1, .int .u64 x2, .int .u64 x3, .int .u64 x4] 46 (0, 0))) w5) := Below.grown (Below.alloc HB.out (Below.size HB.out) _) g5.1 (by have h := Below.size HB.out; simp at h ⊢; omega) (fun k hk => by have h := (HO2.out.lt k hk).1; simp; omega)
        clear o5 g5 o6
        go_roundw
        case rel => exact ⟨i + 1, by go_num, by omega, by rw [HTS.out], O6.out, B6.out⟩
        case measure => simp [Go.RowKit.intOf]; omega
      · have HY := hide hty
        rw [if_neg hty] at HTS
        have hd : decide (T < (y : Int)) = false := by simpa using hty
        go_wp2_with (at_builtin; refine wpList_append_ints _ rfl (.tmp 29) (.tmp 31) 22 rfl (w.heap.size + 1) 3 i0 (.int .i64 0) Try.underlying22 hi hz0 hz1 hz2 rfl (.slice A i c) i (ivs (ackL l i)) rfl HO2.out _ (some ⟨wr.heap.size, 0, none⟩) 1 1 [(y : Int)] rfl (int_lit wr (y : Int) (by omega) (by omega)) (by omega) (by simp; omega) ?_; intro v5 w5 o5 g5)
        have o6 : w5.ownsRow (w.heap.size + 1) 3 1 v5 (i + 1) (ivs (ackL l (i + 1))) := by rw [HS.out, ivs_append]; exact o5
        have O6 := hide o6
        have B6 : Hid (Later (w.alloc (.cells #[.int .u64 x0, .int .u64 x1, .int .u64 x2, .int .u64 x3, .int .u64 x4] 46 (0, 0))) w5) := Below.grown (Below.alloc HB.out (Below.size HB.out) _) g5.1 (by have h := Below.size HB.out; simp at h ⊢; omega) (fun k hk => by have h := (HO2.out.lt k hk).1; simp; omega)
        clear o5 g5 o6
        go_roundw
        case rel => exact ⟨i + 1, by go_num, by omega, by rw [HTS.out], O6.out, B6.out⟩
        case measure => simp [Go.RowKit.intOf]; omega
    · obtain rfl : i = 2 + q := by omega
      obtain ⟨L, hL⟩ : ∃ L, ackL l (2 + q) = L := ⟨_, rfl⟩
      have hLl : L.length = 2 + q := by rw [← hL, ack_len (by have := HLEN.out; omega)]
      obtain ⟨r, hr1, hr2, hr3, hr4, hr5⟩ := reach_top (L := L) HOK.out (by rw [hLl]; omega) (fun x hx => by rw [← hL] at hx; exact (ack_mem hx).1)
      have hfit : Fit L := by rw [← hL]; exact ack_fit _ _
      rw [hL] at HO HH HTL HTG ⊢
      have SL := hide (SlI.of_own HO.out hfit)
      have C1 := hide (reached_any SL.out (by omega) (topI L) (2 + (q : Int)))
      rw [hr1] at C1
      obtain ⟨h, hh⟩ : ∃ h, r / 2 = h := ⟨_, rfl⟩
      have e4 : (r : Int) / 2 = (h : Int) := by omega
      have hrl : r < 100 := by have := HTL.out; omega
      have HR5 := hide (hr5 (h : Int) (by omega) (by omega))
      obtain ⟨Q, hQ⟩ : ∃ Q, quorI (2 + (q : Int)) = Q := ⟨_, rfl⟩
      have RQ : Hid (∀ w, Calls Try.prog 19 #[.int .i64 (2 + (q : Int))] w fun e w' => e = .returned (.int .i64 Q) ∧ w = w') := fun w => by rw [← hQ]; exact refquorum_any _ w
      rw [hQ] at hr3 hr4
      have HR3 := hide hr3
      have HR4 := hide hr4
      have HLl := hide hLl
      generalize topI L = T at C1 ⊢
      clear hL hLl hr1 hr2 hr3 hr4 hr5 hfit hh hQ HTL HTG
      go_wp2_with (fail)
      refine C1.out.mono ?_
      rintro e w3 ⟨rfl, hl3⟩
      have L3 := hide (HH.out.below hl3)
      have HB3 : Hid (Later (w.alloc (.cells #[.int .u64 x0, .int .u64 x1, .int .u64 x2, .int .u64 x3, .int .u64 x4] 46 (0, 0))) w3) := Later.trans HB.out hl3
      have SL3 := hide (SL.out.kept (Kept.of_below hl3 _))
      clear hl3 C1
      go_wp2
      go_loopw [11, 12, 43] (fun s t z wr => ∃ j : Nat, z = .int .i64 (j : Int) ∧ j ≤ 2 + q ∧ s = .int .i64 (((L.take j).countP (fun x => decide ((r : Int) ≤ x)) : Nat) : Int) ∧ t = .int .i64 (((L.take j).countP (fun x => decide ((r : Int) < x)) : Nat) : Int) ∧ w3 = wr) (fun _ _ z _ => 2 + q - (Go.RowKit.intOf z).toNat)
      case atStart => exact ⟨0, by go_num, by omega, rfl, rfl, rfl⟩
      case round =>
        obtain ⟨j, rfl, hj, rfl, rfl, rfl⟩ := hrel
        obtain ⟨c1, hc1⟩ : ∃ c, (L.take j).countP (fun x => decide ((r : Int) ≤ x)) = c := ⟨_, rfl⟩
        obtain ⟨c2, hc2⟩ : ∃ c, (L.take j).countP (fun x => decide ((r : Int) < x)) = c := ⟨_, rfl⟩
        have hb1 : c1 ≤ 5 := by have h := List.countP_le_length (p := fun x => decide ((r : Int) ≤ x)) (l := L.take j); rw [List.length_take] at h; omega
        have hb2 : c2 ≤ 5 := by have h := List.countP_le_length (p := fun x => decide ((r : Int) < x)) (l := L.take j); rw [List.length_take] at h; omega
        rw [hc1, hc2]
        by_cases hj2 : j < 2 + q
        · obtain ⟨b, off, rfl, _, hc⟩ := L3.out.at_ (i := j) hj2
          obtain ⟨x, hx⟩ : ∃ x, L[j]? = some x := ⟨_, List.getElem?_eq_getElem (by have := HLl.out; omega)⟩
          have s1 := count_step (fun x => decide ((r : Int) ≤ x)) hx
          have s2 := count_step (fun x => decide ((r : Int) < x)) hx
          rw [hc1] at s1
          rw [hc2] at s2
          rw [show L.getD j 0 = x from by simp [List.getD, hx]] at hc
          clear hc1 hc2 hx
          by_cases t1 : (r : Int) ≤ x
          · rw [if_pos (by simpa using t1)] at s1
            by_cases t2 : (r : Int) < x
            · rw [if_pos (by simpa using t2)] at s2
              have S1 := hide s1
              have S2 := hide s2
              clear s1 s2
              go_wp2
              go_roundw
              case rel => exact ⟨j + 1, by go_num, by omega, by rw [S1.out]; go_num, by rw [S2.out]; go_num, by first | rfl | trivial⟩
              case measure => simp [Go.RowKit.intOf]; omega
            · rw [if_neg (by simpa using t2)] at s2
              have S1 := hide s1
              have S2 := hide s2
              have d2 : decide ((r : Int) < x) = false := by simpa using t2
              clear s1 s2
              go_wp2
              go_roundw
              case rel => exact ⟨j + 1, by go_num, by omega, by rw [S1.out]; go_num, by rw [S2.out]; rfl, by first | rfl | trivial⟩
              case measure => simp [Go.RowKit.intOf]; omega
          · have t2 : ¬ (r : Int) < x := by omega
            rw [if_neg (by simpa using t1)] at s1
            rw [if_neg (by simpa using t2)] at s2
            have S1 := hide s1
            have S2 := hide s2
            have d1 : decide ((r : Int) ≤ x) = false := by simpa using t1
            have d2 : decide ((r : Int) < x) = false := by simpa using t2
            clear s1 s2
            go_wp2
            go_roundw
            case rel => exact ⟨j + 1, by go_num, by omega, by rw [S1.out]; rfl, by rw [S2.out]; rfl, by first | rfl | trivial⟩
            case measure => simp [Go.RowKit.intOf]; omega
        · obtain rfl : j = 2 + q := by omega
          rw [List.take_of_length_le (by have := HLl.out; omega)] at hc1 hc2
          have d1 : decide (Q ≤ (c1 : Int)) = true := by have h := HR3.out; rw [hc1] at h; simpa using h
          have d2 : decide ((c2 : Int) < Q) = true := by have h := HR4.out; rw [hc2] at h; simpa using h
          have C5 := hide (reached_any SL3.out (by have := HLl.out; omega) (h : Int) (2 + (q : Int)))
          rw [HR5.out] at C5
          have d3 : ((h : Int) == (h : Int)) = true := by simp
          clear hc1 hc2
          go_wp2_with (fail)
          refine (RQ.out _).mono ?_
          rintro e w5 ⟨rfl, rfl⟩
          go_wp2_with (fail)
          refine (RQ.out _).mono ?_
          rintro e w5 ⟨rfl, rfl⟩
          go_wp2_with (fail)
          refine C5.out.mono ?_
          rintro e w5 ⟨rfl, hl⟩
          have HB5 := hide (Later.trans HB3.out hl)
          clear hl
          go_wp2_with (fail)
          refine (LV.out _).mono ?_
          rintro e w6 ⟨rfl, hl⟩
          have HB6 : Hid (Below w.heap.size w w6) := Later.trans HL0.out (Later.trans HB5.out hl)
          clear hl
          go_wp2
          go_ret
          exact ⟨rfl, HB6.out⟩
theorem law_quorum (n : Nat) (l : List Nat) (w : World) (hn : n < 18446744073709551616) (hl : l.length = 5) (hx : ∀ x ∈ l, x < 18446744073709551616) :
    Calls Try.prog 4 #[.int .u64 n, five l] w fun e w' => e = .returned (.bool true) ∧ Below w.heap.size w w' := by
  match l, hl with
  | [x0, x1, x2, x3, x4], _ => exact law_quorum5 n x0 x1 x2 x3 x4 w hn hx
end Go.Proofs.Ytflphpjfmbkeiaa
