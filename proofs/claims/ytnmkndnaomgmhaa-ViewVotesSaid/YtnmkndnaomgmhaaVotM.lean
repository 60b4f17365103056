/- Votes in memory: what makes, turns and tells them: NewVotes, Add, Clear, Nodes. -/
import Derived.Test.YtnmkndnaomgmhaaVot
import Derived.Test.YtnmkndnaomgmhaaInts
import Derived.Test.YtnmkndnaomgmhaaGrown
namespace Go.Proofs.Ytnmkndnaomgmhaa
open Go.RowKit

section
variable {w : World} {p : Value} {n : Int} {V : Nat} {g : Nat}
theorem new_no (w : World) (hn : okN n = false) : Calls Try.prog 18 #[.int .i64 n] w fun e w' => e = .returned (.pointer none) ∧ w' = w := by
  have C := hide (nodes_any n)
  rw [hn] at C
  clear hn
  go_enter Try.func18, Try.ntmps18
  go_wp2_with (go_at_call 33; refine (C.out _).mono ?_; rintro e w1 ⟨rfl, rfl⟩)
  go_ret
  exact ⟨rfl, rfl⟩
theorem new_yes (w : World) (hn : okN n = true) : Calls Try.prog 18 #[.int .i64 n] w fun e w' => e = .returned (.pointer (some ⟨w.heap.size, 0, none⟩)) ∧ w' = w.alloc (.cells #[.int .i64 n, .int .u64 0] 60 (0, 0)) := by
  have C := hide (nodes_any n)
  rw [hn] at C
  clear hn
  go_enter Try.func18, Try.ntmps18
  go_wp2_with (go_at_call 33; refine (C.out _).mono ?_; rintro e w1 ⟨rfl, rfl⟩)
  go_ret
  exact ⟨rfl, rfl⟩
theorem vat_new (w : World) (n : Int) : VAt (w.alloc (.cells #[.int .i64 n, .int .u64 0] 60 (0, 0))) (.pointer (some ⟨w.heap.size, 0, none⟩)) n 0 := .inr ⟨_, rfl, heap_alloc_new _ _⟩

theorem clear_no (h : VAt w p n V) (hn : okN n = false) : Calls Try.prog 20 #[p] w fun e w' => e = .returned (.tuple #[]) ∧ w' = w := by
  have C := hide (made_any h)
  rw [hn] at C
  clear hn h
  go_enter Try.func20, Try.ntmps20
  go_wp2_with (go_at_call 36; refine C.out.mono ?_; rintro e w1 ⟨rfl, rfl⟩)
  go_end0
  exact ⟨rfl, rfl⟩
theorem vat_set (h : VAt w (.pointer (some ⟨g, 0, none⟩)) n V) (U : Nat) : VAt (w.setCell ⟨g, 1, none⟩ (.int .u64 (U : Int))) (.pointer (some ⟨g, 0, none⟩)) n U :=
  .inr ⟨g, rfl, heap_setCell_same w g 1 _ _ _ h.block⟩
theorem clear_yes (h : VAt w (.pointer (some ⟨g, 0, none⟩)) n V) (hn : okN n = true) : Calls Try.prog 20 #[.pointer (some ⟨g, 0, none⟩)] w fun e w' => e = .returned (.tuple #[]) ∧ VAt w' (.pointer (some ⟨g, 0, none⟩)) n 0 ∧ w.grownBy w' (some g) := by
  have C := hide (made_any h)
  obtain ⟨g', hp, c0, c1, f1⟩ := h.cells hn
  obtain rfl : g = g' := by injection hp with e; injection e with e; injection e
  rw [hn] at C
  have H := hide h
  clear hn h hp
  go_enter Try.func20, Try.ntmps20
  go_wp2_with (go_at_call 36; refine C.out.mono ?_; rintro e w1 ⟨rfl, rfl⟩)
  go_end0
  exact ⟨rfl, vat_set H.out 0, grown_set _ _ _ _⟩

set_option maxHeartbeats 1000000 in
theorem add_no (h : VAt w p n V) (hV : V < 32) {x : Int} (hno : addB n V x = false) : Draws w 21 #[p, .int .i64 x] (.bool false) := by
  unfold Draws
  have C := hide (made_any h)
  have CI := hide (isnode_any x n)
  have CH : Hid (Calls Try.prog 23 #[p, .int .i64 x] w fun e w' => e = .returned (.bool (hasB n V x)) ∧ ∃ q, w' = w.drewN q) := has_any h hV x
  by_cases hn : okN n = true
  · rw [hn] at C
    obtain ⟨g, rfl, c0, c1, f1⟩ := h.cells hn
    by_cases hx : okNode x n = true
    · have hh : hasB n V x = true := by
        rw [addB, hx, Bool.true_and] at hno
        simpa using hno
      rw [hx] at CI
      rw [hh] at CH
      clear hn hx hh hno h hV
      go_enter Try.func21, Try.ntmps21
      go_wp2_with (first | (go_at_call 36; refine C.out.mono ?_; rintro e w1 ⟨rfl, rfl⟩) | (go_at_call 35; refine (CI.out _).mono ?_; rintro e w1 ⟨rfl, rfl⟩) | (go_at_call 23; refine CH.out.mono ?_; rintro e w1 ⟨rfl, q, rfl⟩))
      go_ret
      exact ⟨rfl, _, rfl⟩
    · have hx : okNode x n = false := by simpa using hx
      rw [hx] at CI
      clear hn hx hno h hV CH
      go_enter Try.func21, Try.ntmps21
      go_wp2_with (first | (go_at_call 36; refine C.out.mono ?_; rintro e w1 ⟨rfl, rfl⟩) | (go_at_call 35; refine (CI.out _).mono ?_; rintro e w1 ⟨rfl, rfl⟩))
      go_ret
      exact ⟨rfl, 0, rfl⟩
  · have hn : okN n = false := by simpa using hn
    rw [hn] at C
    clear hn hno h hV CH
    go_enter Try.func21, Try.ntmps21
    go_wp2_with (first | (go_at_call 36; refine C.out.mono ?_; rintro e w1 ⟨rfl, rfl⟩))
    go_ret
    exact ⟨rfl, 0, rfl⟩

theorem addB_yes {x : Int} (h : addB n V x = true) : okN n = true ∧ okNode x n = true ∧ hasB n V x = false := by
  rw [addB, Bool.and_eq_true] at h
  exact ⟨okN_iff.2 (okNode_iff.1 h.1).1, h.1, by simpa using h.2⟩
set_option maxHeartbeats 1000000 in
theorem add_yes (h : VAt w (.pointer (some ⟨g, 0, none⟩)) n V) (hV : V < 32) {x : Int} (hyes : addB n V x = true) : Calls Try.prog 21 #[.pointer (some ⟨g, 0, none⟩), .int .i64 x] w fun e w' => e = .returned (.bool true) ∧ VAt w' (.pointer (some ⟨g, 0, none⟩)) n (addV n V x) ∧ w.grownBy w' (some g) := by
  obtain ⟨hn, hx, hh⟩ := addB_yes hyes
  have C := hide (made_any h)
  have CI := hide (isnode_any x n)
  have CH : Hid (Calls Try.prog 23 #[.pointer (some ⟨g, 0, none⟩), .int .i64 x] w fun e w' => e = .returned (.bool (hasB n V x)) ∧ ∃ q, w' = w.drewN q) := has_any h hV x
  obtain ⟨g', hp, c0, c1, f1⟩ := h.cells hn
  obtain rfl : g = g' := by injection hp with e; injection e with e; injection e
  obtain ⟨k, rfl, hk, hk2⟩ := okNode_nat hx
  have CB := hide (bit_any hk)
  have e1 := u64_or_nat V (2 ^ k) (by omega) (by have : ∀ k < 5, 2 ^ k < 18446744073709551616 := by decide
                                                 exact this k hk)
  have HU : Hid (V ||| 2 ^ k = addV n V ((k : Int) + 1)) := by show _ = _; rw [addV, if_pos hx, hk2]
  obtain ⟨U, hU⟩ : ∃ U, U = V ||| 2 ^ k := ⟨_, rfl⟩
  obtain ⟨b, hb⟩ : ∃ b, b = 2 ^ k := ⟨_, rfl⟩
  rw [← hU] at HU e1
  rw [← hb] at e1 CB
  rw [hn] at C
  rw [hx] at CI
  rw [hh] at CH
  have H := hide h
  clear hn hx hh hyes h hV hp hU hb hk hk2
  go_enter Try.func21, Try.ntmps21
  go_wp2_with (first | (go_at_call 36; refine C.out.mono ?_; rintro e w1 ⟨rfl, rfl⟩) | (go_at_call 35; refine (CI.out _).mono ?_; rintro e w1 ⟨rfl, rfl⟩) | (go_at_call 23; refine CH.out.mono ?_; rintro e w1 ⟨rfl, q, rfl⟩))
  go_region_with (go_at_call 37; refine (CB.out _).mono ?_; rintro e w1 ⟨rfl, rfl⟩)
  all_goals
    go_wp2
    go_ret
    refine ⟨rfl, ?_, ?_⟩
    · rw [← HU.out]
      exact VAt.kept (vat_set H.out U) rfl
    · exact ⟨rfl, rfl, rfl, by simp [World.setCell], fun i hi hne => Below.heap_setCell _ _ _ _ (fun e => hne (by rw [e]))⟩
end
def nodesUp (V : Nat) (i : Nat) : List Int := ((List.range i).filter (fun j : Nat => V.testBit j)).map (fun j : Nat => (j : Int) + 1)
theorem nodesUp_zero (V : Nat) : nodesUp V 0 = [] := rfl
theorem nodesUp_yes {V i : Nat} (h : V.testBit i = true) : nodesUp V (i + 1) = nodesUp V i ++ [(i : Int) + 1] := by simp [nodesUp, List.range_succ, List.filter_append, h]
theorem nodesUp_no {V i : Nat} (h : V.testBit i = false) : nodesUp V (i + 1) = nodesUp V i := by simp [nodesUp, List.range_succ, List.filter_append, h]
theorem nodesUp_len (V i : Nat) : (nodesUp V i).length ≤ i := by
  have h := List.length_filter_le (fun j : Nat => V.testBit j) (List.range i)
  rw [List.length_range] at h
  rw [nodesUp, List.length_map]
  exact h
theorem nodesUp_fit {V i : Nat} (h : i ≤ 5) : Fit (nodesUp V i) := by
  intro x hx
  obtain ⟨j, hj, rfl⟩ := List.mem_map.1 hx
  have h1 : j < i := List.mem_range.1 (List.mem_filter.1 hj).1
  omega
theorem int_lit (w : World) (a : Int) (h1 : -9223372036854775808 ≤ a) (h2 : a < 9223372036854775808) : IHolds (w.alloc (.cells #[.int .i64 a] 3 (0, 0))) (w.heap.size + 1) (some ⟨w.heap.size, 0, none⟩) 1 [a] :=
  ⟨rfl, fun x hx => by
    obtain rfl : x = a := by simpa using hx
    exact ⟨h1, h2⟩, fun _ => ⟨w.heap.size, 0, rfl, by omega, fun i hi => by
    rw [Nat.zero_add, cell_of_row _ _ _ _ _ _ (heap_alloc_new w _)]
    match i, hi with
    | 0, _ => rfl⟩⟩
theorem nodes_no {w : World} {p : Value} {n : Int} {V : Nat} (h : VAt w p n V) (hn : okN n = false) : Calls Try.prog 29 #[p] w fun e w' => e = .returned (.slice none 0 0) ∧ w' = w := by
  have C := hide (made_any h)
  rw [hn] at C
  clear hn h
  go_enter Try.func29, Try.ntmps29
  go_wp2_with (go_at_call 36; refine C.out.mono ?_; rintro e w1 ⟨rfl, rfl⟩)
  go_ret
  exact ⟨rfl, rfl⟩
theorem hasB_at {n : Int} {V i : Nat} (hn : okN n = true) (hi : (i : Int) < n) : hasB n V ((i : Int) + 1) = V.testBit i := by
  have h1 : okNode ((i : Int) + 1) n = true := okNode_iff.2 ⟨okN_iff.1 hn, by omega, by omega⟩
  rw [hasB, h1, Bool.true_and]
  congr 1
theorem own_none {w : World} {b e k : Nat} : w.ownsRow b e k (.slice none 0 0) 0 [] := ⟨by simp, .inl ⟨rfl, rfl⟩⟩
set_option maxHeartbeats 1000000 in
theorem nodes_yes {w : World} {g : Nat} {n : Int} {V : Nat} (h : VAt w (.pointer (some ⟨g, 0, none⟩)) n V) (hV : V < 32) (hn : okN n = true) : Calls Try.prog 29 #[.pointer (some ⟨g, 0, none⟩)] w (NewInts w (nodesUp V n.toNat)) := by
  obtain ⟨i0, hi, hz0, hz1, hz2⟩ := info_parts Try.infoI64
  have HI := hide hi
  have HZ0 := hide hz0
  have HZ1 := hide hz1
  have HZ2 := hide hz2
  have C := hide (made_any h)
  have CH : Hid (∀ w', VAt w' (.pointer (some ⟨g, 0, none⟩)) n V → ∀ x, Calls Try.prog 23 #[.pointer (some ⟨g, 0, none⟩), .int .i64 x] w' fun e w'' => e = .returned (.bool (hasB n V x)) ∧ ∃ q, w'' = w'.drewN q) := fun w' h' x => has_any h' hV x
  obtain ⟨g', hp, c0, c1, f1⟩ := h.cells hn
  obtain rfl : g = g' := by injection hp with e; injection e with e; injection e
  rw [hn] at C
  have HN := hide hn
  have H := hide h
  obtain ⟨N, rfl⟩ : ∃ N : Nat, n = (N : Int) := Int.eq_ofNat_of_zero_le (by have := okN_iff.1 hn; omega)
  have hN5 : N ≤ 5 := by have := okN_iff.1 hn; omega
  have hgl : Hid (g < w.heap.size) := lt_of_block h.block
  rw [show (N : Int).toNat = N from rfl]
  clear hn h hV hp hi hz0 hz1 hz2
  go_enter Try.func29, Try.ntmps29
  go_wp2_with (go_at_call 36; refine C.out.mono ?_; rintro e w1 ⟨rfl, hq⟩; obtain rfl := hq.symm)
  clear c0 c1 f1
  go_loopw [3, 13] (fun v j wr => ∃ i m : Nat, ∃ A c, j = .int .i64 (i : Int) ∧ i ≤ N ∧ m ≤ i ∧ v = .slice A m c ∧ (nodesUp V i).length = m ∧ wr.ownsRow w.heap.size 3 1 v m (ivs (nodesUp V i)) ∧ Below w.heap.size w wr) (fun _ j _ => N - (Go.RowKit.intOf j).toNat)
  case atStart => exact ⟨0, 0, none, 0, rfl, by omega, by omega, rfl, rfl, own_none, Below.refl _ _⟩
  case round =>
    obtain ⟨i, m, A, c, rfl, hi1, hmi, rfl, hml, ho, hb⟩ := hrel
    have HO := hide ho
    have HB := hide hb
    have HML := hide hml
    clear ho hb hml
    by_cases hin : i < N
    · have hv : Hid (VAt wr (.pointer (some ⟨g, 0, none⟩)) N V) := H.out.kept (HB.out.block g hgl.out)
      by_cases ht : V.testBit i = true
      · have e1 : hasB N V ((i : Int) + 1) = true := (hasB_at HN.out (by omega)).trans ht
        have HU := hide (nodesUp_yes ht)
        have HE := hide e1
        clear ht e1
        go_wp2_with (fail)
        refine (CH.out _ hv.out _).mono ?_
        rw [HE.out]
        rintro e w3 ⟨rfl, q, rfl⟩
        have HO2 : Hid (((wr.drewN q).alloc (.cells #[.int .i64 ((i : Int) + 1)] 3 (0, 0))).ownsRow w.heap.size 3 1 (.slice A m c) m (ivs (nodesUp V i))) := by
          have h1 : (wr.drewN q).ownsRow w.heap.size 3 1 (.slice A m c) m (ivs (nodesUp V i)) := own_same HO.out (fun _ _ => rfl)
          exact h1.alloc _
        have HLOW : Hid (w.heap.size ≤ ((wr.drewN q).alloc (.cells #[.int .i64 ((i : Int) + 1)] 3 (0, 0))).heap.size) := by
          have h1 := HB.out.size
          show _ ≤ _
          simp
          omega
        go_wp2_with (at_builtin; refine wpList_append_ints _ rfl (.tmp 21) (.tmp 23) 27 rfl w.heap.size 3 i0 (.int .i64 0) Try.underlying27 HI.out HZ0.out HZ1.out HZ2.out rfl (.slice A m c) m (ivs (nodesUp V i)) rfl HO2.out _ (some ⟨wr.heap.size, 0, none⟩) 1 1 [(i : Int) + 1] rfl (int_lit (wr.drewN q) ((i : Int) + 1) (by omega) (by omega)) (by omega) (by exact HLOW.out) ?_; intro v5 w5 o5 g5)
        have o6 : w5.ownsRow w.heap.size 3 1 v5 (m + 1) (ivs (nodesUp V (i + 1))) := by rw [HU.out, ivs_append]; exact o5
        obtain ⟨A5, c5, rfl, _, _, _⟩ := IHolds.of_own o6 (nodesUp_fit (by omega))
        have O6 := hide o6
        have B5 : Hid (Below w.heap.size w w5) := (HB.out.trans ((below_drewN w.heap.size wr q).alloc HB.out.size _)).grown g5.1 HLOW.out (fun k hk => (HO2.out.lt k hk).1)
        clear o5 g5 o6
        go_wp2
        go_roundw
        case rel => exact ⟨i + 1, m + 1, A5, c5, by go_num, by omega, by omega, rfl, by rw [HU.out, List.length_append, HML.out]; rfl, O6.out, B5.out⟩
        case measure => simp [Go.RowKit.intOf]; omega
      · have ht : V.testBit i = false := by simpa using ht
        have e1 : hasB N V ((i : Int) + 1) = false := (hasB_at HN.out (by omega)).trans ht
        have HU := hide (nodesUp_no ht)
        have HE := hide e1
        clear ht e1
        go_wp2_with (fail)
        refine (CH.out _ hv.out _).mono ?_
        rw [HE.out]
        rintro e w3 ⟨rfl, q, rfl⟩
        go_wp2
        go_roundw
        case rel => exact ⟨i + 1, m, A, c, by go_num, by omega, by omega, rfl, by rw [HU.out, HML.out], by rw [HU.out]; exact own_same HO.out (fun _ _ => rfl), HB.out.trans (below_drewN _ _ _)⟩
        case measure => simp [Go.RowKit.intOf]; omega
    · obtain rfl : i = N := by omega
      obtain ⟨A', c', hv', h1, _, h3⟩ := IHolds.of_own HO.out (nodesUp_fit (by omega))
      have hc : decide (i < i) = false := by simp
      have HR : Hid (NewInts w (nodesUp V i) (.returned (.slice A m c)) wr) := by
        obtain ⟨rfl, rfl⟩ : A = A' ∧ c = c' := by injection hv' with e1 _ e3; exact ⟨e1, e3⟩
        exact ⟨A, m, c, rfl, HO.out, h3, h1, HB.out⟩
      clear h1 h3 hv'
      go_wp2
      go_ret
      exact HR.out
end Go.Proofs.Ytnmkndnaomgmhaa
