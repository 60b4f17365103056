/- The walk over droverlaw03.DrawDraws: whatever is drawn, of any seed, is the document's. -/
import Derived.Test.YtccneonplpmiaaaShuf2
import Derived.Test.YtccneonplpmiaaaLives3
import Derived.Test.YtccneonplpmiaaaRefInts
import Derived.Test.YtccneonplpmiaaaOrderT
namespace Go.Proofs.Ytccneonplpmiaaa
open Go.RowKit

theorem below_drewN (B : Nat) (w : World) (n : Nat) : Below B w (w.drewN n) := ⟨rfl, rfl, rfl, Nat.le_refl _, fun _ _ => rfl⟩

/-- The code's draw and the document's, asked the same, answer the same. -/
def Both (f1 f2 : FuncId) (more : List Value) (g h k c : Nat) (w : World) (v : Int) (c' : Nat) : Prop :=
  Calls Try.prog f1 (.pointer (some ⟨g, 0, none⟩) :: more).toArray w fun e w1 => e = .returned (.int .i64 v) ∧ DrawAt 43 w1 g k c' ∧ DrawAt 35 w1 h k c ∧ w.grownBy w1 (some g) ∧
    Calls Try.prog f2 (.pointer (some ⟨h, 0, none⟩) :: more).toArray w1 fun e w2 => e = .returned (.int .i64 v) ∧ DrawAt 43 w2 g k c' ∧ DrawAt 35 w2 h k c' ∧ w1.grownBy w2 (some h)

section
variable {g h k c : Nat} {w : World}
theorem both_nonce (hk : k < 4294967296) (hc : c < 1000000) (h1 : DrawAt 43 w g k c) (h2 : DrawAt 35 w h k c) (hne : g ≠ h) :
    ∃ v, Hid (Both 16 17 [] g h k c w v (c + 1)) :=
  ⟨_, (nonce_any g k c w h1 hk (by omega)).mono fun e w1 ⟨he, a1, a2⟩ => ⟨he, a1, h2.other a2 (fun e => hne (Option.some.inj e).symm), a2,
    (refnonce_any h k c w1 (h2.other a2 (fun e => hne (Option.some.inj e).symm)) hk (by omega)).mono fun e w2 ⟨he2, b1, b2⟩ => ⟨he2, a1.other b2 (fun e => hne (Option.some.inj e)), b1, b2⟩⟩⟩
theorem both_below (n : Int) (hn2 : n < 9223372036854775808) (hk : k < 4294967296) (hc : c < 1000000) (h1 : DrawAt 43 w g k c) (h2 : DrawAt 35 w h k c) (hne : g ≠ h) :
    ∃ v c', c' ≤ c + 1 ∧ Hid (Both 18 19 [.int .i64 n] g h k c w v c') := by
  by_cases hn : 1 ≤ n
  · exact ⟨_, c + 1, Nat.le_refl _, (below_yes g k c n w h1 hk (by omega) hn hn2).mono fun e w1 ⟨he, a1, a2⟩ => ⟨he, a1, h2.other a2 (fun e => hne (Option.some.inj e).symm), a2,
      (refbelow_yes h k c n w1 (h2.other a2 (fun e => hne (Option.some.inj e).symm)) hk (by omega) hn hn2).mono fun e w2 ⟨he2, b1, b2⟩ => ⟨he2, a1.other b2 (fun e => hne (Option.some.inj e)), b1, b2⟩⟩⟩
  · exact ⟨0, c, by omega, (below_no g n w hn).mono fun e w1 ⟨he, a1⟩ => ⟨he, a1 ▸ h1, a1 ▸ h2, a1 ▸ World.grownBy.refl _ _,
      (refbelow_no h n w1 hn).mono fun e w2 ⟨he2, b1⟩ => ⟨he2, b1 ▸ a1 ▸ h1, b1 ▸ a1 ▸ h2, b1 ▸ World.grownBy.refl _ _⟩⟩⟩
end

/-- Where the loop stands. -/
def DrawsAt (w wr : World) (g h k c : Nat) : Prop :=
  DrawAt 43 wr g k c ∧ DrawAt 35 wr h k c ∧ Below w.heap.size w wr

set_option maxHeartbeats 2000000 in
set_option maxRecDepth 100000 in
theorem law_draws (S : Nat) (A : Option Addr) (n cap : Nat) (l : List Int) (w : World) (hS : S < 18446744073709551616) (hl : IHolds w w.heap.size A n l) (hn : n ≤ maxLen) :
    Calls Try.prog 4 #[.int .u64 S, .slice A n cap] w fun e w' => e = .returned (.bool true) ∧ Below w.heap.size w w' := by
  unfold maxLen at hn
  have hk := keyOf_lt hS
  have C1 := hide (new_any S w hS)
  have C2 := hide (fun w => refnew_any S w hS)
  have HS := hide hS
  clear hS
  obtain ⟨k, hke⟩ : ∃ k, k = keyOf S := ⟨_, rfl⟩
  rw [← hke] at hk
  have HK := hide hke
  have HL := hide hl
  clear hke hl
  by_cases hlong : 300 < n
  · go_enter Try.func4, Try.ntmps4
    go_wp2_with (fail)
    refine (lives_any _).mono ?_
    rintro e w2 ⟨rfl, b⟩
    go_wp2
    go_ret
    exact ⟨rfl, b⟩
  · go_enter Try.func4, Try.ntmps4
    go_wp2_with (fail)
    refine C1.out.mono ?_
    rintro e w1 ⟨g, rfl, hg, hd, hlt⟩
    rw [← HK.out] at hd
    have HG := hide hg
    have HD := hide hd
    have HL1 := hide (show Below w.heap.size w w1 from hlt)
    clear hg hd hlt
    go_wp2_with (fail)
    refine (C2.out w1).mono ?_
    rintro e w2 ⟨h, rfl, hg, hd, hlt⟩
    rw [← HK.out] at hd
    have hlt' : Below w1.heap.size w1 w2 := hlt
    have HGH : Hid (g < h) := Nat.lt_of_lt_of_le HD.out.lt hg
    have S0 : DrawsAt w w2 g h k 0 := ⟨HD.out.below hlt' HD.out.lt, hd, HL1.out.trans (hlt'.mono HL1.out.size)⟩
    clear hg hd hlt hlt'
    go_wp2
    go_loopw [19] (fun j wr => ∃ m c : Nat, m ≤ n ∧ c ≤ m ∧ j = .int .i64 (m : Int) ∧ DrawsAt w wr g h k c) (fun j _ => n - (intOf j).toNat)
    case atStart => exact ⟨0, 0, by omega, by omega, rfl, S0⟩
    case round =>
      obtain ⟨m, c, hm, hcm, rfl, hd, hdr, hb⟩ := hrel
      have HD' := hide hd
      have HDR := hide hdr
      have HB := hide hb
      clear hd hdr hb
      have IL : Hid (IHolds wr w.heap.size A n l) := HL.out.below HB.out
      by_cases hmn : m < n
      · obtain ⟨b, off, rfl, _, hc⟩ := IL.out.at_ hmn
        have hx := HL.out.2.1.get m
        obtain ⟨x, hxe⟩ : ∃ x, x = l.getD m 0 := ⟨_, rfl⟩
        rw [← hxe] at hc hx
        clear hxe
        obtain ⟨hx1, hx2⟩ := hx
        by_cases h0 : x = 0
        · subst h0
          obtain ⟨v, C⟩ := both_nonce hk (by omega) HD'.out HDR.out (by have := HGH.out; omega)
          go_wp2_with (fail)
          refine C.out.mono ?_
          rintro e w3 ⟨rfl, a1, a2, a3, a4⟩
          have C3 := hide a4
          have G3 := hide a3
          clear a1 a2 a3 a4
          go_wp2_with (fail)
          refine C3.out.mono ?_
          rintro e w4 ⟨rfl, a1, a2, a3⟩
          have D4 := hide a1
          have R4 := hide a2
          have G4 := hide a3
          have f1 := a2.cell1
          have C4 : Hid (∀ q : Nat, Calls Try.prog 20 #[.pointer (some ⟨g, 0, none⟩)] (w4.drewN q) fun e w' => e = .returned (.int .i64 ((c + 1 : Nat) : Int)) ∧ w' = w4.drewN q) := fun q => (count_any g k (c + 1) (w4.drewN q) a1).mono fun _ _ ⟨q1, q2⟩ => ⟨q1, q2.symm⟩
          clear a1 a2 a3
          have ht : (v != v) = false := by simp
          obtain ⟨c', hc'⟩ : ∃ c', c' = c + 1 := ⟨_, rfl⟩
          rw [← hc'] at C4 D4 R4 f1
          have hcb : c' ≤ c + 1 := by omega
          have HB4 : Hid (Below w.heap.size w w4) := (HB.out.trans (below_grown G3.out HG.out HB.out.size)).trans (below_grown G4.out (by have := HG.out; have := HGH.out; omega) (Nat.le_trans HB.out.size G3.out.size))
          clear hc'
          have ht2 : ((c' : Int) != (c' : Int)) = false := by simp
          go_wp2
          go_quiet ((go_at_call 20; exact Calls.quiet_of_same (C4.out _)))
          go_wp2
          go_roundw
          case rel => exact ⟨m + 1, c', by omega, by omega, by go_num, D4.out, R4.out, HB4.out.trans (below_drewN _ _ _)⟩
          case measure => simp [intOf]; omega
        · have h0t : (x == 0) = false := by simpa using h0
          obtain ⟨v, c', hcb, C⟩ := both_below x hx2 hk (by omega) HD'.out HDR.out (by have := HGH.out; omega)
          clear h0
          go_wp2_with (fail)
          refine C.out.mono ?_
          rintro e w3 ⟨rfl, a1, a2, a3, a4⟩
          have C3 := hide a4
          have G3 := hide a3
          clear a1 a2 a3 a4
          go_wp2_with (fail)
          refine C3.out.mono ?_
          rintro e w4 ⟨rfl, a1, a2, a3⟩
          have D4 := hide a1
          have R4 := hide a2
          have G4 := hide a3
          have f1 := a2.cell1
          have C4 : Hid (∀ q : Nat, Calls Try.prog 20 #[.pointer (some ⟨g, 0, none⟩)] (w4.drewN q) fun e w' => e = .returned (.int .i64 (c' : Int)) ∧ w' = w4.drewN q) := fun q => (count_any g k c' (w4.drewN q) a1).mono fun _ _ ⟨q1, q2⟩ => ⟨q1, q2.symm⟩
          clear a1 a2 a3
          have ht : (v != v) = false := by simp
          have HB4 : Hid (Below w.heap.size w w4) := (HB.out.trans (below_grown G3.out HG.out HB.out.size)).trans (below_grown G4.out (by have := HG.out; have := HGH.out; omega) (Nat.le_trans HB.out.size G3.out.size))
          have ht2 : ((c' : Int) != (c' : Int)) = false := by simp
          go_wp2
          go_quiet ((go_at_call 20; exact Calls.quiet_of_same (C4.out _)))
          go_wp2
          go_roundw
          case rel => exact ⟨m + 1, c', by omega, by omega, by go_num, D4.out, R4.out, HB4.out.trans (below_drewN _ _ _)⟩
          case measure => simp [intOf]; omega
      · have ILr : IHolds wr.drew wr.drew.heap.size A n l := IL.out.more HB.out.size
        have C5 := hide (shuffle_any g k c A n cap l wr.drew HD'.out hk (by omega) ILr (by omega))
        clear ILr
        go_wp2
        refine wp_region_T (by kernel_rfl) ?_
        refine wpAnyT_take (i := 0) (d := some 45) (v := ?va0) rfl rfl (by kernel_rfl) (by kernel_rfl) (by kernel_rfl) (fun _ _ _ h => h) (by rfl) ?ya0 ?_
        case ya0 => (intro w'; go_simp; try (with_reducible rfl))
        simp only [Act.put, List.setIfInBounds_toArray, List.set_cons_zero, List.set_cons_succ]
        refine wpAnyT_take (i := 1) (d := some 46) (v := ?va1) rfl rfl (by kernel_rfl) (by kernel_rfl) (by kernel_rfl) (fun _ _ _ h => h) (by rfl) ?ya1 ?_
        case ya1 => (intro w'; go_simp; try (with_reducible rfl))
        simp only [Act.put, List.setIfInBounds_toArray, List.set_cons_zero, List.set_cons_succ]
        refine wpAnyT_take (i := 3) (d := some 48) (v := ?va3) rfl rfl (by kernel_rfl) (by kernel_rfl) (by kernel_rfl) (fun _ _ _ h => h) (by rfl) ?ya3 ?_
        case ya3 => (intro w'; go_simp; try (with_reducible rfl))
        simp only [Act.put, List.setIfInBounds_toArray, List.set_cons_zero, List.set_cons_succ]
        refine wpAnyT_take (i := 4) (d := some 49) (v := ?va4) rfl rfl (by kernel_rfl) (by kernel_rfl) (by kernel_rfl) (fun _ _ _ h => h) (by rfl) ?ya4 ?_
        case ya4 => (intro w'; go_simp; try (with_reducible rfl))
        simp only [Act.put, List.setIfInBounds_toArray, List.set_cons_zero, List.set_cons_succ]
        refine wpAnyT_only (i := 2) rfl (by kernel_rfl) (by rfl) fun K hK => ?_
        go_simp
        refine C5.out.mono ?_
        rintro e w5 ⟨Aa, ca, rfl, oa, da, ga⟩
        have OA := hide oa
        have DA := hide da
        have GA := hide ga
        clear oa da ga
        have IL5 : Hid (IHolds w5 w5.heap.size A n l) := (IL.out.keep (fun p hp => World.cell?_of_block (w := wr.drew) (GA.out.block p.block (Nat.lt_of_lt_of_le hp HB.out.size) (fun e => by have e2 : p.block = g := Option.some.inj e; have := HG.out; omega)))).more (Nat.le_trans HB.out.size GA.out.size)
        have DR5 : Hid (DrawAt 35 w5 h k c) := (show DrawAt 35 wr.drew h k c from HDR.out).other GA.out (fun e => by have e2 : h = g := Option.some.inj e; have := HGH.out; omega)
        refine hK.out _ _ ?_
        clear hK K
        try simp only [Act.put, List.setIfInBounds_toArray, List.set_cons_zero, List.set_cons_succ]
        refine wpAnyT_only (i := 5) rfl (by kernel_rfl) (by rfl) fun K hK => ?_
        go_simp
        refine (refshuffle_any h k c A n cap l w5 DR5.out hk (by omega) IL5.out (by omega)).mono ?_
        rintro e w6 ⟨Ab, cb, rfl, ob, db, gb⟩
        have OB := hide ob
        have DB := hide db
        have GB := hide gb
        clear ob db gb
        have DA6 : Hid (DrawAt 43 w6 g k (c + (n - 1))) := DA.out.other GB.out (fun e => by have e2 : g = h := Option.some.inj e; have := HGH.out; omega)
        have OA6 := hide (OA.out.kept GB.out (.inr (fun e => by have := (OA.out.lt h e).1; have h3 : h < wr.heap.size := HDR.out.lt; have h4 : wr.drew.heap.size = wr.heap.size := rfl; omega)))
        obtain ⟨Aa', ca', hva, _, _, ia⟩ := IHolds.of_own OA6.out (shuf_fit k n c l IL.out.2.1)
        obtain ⟨rfl, rfl⟩ : Aa = Aa' ∧ ca = ca' := by injection hva with e1 _ e3; exact ⟨e1, e3⟩
        obtain ⟨Ab', cb', hvb, _, _, ib⟩ := IHolds.of_own OB.out (shuf_fit k n c l IL.out.2.1)
        obtain ⟨rfl, rfl⟩ : Ab = Ab' ∧ cb = cb' := by injection hvb with e1 _ e3; exact ⟨e1, e3⟩
        have C6 := hide (refints_any Aa Ab n ca n cb _ _ _ _ w6 ia ib (by omega) (by omega))
        rw [eqI_self] at C6
        clear hva hvb ia ib
        refine hK.out _ _ ?_
        clear hK K
        try simp only [Act.put, List.setIfInBounds_toArray, List.set_cons_zero, List.set_cons_succ]
        refine wpAnyT_only (i := 6) rfl (by kernel_rfl) (by rfl) fun K hK => ?_
        go_simp
        refine C6.out.mono ?_
        rintro e w7 ⟨rfl, hq⟩
        have DA7 : Hid (DrawAt 43 w7 g k (c + (n - 1))) := by obtain ⟨q, rfl⟩ := hq; exact DA6.out
        have DB7 : Hid (DrawAt 35 w7 h k (c + (n - 1))) := by obtain ⟨q, rfl⟩ := hq; exact DB.out
        have B67 : Hid (Later w6 w7) := by obtain ⟨q, rfl⟩ := hq; exact below_drewN _ _ q
        clear hq
        obtain ⟨N, hN⟩ : ∃ N, N = c + (n - 1) := ⟨_, rfl⟩
        rw [← hN] at DA7 DB7
        have HN := hide hN
        clear hN
        refine hK.out _ _ ?_
        clear hK K
        try simp only [Act.put, List.setIfInBounds_toArray, List.set_cons_zero, List.set_cons_succ]
        refine wpAnyT_take (i := 7) (d := some 52) (v := ?va7) rfl rfl (by kernel_rfl) (by kernel_rfl) (by kernel_rfl) (fun _ _ _ h => h) (by rfl) ?ya7 ?_
        case ya7 => (intro w'; go_simp; try (with_reducible rfl))
        simp only [Act.put, List.setIfInBounds_toArray, List.set_cons_zero, List.set_cons_succ]
        refine wpAnyT_of_L _ _ _ _ ?_
        refine wpAnyL_take (i := 8) (d := some 53) (v := ?va8) rfl rfl (by kernel_rfl) (by kernel_rfl) (by kernel_rfl) (fun _ _ _ h => h) (by rfl) ?ya8 ?_
        case ya8 => (intro w' hw'; go_simp; try (with_reducible rfl))
        simp only [Act.put, List.setIfInBounds_toArray, List.set_cons_zero, List.set_cons_succ]
        refine wpAnyL_take (i := 10) (d := some 55) (v := ?va10) rfl rfl (by kernel_rfl) (by kernel_rfl) (by kernel_rfl) (fun _ _ _ h => h) (by rfl) ?ya10 ?_
        case ya10 => (intro w' hw'; go_simp; try (with_reducible rfl))
        simp only [Act.put, List.setIfInBounds_toArray, List.set_cons_zero, List.set_cons_succ]
        refine wpAnyL_take (i := 11) (d := some 56) (v := ?va11) rfl rfl (by kernel_rfl) (by kernel_rfl) (by kernel_rfl) (fun _ _ _ h => h) (by rfl) ?ya11 ?_
        case ya11 => (intro w' hw'; go_simp; try (with_reducible rfl))
        simp only [Act.put, List.setIfInBounds_toArray, List.set_cons_zero, List.set_cons_succ]
        refine wpAnyL_take (i := 12) (d := some 57) (v := ?va12) rfl rfl (by kernel_rfl) (by kernel_rfl) (by kernel_rfl) (fun _ _ _ h => h) (by rfl) ?ya12 ?_
        case ya12 => (intro w' hw'; go_simp; try (with_reducible rfl))
        simp only [Act.put, List.setIfInBounds_toArray, List.set_cons_zero, List.set_cons_succ]
        refine wpAnyL_take (i := 13) (d := some 58) (v := ?va13) rfl rfl (by kernel_rfl) (by kernel_rfl) (by kernel_rfl) (fun _ _ _ h => h) (by rfl) ?ya13 ?_
        case ya13 => (intro w' hw'; have hc := (DB7.out.later hw').cell1; go_simp; try (with_reducible rfl))
        simp only [Act.put, List.setIfInBounds_toArray, List.set_cons_zero, List.set_cons_succ]
        refine wpAnyL_only (i := 9) rfl (by kernel_rfl) (by rfl) fun K hK => ?_
        go_simp
        refine (count_any g k N w7 DA7.out).mono ?_
        rintro e w8 ⟨rfl, rfl⟩
        refine hK.out _ _ (Later.refl _) ?_
        clear hK K
        try simp only [Act.put, List.setIfInBounds_toArray, List.set_cons_zero, List.set_cons_succ]
        refine wpAnyL_take (i := 14) (d := some 59) (v := ?va14) rfl rfl (by kernel_rfl) (by kernel_rfl) (by kernel_rfl) (fun _ _ _ h => h) (by rfl) ?ya14 ?_
        case ya14 => (intro w' hw'; go_simp; try (with_reducible rfl))
        simp only [Act.put, List.setIfInBounds_toArray, List.set_cons_zero, List.set_cons_succ]
        refine wpAnyL_take (i := 15) (d := some 60) (v := ?va15) rfl rfl (by kernel_rfl) (by kernel_rfl) (by kernel_rfl) (fun _ _ _ h => h) (by rfl) ?ya15 ?_
        case ya15 => (intro w' hw'; go_simp; try (with_reducible rfl))
        simp only [Act.put, List.setIfInBounds_toArray, List.set_cons_zero, List.set_cons_succ]
        refine wpAnyL_take (i := 16) (d := some 61) (v := ?va16) rfl rfl (by kernel_rfl) (by kernel_rfl) (by kernel_rfl) (fun _ _ _ h => h) (by rfl) ?ya16 ?_
        case ya16 => (intro w' hw'; go_simp; try (with_reducible rfl))
        simp only [Act.put, List.setIfInBounds_toArray, List.set_cons_zero, List.set_cons_succ]
        refine wpAnyL_only (i := 17) rfl (by kernel_rfl) (by rfl) fun K hK => ?_
        go_simp
        refine (lives_any _).mono ?_
        rintro e w8 ⟨rfl, b⟩
        have B78 : Hid (Later w7 w8) := b
        clear b
        refine hK.out _ _ B78.out ?_
        clear hK K
        try simp only [Act.put, List.setIfInBounds_toArray, List.set_cons_zero, List.set_cons_succ]
        refine wpAnyL_take (i := 18) (d := some 63) (v := ?va18) rfl rfl (by kernel_rfl) (by kernel_rfl) (by kernel_rfl) (fun _ _ _ h => h) (by rfl) ?ya18 ?_
        case ya18 => (intro w' hw'; go_simp; try (with_reducible rfl))
        simp only [Act.put, List.setIfInBounds_toArray, List.set_cons_zero, List.set_cons_succ]
        refine wpAnyL_take (i := 19) (d := some 4) (v := ?va19) rfl rfl (by kernel_rfl) (by kernel_rfl) (by kernel_rfl) (fun _ _ _ h => h) (by rfl) ?ya19 ?_
        case ya19 => (intro w' hw'; go_simp; try (with_reducible rfl))
        simp only [Act.put, List.setIfInBounds_toArray, List.set_cons_zero, List.set_cons_succ]
        refine wpAnyL_done (by kernel_rfl) ?_ _
        go_wp2
        go_ret
        have q1 : w.heap.size ≤ wr.drew.heap.size := HB.out.size
        have q2 := Nat.le_trans q1 GA.out.size
        have q3 := Nat.le_trans q2 GB.out.size
        have q4 := Nat.le_trans q3 B67.out.size
        have q5 : w.heap.size ≤ h := by have := HG.out; have := HGH.out; omega
        exact ⟨rfl, ((((HB.out.drew).trans (below_grown GA.out HG.out q1)).trans (below_grown GB.out q5 q2)).trans (B67.out.mono q3)).trans (B78.out.mono q4)⟩
end Go.Proofs.Ytccneonplpmiaaa
