/- The walk over envelope's Open. -/
import Derived.Test.YtjbnilippcdgeaaDoorSeal
import Derived.Test.YtjbnilippcdgeaaDoorOrder
import Derived.Handy
namespace Go.Proofs.YtjbnilippcdgeaaDoor
open Go.RowKit

/-- Up to the k-th place. -/
theorem cut_to (A : Option Addr) (n c k : Nat) (hc : k ≤ c) : ∃ A' : Option Addr, (¬ c = 0 → A' = A.map (·.add 0)) ∧
    ∀ w, (Instr.slice 22 (.slice A n c) none (some (.int .i64 (k : Int))) none).run Tryd.prog w = .ok (.slice A' k c) w := by
  refine ⟨if c = 0 then A else A.map (·.add 0), fun h => by rw [if_neg h], fun w => ?_⟩
  rw [run_slice_h w _ _ _ _ sliceU8 .i64 _ (by omega) (by omega), elemU8, sizeU8]
  cases A with
  | none => simp [Result.andThen, sliced]
  | some a =>
    by_cases h : c = 0
    · subst h
      simp [Result.andThen, sliced]
    · simp [Result.andThen, sliced, h]
theorem Holds.to {w : World} {B n cap h : Nat} {A A' : Option Addr} {l : List Nat} (H : Holds w B A n l) (hh : h ≤ n) (hc : n ≤ cap) (hA' : ¬ cap = 0 → A' = A.map (·.add 0)) : Holds w B A' h (l.take h) := by
  simpa using H.mid (k := 0) (Nat.zero_le h) hh hc hA'
theorem Holds.later {w w' : World} {A : Option Addr} {n : Nat} {l : List Nat} (h : Holds w w.heap.size A n l) (hl : Later w w') : Holds w' w'.heap.size A n l := (h.below hl).more hl.size

/-- What Open gives of l. -/
def OpenIs (w : World) (l : List Nat) (e : Ending) (w' : World) : Prop :=
  ∃ A n c, e = .returned (.tuple #[.slice A n c, .int .i64 ((opn l).2.1 : Nat), .int .i64 ((opn l).2.2 : Nat)]) ∧ Holds w' w'.heap.size A n (opn l).1 ∧ n ≤ c ∧ Later w w'

theorem bounds_is (A : Option Addr) (n c B f t er : Nat) (l : List Nat) (w : World) (hl : Holds w B A n l) (hn : n ≤ 1099511627000) (hc : n ≤ c) (h : bnd l = (f, t, er)) :
    Calls Tryd.prog 18 #[.slice A n c] w fun e w' => e = .returned (.tuple #[.int .i64 f, .int .i64 t, .int .i64 er]) ∧ w = w' :=
  (bounds_any A n c B l w hl hn hc).mono fun e w' ⟨h1, h2⟩ => by rw [h] at h1; exact ⟨h1, h2⟩
theorem equal_is (A A2 : Option Addr) (n c m c2 B B2 : Nat) (l l2 : List Nat) (d : Bool) (w : World) (hl : Holds w B A n l) (h2 : Holds w B2 A2 m l2) (hd : d = decide (l = l2)) :
    Calls Tryd.prog 19 #[.slice A n c, .slice A2 m c2] w fun e w' => e = .returned (.bool d) ∧ w = w' := by
  rw [hd]
  exact equal_any A A2 n c m c2 B B2 l l2 w hl h2
theorem fours_any (S : Nat) (w : World) (hS : S < 4294967296) : Calls Tryd.prog 14 #[.slice none 0 0, .int .u32 S] w (NewBytes w (four S)) :=
  (putsum_any w.heap.size 0 S _ [] w hS (by omega) (Nat.le_refl _) (World.ownsRow_nil _ _ _ _)).mono fun e w' ⟨v, he, ho, hg⟩ => by
    subst he
    refine newBytes_of (n := 4) (by simpa using ho) (four_small S) ?_
    exact hg.below (base := w.heap.size) (World.ownsRow_nil w w.heap.size 5 1) (Nat.le_refl _)

theorem opn_1 {l : List Nat} {f t e : Nat} (h : bnd l = (f, t, e)) (he : e ≠ 0) : opn l = ([], 0, e) := by
  unfold opn; rw [h, if_pos he]
theorem opn_2 {l : List Nat} {f t e : Nat} (h : bnd l = (f, t, e)) (he : ¬ e ≠ 0) (hs : ¬ (l.drop t).take 4 = four (sum (l.take t))) : opn l = ([], 0, 6) := by
  unfold opn; rw [h, if_neg he, if_pos hs]
theorem opn_3 {l : List Nat} {f t e : Nat} (h : bnd l = (f, t, e)) (he : ¬ e ≠ 0) (hs : (l.drop t).take 4 = four (sum (l.take t))) : opn l = ((l.drop f).take (t - f), t + 4, 0) := by
  unfold opn; rw [h, if_neg he, if_neg (fun hh => hh hs)]

set_option maxHeartbeats 4000000 in
set_option maxRecDepth 100000 in
theorem open_any (A : Option Addr) (n c : Nat) (l : List Nat) (w : World) (hl : Holds w w.heap.size A n l) (hn : n ≤ 1099511627000) (hc : n ≤ c) (hT : Tab w) :
    Calls Tryd.prog 12 #[.slice A n c] w (OpenIs w l) := by
  obtain ⟨f, t, er, hb⟩ : ∃ f t er, bnd l = (f, t, er) := ⟨_, _, _, rfl⟩
  have Hl := hide hl
  have HT := hide hT
  have hlen := hl.1
  have hbs := hide (bounds_is A n c _ f t er l w hl hn hc hb)
  have hfit := bnd_fits l
  rw [hb] at hfit
  simp only at hfit
  have Hb := hide hb
  clear hl hT hb
  by_cases he : er ≠ 0
  · have ho := opn_1 Hb.out he
    have he2 : ((er : Int) == 0) = false := by simp; omega
    have Ho := hide ho
    clear ho
    go_enter Tryd.func12, Tryd.ntmps12
    go_wp2_with (fail)
    refine hbs.out.mono ?_
    rintro e w1 ⟨rfl, rfl⟩
    go_wp2
    go_ret3
    refine ⟨none, 0, 0, ?_, ?_, Nat.le_refl _, Later.refl _⟩
    · rw [Ho.out]
      rfl
    · rw [Ho.out]
      exact Holds.nil_ _ _
  · obtain ⟨hf1, hft, htn⟩ := hfit (by omega)
    obtain ⟨E, hE⟩ : ∃ E, E = t + 4 := ⟨_, rfl⟩
    have hEi : (t : Int) + 4 = (E : Int) := by omega
    obtain ⟨A', hA', hcut⟩ := cut_mid A n c t E (by omega) (by omega)
    obtain ⟨A2, hA2, hcut2⟩ := cut_to A n c t (by omega)
    have hEn : E ≤ n := by omega
    have h1 := Hl.out.mid (k := t) (h := E) (cap := c) (by omega) (by omega) hc hA'
    have hE4 : E - t = 4 := by omega
    rw [hE4] at h1 hcut
    have h2 := Hl.out.to (h := t) (by omega) hc hA2
    have H1 := hide h1
    have H2 := hide h2
    have hq32 : sum (l.take t) < 4294967296 := sum_lt h2.2.1
    obtain ⟨q, hq⟩ : ∃ q, q = sum (l.take t) := ⟨_, rfl⟩
    rw [← hq] at hq32
    obtain ⟨d, hd⟩ : ∃ d, d = decide ((l.drop t).take 4 = four q) := ⟨_, rfl⟩
    obtain ⟨A3, hA3, hcut3⟩ := cut_mid A n c f t (by omega) (by omega)
    have h3 := Hl.out.mid (k := f) (h := t) (cap := c) (by omega) (by omega) hc hA3
    have H3 := hide h3
    have her : er = 0 := by omega
    subst her
    have Hq := hide hq
    have Hd := hide hd
    have HA' := hide hA'
    have HA3 := hide hA3
    have HA2 := hide hA2
    have HE := hide hE
    have L0 := hide (Later.drew w)
    have Hfit := hide hfit
    have He := hide he
    clear h1 h2 h3 hq hd hA' hA3 hA2 hE hfit hlen he
    go_enter Tryd.func12, Tryd.ntmps12
    go_wp2_with (fail)
    refine hbs.out.mono ?_
    rintro e w1 ⟨rfl, rfl⟩
    go_wp2
    refine wp_region_L (by kernel_rfl) ?_
    refine wpAnyL_take (i := 0) (d := some 20) (v := ?va0) rfl rfl (by kernel_rfl) (by kernel_rfl) (by kernel_rfl) (fun _ _ _ h => h) (by rfl) ?ya0 ?_
    case ya0 => (intro w' hw'; go_simp; try (with_reducible rfl))
    simp only [Act.put, List.setIfInBounds_toArray, List.set_cons_zero, List.set_cons_succ]
    refine wpAnyL_take (i := 1) (d := some 21) (v := ?va1) rfl rfl (by kernel_rfl) (by kernel_rfl) (by kernel_rfl) (fun _ _ _ h => h) (by rfl) ?ya1 ?_
    case ya1 => (intro w' hw'; go_simp; try (with_reducible rfl))
    simp only [Act.put, List.setIfInBounds_toArray, List.set_cons_zero, List.set_cons_succ]
    refine wpAnyL_take (i := 2) (d := some 22) (v := ?va2) rfl rfl (by kernel_rfl) (by kernel_rfl) (by kernel_rfl) (fun _ _ _ h => h) (by rfl) ?ya2 ?_
    case ya2 => (intro w' hw'; go_simp; try (with_reducible rfl))
    simp only [Act.put, List.setIfInBounds_toArray, List.set_cons_zero, List.set_cons_succ]
    refine wpAnyL_take (i := 3) (d := some 23) (v := ?va3) rfl rfl (by kernel_rfl) (by kernel_rfl) (by kernel_rfl) (fun _ _ _ h => h) (by rfl) ?ya3 ?_
    case ya3 => (intro w' hw'; go_simp; try (with_reducible rfl))
    simp only [Act.put, List.setIfInBounds_toArray, List.set_cons_zero, List.set_cons_succ]
    refine wpAnyL_take (i := 4) (d := some 24) (v := ?va4) rfl rfl (by kernel_rfl) (by kernel_rfl) (by kernel_rfl) (fun _ _ _ h => h) (by rfl) ?ya4 ?_
    case ya4 => (intro w' hw'; go_simp; try (with_reducible rfl))
    simp only [Act.put, List.setIfInBounds_toArray, List.set_cons_zero, List.set_cons_succ]
    refine wpAnyL_take (i := 5) (d := some 25) (v := ?va5) rfl rfl (by kernel_rfl) (by kernel_rfl) (by kernel_rfl) (fun _ _ _ h => h) (by rfl) ?ya5 ?_
    case ya5 => (intro w' hw'; go_simp; try (with_reducible rfl))
    simp only [Act.put, List.setIfInBounds_toArray, List.set_cons_zero, List.set_cons_succ]
    refine wpAnyL_take (i := 6) (d := some 26) (v := ?va6) rfl rfl (by kernel_rfl) (by kernel_rfl) (by kernel_rfl) (fun _ _ _ h => h) (by rfl) ?ya6 ?_
    case ya6 => (intro w' hw'; go_simp; try (with_reducible rfl))
    simp only [Act.put, List.setIfInBounds_toArray, List.set_cons_zero, List.set_cons_succ]
    refine wpAnyL_only (i := 7) rfl (by kernel_rfl) (by rfl) fun K hK => ?_
    go_simp
    refine (sum_any A2 t c _ _ _ (H2.out.later L0.out) (by omega) (HT.out.later L0.out)).mono ?_
    rintro e w2 ⟨rfl, rfl⟩
    rw [← Hq.out]
    refine hK.out _ _ (Later.refl _) ?_
    clear hK K
    try simp only [Act.put, List.setIfInBounds_toArray, List.set_cons_zero, List.set_cons_succ]
    refine wpAnyL_only (i := 8) rfl (by kernel_rfl) (by rfl) fun K hK => ?_
    go_simp
    refine (fours_any q _ hq32).mono ?_
    rintro e w3 ⟨A4, n4, c4, rfl, _, h4, _, b4⟩
    have H4 := hide h4
    have L3 := hide (L0.out.trans b4)
    refine hK.out _ _ b4 ?_
    clear h4 b4
    clear hK K
    try simp only [Act.put, List.setIfInBounds_toArray, List.set_cons_zero, List.set_cons_succ]
    refine wpAnyL_only (i := 9) rfl (by kernel_rfl) (by rfl) fun K hK => ?_
    go_simp
    refine (equal_is A' A4 4 (c - t) n4 c4 _ _ _ _ d w3 (H1.out.later L3.out) H4.out Hd.out).mono ?_
    rintro e w4 ⟨rfl, rfl⟩
    refine hK.out _ _ (Later.refl _) ?_
    clear hK K
    try simp only [Act.put, List.setIfInBounds_toArray, List.set_cons_zero, List.set_cons_succ]
    refine wpAnyL_take (i := 10) (d := some 30) (v := ?va10) rfl rfl (by kernel_rfl) (by kernel_rfl) (by kernel_rfl) (fun _ _ _ h => h) (by rfl) ?ya10 ?_
    case ya10 => (intro w' hw'; go_simp; try (with_reducible rfl))
    simp only [Act.put, List.setIfInBounds_toArray, List.set_cons_zero, List.set_cons_succ]
    refine wpAnyL_done (by kernel_rfl) ?_ _
    cases d with
    | false =>
      have ho := opn_2 Hb.out (by simp) (by rw [← Hq.out]; exact of_decide_eq_false Hd.out.symm)
      have Ho := hide ho
      clear ho
      go_wp2
      go_ret3
      refine ⟨none, 0, 0, ?_, ?_, Nat.le_refl _, L3.out⟩
      · rw [Ho.out]
        rfl
      · rw [Ho.out]
        exact Holds.nil_ _ _
    | true =>
      have ho := opn_3 Hb.out (by simp) (by rw [← Hq.out]; exact of_decide_eq_true Hd.out.symm)
      have Ho := hide ho
      clear ho
      go_wp2_with (fail)
      refine (clone_any A3 (t - f) (c - f) _ _ _ (H3.out.later L3.out) (Nat.le_refl _) (by omega)).mono ?_
      rintro e w5 ⟨A5, n5, c5, rfl, _, h5, hc5, b5⟩
      have H5 := hide h5
      have L5 := hide (L3.out.trans b5)
      clear h5 b5
      go_wp2
      go_ret3
      refine ⟨A5, n5, c5, ?_, ?_, hc5, L5.out⟩
      · rw [Ho.out]
        simp only
        rw [← HE.out]
        rfl
      · rw [Ho.out]
        exact H5.out
end Go.Proofs.YtjbnilippcdgeaaDoor
