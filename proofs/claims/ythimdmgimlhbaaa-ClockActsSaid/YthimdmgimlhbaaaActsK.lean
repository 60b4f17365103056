/- The code's clock and the document's side by side: what is done to both. -/
import Derived.Test.YthimdmgimlhbaaaRefF
import Derived.Test.YthimdmgimlhbaaaAct
import Derived.Test.YthimdmgimlhbaaaLives5
namespace Go.Proofs.Ythimdmgimlhbaaa
open Go.RowKit Go.Maps

theorem Clk.ends {B c N : Nat} {S : Nat → Prop} {w : World} {now : Int} {L : List (Int × Int)} (h : Clk B S w c now L N) : ∀ p ∈ L, now ≤ p.1 ∧ p.1 ≤ now + 100000 := let ⟨_, _, _, _, _, _, hh⟩ := h; hh.ends
theorem pre_kept (F : Nat → Prop) : Pre (fun a b => Kept F a b) := ⟨fun w => Kept.refl F w, fun h k => h.trans k⟩

/-- Both are the same in what they hold, and apart in memory; the block bx is none of theirs. -/
def PairOK (B : Nat) (w : World) (c r : Nat) (now : Int) (L : List (Int × Int)) (N bx : Nat) : Prop :=
  ∃ S T v, Clk B S w c now L N ∧ RefAt T w r now L v ∧ (∀ i, S i → ¬ T i) ∧ (∀ i, T i → B ≤ i) ∧ ¬ S bx ∧ bx ≠ r ∧ bx < w.heap.size ∧ (∀ p ∈ L, now < p.1)
section
variable {B c r N bx : Nat} {w w' : World} {now : Int} {L : List (Int × Int)}
theorem PairOK.later (h : PairOK B w c r now L N bx) (hb : Below w.heap.size w w') : PairOK B w' c r now L N bx := by
  obtain ⟨S, T, v, h1, h2, h3, h4, h5, h6, h7, h8⟩ := h
  exact ⟨S, T, v, h1.later hb, h2.later hb, h3, h4, h5, h6, Nat.lt_of_lt_of_le h7 hb.size, h8⟩
theorem PairOK.more (h : PairOK B w c r now L N bx) {M : Nat} (hm : N ≤ M) : PairOK B w c r now L M bx := by
  obtain ⟨S, T, v, h1, h⟩ := h
  exact ⟨S, T, v, h1.more hm, h⟩
/-- Without a word of the block bx. -/
def PairW (B : Nat) (w : World) (c r : Nat) (now : Int) (L : List (Int × Int)) (N : Nat) : Prop :=
  ∃ S T v, Clk B S w c now L N ∧ RefAt T w r now L v ∧ (∀ i, S i → ¬ T i) ∧ (∀ i, T i → B ≤ i) ∧ (∀ p ∈ L, now < p.1)
theorem PairOK.drop (h : PairOK B w c r now L N bx) : PairW B w c r now L N := let ⟨S, T, v, h1, h2, h3, h4, _, _, _, h8⟩ := h; ⟨S, T, v, h1, h2, h3, h4, h8⟩
/-- A new block may stand in the other's place. -/
theorem PairW.box (h : PairW B w c r now L N) (hb : Below w.heap.size w w') (hx : w.heap.size < w'.heap.size) : PairOK B w' c r now L N w.heap.size := by
  obtain ⟨S, T, v, h1, h2, h3, h4, h8⟩ := h
  refine ⟨S, T, v, h1.later hb, h2.later hb, h3, h4, fun hs => ?_, ?_, hx, h8⟩
  · have := (h1.1 _ hs).2
    omega
  · have := h2.old r h2.inn
    omega
theorem PairW.low (h : PairW B w c r now L N) : B ≤ w.heap.size := let ⟨_, _, _, h1, _⟩ := h; h1.low
theorem PairOK.low (h : PairOK B w c r now L N bx) : B ≤ w.heap.size := let ⟨_, _, _, h1, _⟩ := h; h1.low
theorem PairOK.len (h : PairOK B w c r now L N bx) : L.length ≤ 100 := let ⟨_, _, _, h1, _⟩ := h; h1.len
theorem PairOK.t64 (h : PairOK B w c r now L N bx) : ∀ p ∈ L, T64 p := let ⟨_, _, _, h1, _⟩ := h; h1.t64
theorem PairOK.cell (h : PairOK B w c r now L N bx) : w.cell? ⟨r, 0, none⟩ = some (.int .i64 now) := let ⟨_, _, _, _, h2, _⟩ := h; h2.cells.1
theorem pair_now (h : PairOK B w c r now L N bx) : Calls Try.prog 18 #[.pointer (some ⟨c, 0, none⟩)] w fun e w' => e = .returned (.int .i64 now) ∧ w = w' := let ⟨_, _, _, h1, _⟩ := h; clk_now h1
theorem pair_left (name : Int) (h : PairOK B w c r now L N bx) (h1 : -9223372036854775808 ≤ name) (h2 : name < 9223372036854775808) :
    Calls Try.prog 19 #[.pointer (some ⟨c, 0, none⟩), .int .i64 name] w fun e w' => e = .returned (.int .i64 (leftOf L now name)) ∧ Below w.heap.size w w' := let ⟨_, _, _, h3, _⟩ := h; clk_left name h3 h1 h2
theorem pair_refleft (name : Int) (h : PairOK B w c r now L N bx) :
    Calls Try.prog 20 #[.pointer (some ⟨r, 0, none⟩), .int .i64 name] w fun e w' => e = .returned (.int .i64 (leftOf L now name)) ∧ Below w.heap.size w w' := by
  obtain ⟨S, T, v, h1, h2, _⟩ := h
  exact refleft name w h2 h1.time h1.ends h1.len
theorem pair_names (h : PairOK B w c r now L N bx) : Calls Try.prog 21 #[.pointer (some ⟨c, 0, none⟩)] w (NewInts w (namesT L)) := let ⟨_, _, _, h1, _⟩ := h; clk_names h1
theorem pair_refnames (h : PairOK B w c r now L N bx) : Calls Try.prog 22 #[.pointer (some ⟨r, 0, none⟩)] w (NewInts w (namesT L)) := let ⟨_, _, _, h1, h2, _⟩ := h; refnames w h2 h1.len h1.t64

/-- Both are asked, one behind the other, and answer the same. -/
def Both (f1 f2 : FuncId) (more : List Value) (B c r : Nat) (w : World) (x : Value) (now' : Int) (L' : List (Int × Int)) (N' bx : Nat) : Prop :=
  Calls Try.prog f1 (.pointer (some ⟨c, 0, none⟩) :: more).toArray w fun e w1 => e = .returned x ∧ Kept (fun i => i = bx) w w1 ∧ Below B w w1 ∧
    Calls Try.prog f2 (.pointer (some ⟨r, 0, none⟩) :: more).toArray w1 fun e w2 => e = .returned x ∧ Kept (fun i => i = bx) w1 w2 ∧ Below B w w2 ∧ PairOK B w2 c r now' L' N' bx
theorem pair_end {S : Nat → Prop} {w1 w2 : World} {v0 : Value} {now' : Int} {L' : List (Int × Int)} {N' : Nat} {T : Nat → Prop} (h1 : Clk B S w1 c now' L' N') (hsz : bx < w1.heap.size) (hsb : ¬ S bx) (hrb : bx ≠ r) (hSr : ¬ S r) (h2 : RefAt T w1 r now L v0) (hBr : B ≤ r)
    (hb : Below B w w1) (hn : RefNew w1 w2 r now' L') (hlate : ∀ p ∈ L', now' < p.1) : Kept (fun i => i = bx) w1 w2 ∧ Below B w w2 ∧ PairOK B w2 c r now' L' N' bx := by
  obtain ⟨T', v', g1, g2, g3⟩ := hn
  have hk : Kept S w1 w2 := g3.kept fun i hi e => hSr (e ▸ hi)
  have hlow := h1.low
  refine ⟨g3.kept fun i hi e => hrb (hi ▸ e), hb.trans (g3.below (fun i hi => by subst hi; exact hBr) hlow), S, T', v', h1.kept hk, g1, fun i hi ht => ?_, fun i hi => ?_, hsb, hrb, Nat.lt_of_lt_of_le hsz g3.size, hlate⟩
  · rcases g2 i ht with rfl | hi'
    · exact hSr hi
    · have := (h1.1 i hi).2
      omega
  · rcases g2 i hi with rfl | hi'
    · exact hBr
    · omega
theorem pair_set (name after : Int) (h : PairOK B w c r now L N bx) (hN : N ≤ 1000000) (h1 : -9223372036854775808 ≤ name) (h2 : name < 9223372036854775808) :
    ∃ x L', Hid (Both 14 15 [.int .i64 name, .int .i64 after] B c r w (.int .i64 x) now L' (N + 1) bx) := by
  obtain ⟨S, T, v, k1, k2, k3, k4, k5, k6, k7, k8⟩ := h
  have hr : ¬ S r := fun hs => k3 r hs k2.inn
  have hBr : B ≤ r := k4 r k2.inn
  have hrw := k2.old r k2.inn
  by_cases ha : after < 1 ∨ 100000 < after
  · exact ⟨15, L, (clk_range name after k1 ha).mono fun e w1 ⟨he, e1⟩ => by
      subst e1
      exact ⟨he, Kept.refl _ _, Below.refl _ _, (refset_range name after w ha).mono fun e w2 ⟨he, e1⟩ => by
        subst e1
        exact ⟨he, Kept.refl _ _, Below.refl _ _, S, T, v, k1.more (by omega), k2, k3, k4, k5, k6, k7, k8⟩⟩⟩
  · have ha1 : 1 ≤ after := by omega
    have ha2 : after ≤ 100000 := by omega
    have hends : ∀ p ∈ L, now < p.1 ∧ p.1 ≤ now + 100000 := fun p hp => ⟨k8 p hp, (k1.ends p hp).2⟩
    by_cases hfull : findT L name = none ∧ L.length = 100
    · refine ⟨7, L, (clk_full name after k1 h1 h2 ha1 ha2 hfull.1 hfull.2).mono fun e w1 ⟨he, hb⟩ => ⟨he, Kept.of_below hb _, hb.mono k1.low, ?_⟩⟩
      refine (refset_full name after w1 (k2.later hb) k1.time hends ha1 ha2 hfull.1 hfull.2).mono fun e w2 ⟨he, hb2⟩ => ⟨he, Kept.of_below hb2 _, (hb.mono k1.low).trans (hb2.mono (k1.later hb).low), ?_⟩
      exact PairOK.later ⟨S, T, v, (k1.later hb).more (by omega), k2.later hb, k3, k4, k5, k6, Nat.lt_of_lt_of_le k7 hb.size, k8⟩ hb2
    · have hl : findT L name ≠ none ∨ L.length < 100 := by
        by_cases hf : findT L name = none
        · refine .inr ?_
          have := k1.len
          have : L.length ≠ 100 := fun e => hfull ⟨hf, e⟩
          omega
        · exact .inl hf
      refine ⟨0, insT (now + after, name) (delT L name), (clk_set name after k1 h1 h2 ha1 ha2 hl hN).mono fun e w1 ⟨S', he, hc, ht, hs⟩ => ⟨he, ht.kept fun i hi e => k5 (hi ▸ e), k1.below ht, ?_⟩⟩
      have hkT : Kept T w w1 := ht.kept fun i hi e => k3 i e hi
      have hr' : ¬ S' r := fun h => (hs r h).elim hr fun h => by omega
      have hbx' : ¬ S' bx := fun h => (hs bx h).elim k5 fun h => by omega
      exact (refset_ok name after w1 (k2.kept hkT) k1.time hends ha1 ha2 k1.rise hl k1.len).mono fun e w2 ⟨he, hn⟩ => ⟨he, pair_end hc (Nat.lt_of_lt_of_le k7 ht.size) hbx' k6 hr' (k2.kept hkT) hBr (k1.below ht) hn fun p hp => by
        rcases insT_mem.1 hp with hp | rfl
        · exact k8 p (delT_mem.1 hp).1
        · simp only
          omega⟩
theorem pair_stop (name : Int) (h : PairOK B w c r now L N bx) (h1 : -9223372036854775808 ≤ name) (h2 : name < 9223372036854775808) :
    ∃ x L', Hid (Both 16 17 [.int .i64 name] B c r w (.bool x) now L' N bx) := by
  obtain ⟨S, T, v, k1, k2, k3, k4, k5, k6, k7, k8⟩ := h
  have hr : ¬ S r := fun hs => k3 r hs k2.inn
  refine ⟨(findT L name).isSome, delT L name, (clk_stop name k1 h1 h2).mono fun e w1 ⟨he, hc, ht⟩ => ⟨he, ht.kept fun i hi e => k5 (hi ▸ e), k1.below ht, ?_⟩⟩
  have hkT : Kept T w w1 := ht.kept fun i hi e => k3 i e hi
  exact (refstop name w1 (k2.kept hkT) k1.len k1.rise).mono fun e w2 ⟨he, hn⟩ => ⟨he, pair_end hc (Nat.lt_of_lt_of_le k7 ht.size) k5 k6 hr (k2.kept hkT) (k4 r k2.inn) (k1.below ht) hn fun p hp => k8 p (delT_mem.1 hp).1⟩
/-- Both tick. -/
def BothTick (B c r : Nat) (w : World) (ns : List Int) (now' : Int) (L' : List (Int × Int)) (N bx : Nat) : Prop :=
  Calls Try.prog 12 #[.pointer (some ⟨c, 0, none⟩)] w fun e w1 => ∃ A n cp, e = .returned (.slice A n cp) ∧ n ≤ 100 ∧ Below B w w1 ∧
    Calls Try.prog 13 #[.pointer (some ⟨r, 0, none⟩)] w1 fun e w2 => ∃ A2 n2 cp2, e = .returned (.slice A2 n2 cp2) ∧ n2 ≤ 100 ∧ IHolds w2 w2.heap.size A n ns ∧ IHolds w2 w2.heap.size A2 n2 ns ∧ Kept (fun i => i = bx) w w2 ∧ Below B w w2 ∧ PairOK B w2 c r now' L' N bx
theorem pair_tick (h : PairOK B w c r now L N bx) (hnow : now < 1000000) : ∃ ns L', Hid (BothTick B c r w ns (now + 1) L' N bx) := by
  obtain ⟨S, T, v, k1, k2, k3, k4, k5, k6, k7, k8⟩ := h
  have hr : ¬ S r := fun hs => k3 r hs k2.inn
  have hdl : (namesT (dueT L (now + 1))).length ≤ 100 := by
    rw [namesT_len]
    exact Nat.le_trans (List.length_filter_le _ _) k1.len
  have hfit : Fit (namesT (dueT L (now + 1))) := names_fit fun p hp => k1.t64 p (List.mem_filter.1 hp).1
  refine ⟨namesT (dueT L (now + 1)), restT L (now + 1), (clk_tick k1 k8 hnow).mono fun e w1 ⟨A, n, cp, he, ho, hi, hn, hc, ht⟩ => ⟨A, n, cp, he, by have := hi.1; omega, k1.below ht, ?_⟩⟩
  have hkT : Kept T w w1 := ht.kept fun i hi e => k3 i e hi
  refine (reftick w1 (k2.kept hkT) k1.len k1.t64 ⟨k1.time.1, hnow⟩).mono fun e w2 ⟨A2, n2, cp2, he, hi2, hnew⟩ => ?_
  obtain ⟨g1, g2, g3⟩ := pair_end hc (Nat.lt_of_lt_of_le k7 ht.size) k5 k6 hr (k2.kept hkT) (k4 r k2.inn) (k1.below ht) hnew rest_later
  refine ⟨A2, n2, cp2, he, by have := hi2.1; omega, ?_, hi2, (ht.kept (F := fun i => i = bx) fun i hi e => k5 (hi ▸ e)).trans g1, g2, g3⟩
  obtain ⟨T', v', _, _, hT'⟩ := hnew
  have hrw := k2.old r k2.inn
  have ho2 := own_apart ho hT' fun q e hq => by
    have := (ho.lt q e).1
    omega
  obtain ⟨A', c', hv, _, _, hh⟩ := IHolds.of_own ho2 hfit
  injection hv with e1 _ e3
  subst e1
  exact hh
end
end Go.Proofs.Ythimdmgimlhbaaa
