/- Names and Tick of package clock. -/
import Derived.Test.YthimdmgimlhbaaaSet
import Derived.Test.YthimdmgimlhbaaaShelf
import Derived.Deep.QuietTactic
import Derived.BigQuiet
namespace Go.Proofs.Ythimdmgimlhbaaa
open Go.RowKit Go.Maps Go.Sort Go.Shelf

/-- The names of timers. -/
def namesT (L : List (Int × Int)) : List Int := L.map (·.2)
theorem namesT_len (L : List (Int × Int)) : (namesT L).length = L.length := by simp [namesT]
theorem keys_timers (L : List (Int × Int)) : intKeys (mapD (L.map tpair)) = namesT L := by
  simp [mapD, intKeys, namesT, tpair, Function.comp_def]
  intro a b _
  rfl
theorem sort_perm {l m : List Int} (hp : l.Perm m) (hm : m.Pairwise (· < ·)) : l.mergeSort (fun x y => decide (x ≤ y)) = m := by
  have tr : ∀ a b c : Int, decide (a ≤ b) = true → decide (b ≤ c) = true → decide (a ≤ c) = true := fun a b c h1 h2 => by simp only [decide_eq_true_eq] at *; omega
  have to : ∀ a b : Int, (decide (a ≤ b) || decide (b ≤ a)) = true := fun a b => by simp only [Bool.or_eq_true, decide_eq_true_eq]; omega
  refine List.Perm.eq_of_pairwise (le := fun a b => decide (a ≤ b) = true) (fun a b _ _ h1 h2 => ?_) (List.pairwise_mergeSort tr to l) (hm.imp fun {a b} h => by simp only [decide_eq_true_eq]; omega) ((List.mergeSort_perm l _).trans hp)
  simp only [decide_eq_true_eq] at h1 h2
  omega
theorem names_fit {L : List (Int × Int)} (h : ∀ p ∈ L, T64 p) : Fit (namesT L) := by
  intro x hx
  obtain ⟨p, hp, rfl⟩ := List.mem_map.1 hx
  exact (h p hp).2
theorem names_rise {L : List (Int × Int)} (h : L.Pairwise (fun p q => p.2 < q.2)) : (namesT L).Pairwise (· < ·) := List.pairwise_map.2 h

/-- The library's Sort at this program. -/
theorem Try.sorts (m : Nat) : AnyZI.SortsIn Try.prog Try.sortedA_ren Fence.wide m :=
  ⟨fun blk off cap ss W hH hblk hsz => callsIn_wide.2 (AnyM.slices_Sort_int Try.sortA blk off cap ss W hH hblk hsz),
   fun p cap W => callsIn_wide.2 (AnyM.slices_Sort_int_none Try.sortA p cap W)⟩
theorem keys_any (mb : Option Nat) (W : World) : Calls Try.prog 27 #[.map mb] W fun e w' => e = .returned (.func (.func 34) #[] #[.pointer (some ⟨W.heap.size, 0, none⟩)]) ∧ w' = W.alloc (.cells #[.map mb] 54) :=
  callsIn_wide.1 (AnyZI.keys_in Try.keysA Fence.wide 5 trivial rfl mb W)
theorem sorted_any (b nn : Nat) (L : List (Int × Int)) (w : World) (hown : w.ownsMap Try.prog 3 heldR b nn (mapD (L.map tpair))) (hr : (namesT L).Pairwise (· < ·)) (hf : Fit (namesT L)) (hlen : L.length ≤ 1000000) :
    Calls Try.prog 26 #[.func (.func 34) #[] #[.pointer (some ⟨w.heap.size, 0, none⟩)]] (w.alloc (.cells #[.map (some b)] 54)) (NewInts w (namesT L)) := by
  have hbl := hown.lt
  have hsz : Maps.size (mapD (L.map tpair)) = L.length := by rw [size_mapD, List.length_map]
  have hseq : SeqGives Fence.wide 2 Try.prog 34 #[.pointer (some ⟨w.heap.size, 0, none⟩)] encZ (fun ss => ss.Perm (intKeys (mapD (L.map tpair)))) (Maps.size (mapD (L.map tpair))) (w.alloc (.cells #[.map (some b)] 54)) :=
    AnyZI.keys_gives (ρ := Try.keysA_ren) { Try.keysA with } Fence.wide _ trivial rfl (by omega) w.heap.size b nn (mapD (L.map tpair)) _ (by simp) (by simp) (by
      obtain ⟨es, clock, hb, Ft, hs, hD⟩ := hown
      exact ⟨es, clock, (Below.heap_alloc _ _ b hbl).trans hb, Ft, hs, hD⟩)
  have cS := AnyZI.sorted_in Try.sortedA Fence.wide 5 trivial trivial trivial trivial rfl (by omega) (Try.sorts _) (enters_of Try.func33 (by kernel_rfl) rfl) 34 #[.pointer (some ⟨w.heap.size, 0, none⟩)] trivial (enters_of Try.func34 (by kernel_rfl) rfl) _ _ (by rw [hsz]; unfold maxLen; omega) (by rw [hsz]; omega) _ hseq
  change CallsIn _ _ Try.prog 26 _ _ _ at cS
  refine (callsIn_wide.1 cS).mono ?_
  rintro e w' ⟨v, ss, rfl, hS, hrow, hnil, hb⟩
  rw [keys_timers] at hS
  rw [sort_perm hS hr] at hrow
  have hl : ss.length = (namesT L).length := hS.length_eq
  rw [hl] at hrow
  have hrow' : w'.ownsRow w.heap.size 3 1 v (namesT L).length (ivs (namesT L)) := ownsRow_base_a hrow (by simp)
  obtain ⟨A, c, rfl, h1, _, h2⟩ := IHolds.of_own hrow' hf
  exact ⟨A, _, c, rfl, hrow', h2, h1, ((Below.refl _ w).alloc (Nat.le_refl _) _).trans (hb.mono (by simp))⟩

theorem newInts_nil {w w' : World} (hb : Below w.heap.size w w') : NewInts w [] (.returned (.slice none 0 0)) w' :=
  ⟨none, 0, 0, rfl, World.ownsRow_nil _ _ _ _, IHolds.nil_ _ _, Nat.le_refl _, hb⟩

theorem names_no (p : Value) (w : World) (h : NoClock w p) : Calls Try.prog 21 #[p] w fun e w' => e = .returned (.slice none 0 0) ∧ w = w' := by
  have C := hide (made_no p w h)
  have hp : ∃ a, p = .pointer a := by rcases h with rfl | ⟨g, rfl, _⟩ <;> exact ⟨_, rfl⟩
  obtain ⟨a, rfl⟩ := hp
  clear h
  go_enter Try.func21, Try.ntmps21
  go_wp2_with (fail)
  refine C.out.mono ?_
  rintro e w1 ⟨rfl, rfl⟩
  go_wp2
  go_ret
  exact ⟨rfl, rfl⟩

section
variable {S : Nat → Prop} {c k b base cnt : Nat} {now : Int} {L : List (Int × Int)}
set_option maxHeartbeats 1000000 in
theorem names_yes (w : World) (h : ClockAt S w c k b base cnt now L) : Calls Try.prog 21 #[.pointer (some ⟨c, 0, none⟩)] w (NewInts w (namesT L)) := by
  have C := hide (made_yes w h)
  have CK := hide (fun W => keys_any (some b) W)
  have CS := hide (sorted_any b cnt L w h.map (names_rise h.rise) (names_fit h.t64) (by have := h.len; omega))
  obtain ⟨c0, _, k1, _⟩ := h.cells
  clear h
  go_enter Try.func21, Try.ntmps21
  go_wp2_with (fail)
  refine C.out.mono ?_
  rintro e w1 ⟨rfl, rfl⟩
  go_wp2_with (fail)
  refine (CK.out _).mono ?_
  rintro e w1 ⟨rfl, rfl⟩
  go_wp2_with (fail)
  refine CS.out.mono ?_
  rintro e w2 ⟨A, n, c, rfl, h1, h2, h3, h4⟩
  have H : Hid (NewInts w (namesT L) (.returned (.slice A n c)) w2) := ⟨A, n, c, rfl, h1, h2, h3, h4⟩
  clear h1 h2 h3 h4
  go_wp2
  go_ret
  exact H.out
end

theorem tick_no (p : Value) (w : World) (h : NoClock w p) : Calls Try.prog 12 #[p] w fun e w' => e = .returned (.slice none 0 0) ∧ w = w' := by
  have C := hide (made_no p w h)
  have hp : ∃ a, p = .pointer a := by rcases h with rfl | ⟨g, rfl, _⟩ <;> exact ⟨_, rfl⟩
  obtain ⟨a, rfl⟩ := hp
  clear h
  go_enter Try.func12, Try.ntmps12
  go_wp2_with (fail)
  refine C.out.mono ?_
  rintro e w1 ⟨rfl, rfl⟩
  go_wp2
  go_ret
  exact ⟨rfl, rfl⟩

/-- Those whose time is over at that tick, and those whose is not. -/
def dueT (L : List (Int × Int)) (at_ : Int) : List (Int × Int) := L.filter (fun p => decide (p.1 ≤ at_))
def restT (L : List (Int × Int)) (at_ : Int) : List (Int × Int) := L.filter (fun p => !decide (p.1 ≤ at_))
/-- Of those that are due the first one by the heap is the first one by names. -/
theorem due_step {at_ : Int} {p : Int × Int} : ∀ {L : List (Int × Int)}, L.Pairwise (fun p q => p.2 < q.2) → (∀ q ∈ L, T64 q) → (∀ q ∈ L, at_ ≤ q.1) → p ∈ L → p.1 ≤ at_ → (∀ q ∈ L, tkey p ≤ tkey q) →
    dueT L at_ = p :: dueT (delT L p.2) at_ ∧ restT (delT L p.2) at_ = restT L at_
  | [], _, _, _, h, _, _ => by cases h
  | y :: r, hr, ht, hlo, hp, hd, hmin => by
    obtain ⟨h1, h2⟩ := List.pairwise_cons.1 hr
    rcases List.mem_cons.1 hp with rfl | hp'
    · have e : delT (p :: r) p.2 = r := by
        unfold delT
        rw [List.filter_cons, if_neg (by simp), List.filter_eq_self]
        intro q hq
        have := h1 q hq
        simp
        omega
      rw [e]
      refine ⟨?_, ?_⟩
      · simp [dueT, hd]
      · simp [restT, hd]
    · have hlt := h1 p hp'
      have hy : ¬ y.1 ≤ at_ := fun hy => by
        have a1 := hlo y (by simp)
        have a2 := hlo p hp
        have a3 := hmin y (by simp)
        have a4 := (tkey_lt (ht y (by simp)) (ht p hp)).2 (.inr ⟨by omega, hlt⟩)
        omega
      obtain ⟨i1, i2⟩ := due_step h2 (fun q hq => ht q (by simp [hq])) (fun q hq => hlo q (by simp [hq])) hp' hd (fun q hq => hmin q (by simp [hq]))
      have e : delT (y :: r) p.2 = y :: delT r p.2 := by
        unfold delT
        rw [List.filter_cons, if_pos (by simp; omega)]
      have hd1 : ∀ l, dueT (y :: l) at_ = dueT l at_ := fun l => by simp [dueT, hy]
      have hd2 : ∀ l, restT (y :: l) at_ = y :: restT l at_ := fun l => by
        unfold restT
        rw [List.filter_cons, if_pos (by simpa using hy)]
      rw [e, hd1, hd1, hd2, hd2, i2]
      exact ⟨i1, rfl⟩
theorem due_none {L : List (Int × Int)} {at_ : Int} (h : ∀ q ∈ L, at_ < q.1) : dueT L at_ = [] ∧ restT L at_ = L := by
  unfold dueT restT
  constructor
  · rw [List.filter_eq_nil_iff]
    intro q hq
    have := h q hq
    simp
    omega
  · rw [List.filter_eq_self]
    intro q hq
    have := h q hq
    simp
    omega
end Go.Proofs.Ythimdmgimlhbaaa
