/- Ids of package bag: the numbers of all messages, rising: the library's Sorted at what its Keys hands back. -/
import Derived.Test.YtaimnhlpdkpobaaTake
import Derived.Test.YtaimnhlpdkpobaaShelf
import Derived.Test.YtaimnhlpdkpobaaRefInts
namespace Go.Proofs.Ytaimnhlpdkpobaa
open Go.RowKit Go.Maps Go.Sort Go.Shelf

/-- The numbers of the messages. -/
def idsOf (L : List Item) : List Int := L.map (·.id)
theorem idsOf_len (L : List Item) : (idsOf L).length = L.length := by simp [idsOf]
theorem keys_mapD (L : List Item) : intKeys (mapD (L.map Item.pair)) = idsOf L := by
  simp [mapD, intKeys, idsOf, Item.pair, Function.comp_def]
  intro a _
  rfl
theorem sort_perm {l m : List Int} (hp : l.Perm m) (hm : m.Pairwise (· < ·)) : l.mergeSort (fun x y => decide (x ≤ y)) = m := by
  have tr : ∀ a b c : Int, decide (a ≤ b) = true → decide (b ≤ c) = true → decide (a ≤ c) = true := fun a b c h1 h2 => by simp only [decide_eq_true_eq] at *; omega
  have to : ∀ a b : Int, (decide (a ≤ b) || decide (b ≤ a)) = true := fun a b => by simp only [Bool.or_eq_true, decide_eq_true_eq]; omega
  refine List.Perm.eq_of_pairwise (le := fun a b => decide (a ≤ b) = true) (fun a b _ _ h1 h2 => ?_) (List.pairwise_mergeSort tr to l) (hm.imp fun {a b} h => by simp only [decide_eq_true_eq]; omega) ((List.mergeSort_perm l _).trans hp)
  simp only [decide_eq_true_eq] at h1 h2
  omega
theorem BagAt.fit {F : Nat → Prop} {w : World} {g b : Nat} {most : Int} {last : Nat} {L : List Item} (h : BagAt F w g b most last L) (hl : last ≤ 1000000) : Fit (idsOf L) := by
  intro x hx
  obtain ⟨y, hy, rfl⟩ := List.mem_map.1 hx
  have := h.ids y hy
  omega
theorem BagAt.count {F : Nat → Prop} {w : World} {g b : Nat} {most : Int} {last : Nat} {L : List Item} (h : BagAt F w g b most last L) : L.length ≤ last := by
  have := h.map.size_le
  rwa [size_mapD, List.length_map] at this

/-- A slice of no ints. -/
theorem newInts_nil {w w' : World} (hb : Below w.heap.size w w') : NewInts w [] (.returned (.slice none 0 0)) w' :=
  ⟨none, 0, 0, rfl, World.ownsRow_nil _ _ _ _, IHolds.nil_ _ _, Nat.le_refl _, hb⟩

set_option maxHeartbeats 400000 in
theorem ids_no (p : Value) (w : World) (h : NoBag w p) : Calls Try.prog 25 #[p] w fun e w' => e = .returned (.slice none 0 0) ∧ w = w' := by
  have C := hide (made_no p w h)
  have hp : ∃ a, p = .pointer a := by rcases h with rfl | ⟨g, _, _, rfl, _⟩ <;> exact ⟨_, rfl⟩
  obtain ⟨a, rfl⟩ := hp
  clear h
  go_enter Try.func25, Try.ntmps25
  go_wp2_with (fail)
  refine C.out.mono ?_
  rintro e w1 ⟨rfl, rfl⟩
  go_wp2
  go_ret
  exact ⟨rfl, rfl⟩

/-- The library's Sort at this program. -/
theorem Try.sorts (m : Nat) : AnyZI.SortsIn Try.prog Try.sortedA_ren Fence.wide m :=
  ⟨fun blk off cap ss W hH hblk hsz => callsIn_wide.2 (AnyM.slices_Sort_int Try.sortA blk off cap ss W hH hblk hsz),
   fun p cap W => callsIn_wide.2 (AnyM.slices_Sort_int_none Try.sortA p cap W)⟩

/-- What Keys hands back: a function over one new block that holds the map. -/
theorem keys_any (mb : Option Nat) (W : World) : Calls Try.prog 40 #[.map mb] W fun e w' => e = .returned (.func (.func 52) #[] #[.pointer (some ⟨W.heap.size, 0, none⟩)]) ∧ w' = W.alloc (.cells #[.map mb] 70) :=
  callsIn_wide.1 (AnyZI.keys_in Try.keysA Fence.wide 5 trivial rfl mb W)

/-- Sorted at what Keys hands back for a map: its keys, rising. -/
theorem sorted_any (b nn : Nat) (L : List Item) (w : World) (hown : w.ownsMap Try.prog 3 heldR b nn (mapD (L.map Item.pair))) (hr : (idsOf L).Pairwise (· < ·)) (hf : Fit (idsOf L)) (hlen : L.length ≤ 1000000) :
    Calls Try.prog 39 #[.func (.func 52) #[] #[.pointer (some ⟨w.heap.size, 0, none⟩)]] (w.alloc (.cells #[.map (some b)] 70)) (NewInts w (idsOf L)) := by
  have hbl := hown.lt
  have hsz : Maps.size (mapD (L.map Item.pair)) = L.length := by rw [size_mapD, List.length_map]
  have hseq : SeqGives Fence.wide 2 Try.prog 52 #[.pointer (some ⟨w.heap.size, 0, none⟩)] encZ (fun ss => ss.Perm (intKeys (mapD (L.map Item.pair)))) (Maps.size (mapD (L.map Item.pair))) (w.alloc (.cells #[.map (some b)] 70)) :=
    AnyZI.keys_gives (ρ := Try.keysA_ren) { Try.keysA with } Fence.wide _ trivial rfl (by omega) w.heap.size b nn (mapD (L.map Item.pair)) _ (by simp) (by simp) (by
      obtain ⟨es, clock, hb, Ft, hs, hD⟩ := hown
      exact ⟨es, clock, (Below.heap_alloc _ _ b hbl).trans hb, Ft, hs, hD⟩)
  have cS := AnyZI.sorted_in Try.sortedA Fence.wide 5 trivial trivial trivial trivial rfl (by omega) (Try.sorts _) (enters_of Try.func51 (by kernel_rfl) rfl) 52 #[.pointer (some ⟨w.heap.size, 0, none⟩)] trivial (enters_of Try.func52 (by kernel_rfl) rfl) _ _ (by rw [hsz]; unfold maxLen; omega) (by rw [hsz]; omega) _ hseq
  change CallsIn _ _ Try.prog 39 _ _ _ at cS
  refine (callsIn_wide.1 cS).mono ?_
  rintro e w' ⟨v, ss, rfl, hS, hrow, hnil, hb⟩
  rw [keys_mapD] at hS
  rw [sort_perm hS hr] at hrow
  have hl : ss.length = (idsOf L).length := hS.length_eq
  rw [hl] at hrow
  have hrow' : w'.ownsRow w.heap.size 3 1 v (idsOf L).length (ivs (idsOf L)) := ownsRow_base_a hrow (by simp)
  obtain ⟨A, c, rfl, h1, _, h2⟩ := IHolds.of_own hrow' hf
  exact ⟨A, _, c, rfl, hrow', h2, h1, ((Below.refl _ w).alloc (Nat.le_refl _) _).trans (hb.mono (by simp))⟩

set_option maxHeartbeats 1000000 in
theorem ids_yes {F : Nat → Prop} {g b : Nat} {most : Int} {last : Nat} {L : List Item} (w : World) (h : BagAt F w g b most last L) (hl : last ≤ 1000000) :
    Calls Try.prog 25 #[.pointer (some ⟨g, 0, none⟩)] w (NewInts w (idsOf L)) := by
  have C := hide (made_yes w h)
  have CK := hide (fun W => keys_any (some b) W)
  have CS := hide (sorted_any b last L w h.map (List.pairwise_map.2 h.rise) (h.fit hl) (Nat.le_trans h.count hl))
  obtain ⟨c0, _, _, _⟩ := h.cells
  clear h
  go_enter Try.func25, Try.ntmps25
  go_wp2_with (fail)
  refine C.out.mono ?_
  rintro e w1 ⟨rfl, rfl⟩
  go_wp2_with (fail)
  refine (CK.out _).mono ?_
  rintro e w1 ⟨rfl, rfl⟩
  go_wp2_with (fail)
  refine CS.out.mono ?_
  rintro e w2 ⟨A, n, c, rfl, h1, h2, h3, h4⟩
  have H : Hid (NewInts w (idsOf L) (.returned (.slice A n c)) w2) := ⟨A, n, c, rfl, h1, h2, h3, h4⟩
  clear h1 h2 h3 h4
  go_wp2
  go_ret
  exact H.out
end Go.Proofs.Ytaimnhlpdkpobaa
