/- What BagClears' loop keeps: a bag, and two rows of numbers beside it. -/
import Derived.Test.YtaimnhlpdkpobaaNone4
import Derived.Test.YtaimnhlpdkpobaaOpenA
namespace Go.Proofs.Ytaimnhlpdkpobaa
open Go.RowKit Go.Maps

theorem FlatAt.mono' {F G : Nat → Prop} {w : World} {k n : Nat} {v : Value} {xs : List Value} (h : FlatAt F w k v n xs) (hg : ∀ i, i < w.heap.size → F i → G i) : FlatAt G w k v n xs := FlatAt.mono h hg
theorem MsgsIn.mono {F G : Nat → Prop} {w : World} {v : Value} {ps : List MsgV} (h : MsgsIn F w v ps) (hg : ∀ i, i < w.heap.size → F i → G i) : MsgsIn G w v ps := ⟨FlatAt.mono h.1 hg, fun p hp => (h.2 p hp).mono hg⟩
theorem MsgsIn.at_ {F : Nat → Prop} {w : World} {v : Value} {ps : List MsgV} (h : MsgsIn F w v ps) {k : Nat} (hk : k < ps.length) : ∃ p b off c, ps[k]? = some p ∧ v = .slice (some ⟨b, off, none⟩) ps.length c ∧ ps.length ≤ c ∧ F b ∧ b < w.heap.size ∧ w.rangeAt b (off + k * 34) p.cells ∧ Lists F w p.m p.s p.o p.i := by
  obtain ⟨b, off, c, hv, hc, hf, hb, hr⟩ := FlatAt.elem h.1 hk
  have hs : ps[k]? = some ps[k] := List.getElem?_eq_getElem hk
  refine ⟨ps[k], b, off, c, hs, hv, hc, hf, hb, ?_, h.2 _ (List.getElem_mem hk)⟩
  rwa [flat_get MsgV.cells 34 ps k _ (fun y _ => y.len) hs] at hr
theorem ints_lit1 (w : World) (T : TypeId) (a : Int) (ha : I64 a) : IHolds (w.alloc (.cells #[.int .i64 a] T (0, 0))) (w.heap.size + 1) (some ⟨w.heap.size, 0, none⟩) 1 [a] :=
  ⟨rfl, fun x hx => by
    obtain rfl : x = a := by simpa using hx
    exact ha, fun _ => ⟨w.heap.size, 0, rfl, by omega, fun i hi => by
    rw [Nat.zero_add, cell_of_row _ _ _ _ _ _ (heap_alloc_new w _)]
    match i, hi with
    | 0, _ => rfl⟩⟩

section
variable {P : Program} {w : World}
/-- A struct's literal with one field said. -/
theorem wpList_build_one {ops : Array Oper} {rest : List Oper} {op : Oper} {a : Act} {Q : Exit → Act → World → Prop} (hgd : op.guard = none) (t : TypeId) (n : Nat) (x : Operand) (ho : op.op = .build t #[(n, x)]) (u : Value) (hx : a.eval x = u)
    (cells : Array Value) (hb : P.built t [(n, u)] = some cells) (h : wpList P ops Q rest (a.put op.dst (.agg cells)) w) : wpList P ops Q (op :: rest) a w := by
  refine wpList_build hgd t _ ho ?_ ?_
  · simp [hx, hb]
  · simpa [hx, hb] using h
end

/-- The numbers of the messages that go elsewhere. -/
def restOf (L : List Item) (place : Int) : List Int := idsOf (L.filter fun x => !(x.msg.dst == place))
theorem restOf_snoc (L : List Item) (x : Item) (place : Int) : restOf (L ++ [x]) place = restOf L place ++ (if x.msg.dst = place then [] else [x.id]) := by
  unfold restOf idsOf
  rw [List.filter_append, List.map_append]
  by_cases h : x.msg.dst = place <;> simp [h]
theorem toOf_snoc {L : List Item} {x : Item} (h : (L ++ [x]).Pairwise (fun x y => x.id < y.id)) (place : Int) : toOf (L ++ [x]) place = toOf L place ++ (if x.msg.dst = place then [x.id] else []) := by
  rw [toOf_eq h, toOf_eq (List.pairwise_append.1 h).1, List.filter_append, List.map_append]
  by_cases h : x.msg.dst = place <;> simp [h]
theorem toOf_le (L : List Item) (place : Int) : (toOf L place).length ≤ L.length := by
  have := List.length_filter_le (fun id => dstOf L id == place) (idsOf L)
  rw [idsOf_len] at this
  exact this
theorem restOf_le (L : List Item) (place : Int) : (restOf L place).length ≤ L.length := by
  unfold restOf
  rw [idsOf_len]
  exact List.length_filter_le _ _
theorem toOf_rest {L : List Item} (h : L.Pairwise (fun x y => x.id < y.id)) (place : Int) : toOf (L.filter fun x => !(x.msg.dst == place)) place = [] := by
  rw [toOf_eq (h.filter _), List.filter_filter]
  simp

/-- Which blocks the bag's messages may lie in. -/
def Else (g b : Nat) (v6 v7 : Value) (i : Nat) : Prop := i ≠ g ∧ i ≠ b ∧ v6.ownBlock ≠ some i ∧ v7.ownBlock ≠ some i
structure St (base : Nat) (wr : World) (g b k : Nat) (L : List Item) (v6 v7 : Value) (M N : List Int) : Prop where
  bag : BagAt (Else g b v6 v7) wr g b 100 k L
  len : L.length = k
  mine : wr.ownsRow base 3 1 v6 M.length (ivs M)
  oth : wr.ownsRow base 3 1 v7 N.length (ivs N)
  six : v6.ownBlock ≠ some g ∧ v6.ownBlock ≠ some b
  seven : v7.ownBlock ≠ some g ∧ v7.ownBlock ≠ some b
  two : ∀ q, v6.ownBlock = some q → v7.ownBlock ≠ some q
  low : base ≤ g ∧ base ≤ b ∧ base ≤ wr.heap.size

theorem own_turned {S : Nat → Prop} {w w' : World} {base e n : Nat} {v : Value} {xs : List Value} (h : w.ownsRow base e 1 v n xs) (t : Turned S w w') (hs : ∀ q, v.ownBlock = some q → ¬ S q) : w'.ownsRow base e 1 v n xs := by
  refine ⟨h.1, ?_⟩
  rcases h.2 with h0 | ⟨g, cap, cur, hv, hb, hg, rest⟩
  · exact .inl h0
  · subst hv
    exact .inr ⟨g, cap, cur, rfl, hb, (t.block g (lt_of_block hg) (hs g rfl)).trans hg, rest⟩

section
variable {base : Nat} {wr w' : World} {g b k : Nat} {L : List Item} {v6 v7 : Value} {M N : List Int}
theorem St.later (h : St base wr g b k L v6 v7 M N) (hb : Below wr.heap.size wr w') : St base w' g b k L v6 v7 M N :=
  ⟨h.bag.later hb, h.len, own_below h.mine hb, own_below h.oth hb, h.six, h.seven, h.two, h.low.1, h.low.2.1, Nat.le_trans h.low.2.2 hb.size⟩
theorem St.new (h : St base wr g b k L v6 v7 M N) (i : Nat) (hi : wr.heap.size ≤ i) : Else g b v6 v7 i := by
  have h1 := h.bag.lt
  exact ⟨by omega, by omega, fun e => by have := (h.mine.lt i e).2; omega, fun e => by have := (h.oth.lt i e).2; omega⟩
theorem St.old (h : St base wr g b k L v6 v7 M N) (i : Nat) (hi : i < base) : Else g b v6 v7 i := by
  have h1 := h.low
  exact ⟨by omega, by omega, fun e => by have := (h.mine.lt i e).1; omega, fun e => by have := (h.oth.lt i e).1; omega⟩
theorem St.put (h : St base wr g b k L v6 v7 M N) {x : Item} (hB : BagAt (Else g b v6 v7) w' g b 100 (k + 1) (L ++ [x])) (hT : Turned (fun i => i = g ∨ i = b) wr w') : St base w' g b (k + 1) (L ++ [x]) v6 v7 M N :=
  ⟨hB, by simp [h.len], own_turned h.mine hT (fun q e => by rintro (rfl | rfl); exact h.six.1 e; exact h.six.2 e), own_turned h.oth hT (fun q e => by rintro (rfl | rfl); exact h.seven.1 e; exact h.seven.2 e), h.six, h.seven, h.two, h.low.1, h.low.2.1, Nat.le_trans h.low.2.2 hT.size⟩
theorem St.below (h : St base wr g b k L v6 v7 M N) (hT : Turned (fun i => i = g ∨ i = b) wr w') : Below base wr w' :=
  hT.below (fun i e => by have := h.low; omega) h.low.2.2

theorem bag_went {r r' : Option Nat} {w w' : World} {most : Int} {F : Nat → Prop} {n : Nat} (h : BagAt F w g b most n L) (hw : Went w r w' r') (hr1 : r ≠ some g) (hr2 : r ≠ some b) (hF : ∀ i, F i → r ≠ some i) : BagAt F w' g b most n L :=
  h.kept ⟨hw.size, fun i hi hF' => hw.1.block i hi (fun e => by
    rcases hF' with rfl | rfl | h1
    · exact hr1 e.symm
    · exact hr2 e.symm
    · exact hF i h1 e.symm)⟩
theorem went_new {r r' : Option Nat} {w w' : World} (hw : Went w r w' r') {i : Nat} (hi : i < w.heap.size) (h : r ≠ some i) : r' ≠ some i := by
  rcases hw.2 with e | ⟨q, e, hq⟩
  · rw [e]; exact h
  · rw [e]; intro e2; have := Option.some.inj e2; omega

theorem St.app6 {v : Value} {x : Int} (h : St base wr g b k L v6 v7 M N) (ho : w'.ownsRow base 3 1 v (M.length + 1) (ivs M ++ ivs [x])) (hw : Went wr v6.ownBlock w' v.ownBlock) : St base w' g b k L v v7 (M ++ [x]) N := by
  obtain ⟨hg, hb⟩ := h.bag.lt
  have hB : BagAt (fun i => Else g b v6 v7 i ∧ v.ownBlock ≠ some i) wr g b 100 k L := h.bag.mono (fun i hi hE => ⟨hE, went_new hw hi hE.2.2.1⟩) (fun e => e.1.1 rfl) (fun e => e.1.2.1 rfl)
  have hB2 := bag_went hB hw h.six.1 h.six.2 (fun i e => e.1.2.2.1)
  have hm : ivs (M ++ [x]) = ivs M ++ ivs [x] := by simp [ivs]
  have hto : ∀ q, v7.ownBlock = some q → q < wr.heap.size := fun q e => (h.oth.lt q e).2
  exact ⟨hB2.mono (fun i _ e => ⟨e.1.1, e.1.2.1, e.2, e.1.2.2.2⟩) (fun e => e.1 rfl) (fun e => e.2.1 rfl), h.len, by rw [hm, List.length_append]; exact ho,
    h.oth.kept hw.1 (by
      cases h7 : v7.ownBlock with
      | none => exact .inl rfl
      | some q => exact .inr (fun e => h.two q e.symm h7)), ⟨went_new hw hg h.six.1, went_new hw hb h.six.2⟩, h.seven,
    fun q e e7 => went_new hw (hto q e7) (fun e6 => h.two q e6 e7) e, h.low.1, h.low.2.1, Nat.le_trans h.low.2.2 hw.size⟩
theorem St.app7 {v : Value} {x : Int} (h : St base wr g b k L v6 v7 M N) (ho : w'.ownsRow base 3 1 v (N.length + 1) (ivs N ++ ivs [x])) (hw : Went wr v7.ownBlock w' v.ownBlock) : St base w' g b k L v6 v M (N ++ [x]) := by
  obtain ⟨hg, hb⟩ := h.bag.lt
  have hB : BagAt (fun i => Else g b v6 v7 i ∧ v.ownBlock ≠ some i) wr g b 100 k L := h.bag.mono (fun i hi hE => ⟨hE, went_new hw hi hE.2.2.2⟩) (fun e => e.1.1 rfl) (fun e => e.1.2.1 rfl)
  have hB2 := bag_went hB hw h.seven.1 h.seven.2 (fun i e => e.1.2.2.2)
  have hm : ivs (N ++ [x]) = ivs N ++ ivs [x] := by simp [ivs]
  have hto : ∀ q, v6.ownBlock = some q → q < wr.heap.size := fun q e => (h.mine.lt q e).2
  exact ⟨hB2.mono (fun i _ e => ⟨e.1.1, e.1.2.1, e.1.2.2.1, e.2⟩) (fun e => e.1 rfl) (fun e => e.2.1 rfl), h.len, h.mine.kept hw.1 (by
      cases h6 : v6.ownBlock with
      | none => exact .inl rfl
      | some q => exact .inr (fun e => h.two q h6 e.symm)), by rw [hm, List.length_append]; exact ho, h.six, ⟨went_new hw hg h.seven.1, went_new hw hb h.seven.2⟩,
    fun q e6 => went_new hw (hto q e6) (h.two q e6), h.low.1, h.low.2.1, Nat.le_trans h.low.2.2 hw.size⟩
end
end Go.Proofs.Ytaimnhlpdkpobaa
