/- What BagOnce's loops keep: the bag of all messages, and what was taken out of it. -/
import Derived.Test.YtaimnhlpdkpobaaClearK
namespace Go.Proofs.Ytaimnhlpdkpobaa
open Go.RowKit Go.Maps

/-- The bag's items are the first k messages, by their numbers. -/
def Fill (ps : List MsgV) (k : Nat) (L : List Item) : Prop := L.length = k ∧ ∀ i, i < k → ∃ x p, L[i]? = some x ∧ ps[i]? = some p ∧ x.id = (i : Int) + 1 ∧ x.msg = p.m
theorem Fill.zero (ps : List MsgV) : Fill ps 0 [] := ⟨rfl, fun i hi => by omega⟩
theorem Fill.next {ps : List MsgV} {k : Nat} {L : List Item} (h : Fill ps k L) {p : MsgV} (hp : ps[k]? = some p) (v : Value) : Fill ps (k + 1) (L ++ [⟨(k : Int) + 1, v, p.m⟩]) := by
  refine ⟨by simp [h.1], fun i hi => ?_⟩
  by_cases hk : i < k
  · obtain ⟨x, q, h1, h2, h3, h4⟩ := h.2 i hk
    exact ⟨x, q, by rw [List.getElem?_append_left (by rw [h.1]; exact hk)]; exact h1, h2, h3, h4⟩
  · obtain rfl : i = k := by omega
    exact ⟨⟨(i : Int) + 1, v, p.m⟩, p, by rw [List.getElem?_append_right (by rw [h.1]; omega), h.1]; simp, hp, rfl, rfl⟩
/-- The item of a number that is there. -/
theorem Fill.item {ps : List MsgV} {k : Nat} {L : List Item} (h : Fill ps k L) (hr : L.Pairwise (fun x y => x.id < y.id)) {i : Nat} (hi : i < k) : ∃ x p, itemAt L ((i : Int) + 1) = some x ∧ ps[i]? = some p ∧ x.msg = p.m := by
  obtain ⟨x, p, h1, h2, h3, h4⟩ := h.2 i hi
  exact ⟨x, p, by rw [← h3]; exact item_of hr (List.mem_of_getElem? h1), h2, h4⟩
theorem item_cleared {L : List Item} {M : List Int} {id : Int} (h : id ∉ M) : itemAt (cleared L M) id = itemAt L id := by
  unfold itemAt cleared
  rw [List.find?_filter]
  congr 1
  funext x
  by_cases hx : x.id = id
  · subst hx
    simp [h]
  · simp [hx]
theorem item_gone {L : List Item} {M : List Int} {id : Int} (h : id ∈ M) : itemAt (cleared L M) id = none := by
  unfold itemAt cleared
  rw [List.find?_eq_none]
  intro x hx
  have := (List.mem_filter.1 hx).2
  simp only [beq_iff_eq]
  rintro rfl
  simp [h] at this
theorem item_high {L : List Item} {M : List Int} {id : Int} {last : Nat} (hids : ∀ x ∈ L, 1 ≤ x.id ∧ x.id ≤ (last : Int)) (h : (last : Int) < id) : itemAt (cleared L M) id = none := by
  unfold itemAt cleared
  rw [List.find?_eq_none]
  intro x hx
  have := (hids x (List.mem_filter.1 hx).1).2
  simp only [beq_iff_eq]
  omega
theorem without_len {L : List Item} (hr : L.Pairwise (fun x y => x.id < y.id)) {id : Int} {x : Item} (h : itemAt L id = some x) : (without L id).length + 1 = L.length := by
  induction L with
  | nil => simp [itemAt] at h
  | cons y r ih =>
    rw [List.pairwise_cons] at hr
    unfold without
    by_cases hy : y.id = id
    · have hn : r.filter (fun x => !(x.id == id)) = r := by
        rw [List.filter_eq_self]
        intro z hz
        have := hr.1 z hz
        simp
        omega
      rw [List.filter_cons_of_neg (by simp [hy]), hn, List.length_cons]
    · have h' : itemAt r id = some x := by
        unfold itemAt at h ⊢
        rwa [List.find?_cons_of_neg (by simpa using hy)] at h
      have := ih hr.2 h'
      unfold without at this
      rw [List.filter_cons_of_pos (by simp [hy]), List.length_cons, List.length_cons]
      omega

/-- The bag, and the row of the numbers that are gone. -/
structure Gone (base : Nat) (wr : World) (g b last : Nat) (L : List Item) (v : Value) (M : List Int) : Prop where
  bag : BagAt (Else g b v (.slice none 0 0)) wr g b 100 last (cleared L M)
  rise : L.Pairwise (fun x y => x.id < y.id)
  ids : ∀ x ∈ L, 1 ≤ x.id ∧ x.id ≤ (last : Int)
  fit : Fit M
  count : (cleared L M).length + M.length = L.length
  row : wr.ownsRow base 3 1 v M.length (ivs M)
  six : v.ownBlock ≠ some g ∧ v.ownBlock ≠ some b
  low : base ≤ g ∧ base ≤ b ∧ base ≤ wr.heap.size
section
variable {base : Nat} {wr w' : World} {g b last : Nat} {L : List Item} {v : Value} {M : List Int}
theorem Gone.later (h : Gone base wr g b last L v M) (hb : Below wr.heap.size wr w') : Gone base w' g b last L v M :=
  ⟨h.bag.later hb, h.rise, h.ids, h.fit, h.count, own_below h.row hb, h.six, h.low.1, h.low.2.1, Nat.le_trans h.low.2.2 hb.size⟩
theorem Gone.new (h : Gone base wr g b last L v M) (i : Nat) (hi : wr.heap.size ≤ i) : Else g b v (.slice none 0 0) i := by
  have h1 := h.bag.lt
  exact ⟨by omega, by omega, fun e => by have := (h.row.lt i e).2; omega, by simp [Value.ownBlock]⟩
theorem Gone.old (h : Gone base wr g b last L v M) (i : Nat) (hi : i < base) : Else g b v (.slice none 0 0) i := by
  have h1 := h.low
  exact ⟨by omega, by omega, fun e => by have := (h.row.lt i e).1; omega, by simp [Value.ownBlock]⟩
theorem Gone.below (h : Gone base wr g b last L v M) (hT : Turned (fun i => i = g ∨ i = b) wr w') : Below base wr w' :=
  hT.below (fun i e => by have := h.low; omega) h.low.2.2
/-- A message is taken, and its number written down. -/
theorem Gone.took (h : Gone base wr g b last L v M) {id : Int} {x : Item} (hx : itemAt (cleared L M) id = some x) (hid : I64 id) (hB : BagAt (Else g b v (.slice none 0 0)) w' g b 100 last (without (cleared L M) id)) (hT : Turned (fun i => i = g ∨ i = b) wr w') {w2 w3 : World} {v2 : Value}
    (hb : Below w'.heap.size w' w2) (ho : w3.ownsRow base 3 1 v2 (M.length + 1) (ivs M ++ ivs [id])) (hw : Went w2 v.ownBlock w3 v2.ownBlock) : Gone base w3 g b last L v2 (M ++ [id]) := by
  have hB1 := hB.later hb
  obtain ⟨hg, hbb⟩ := hB1.lt
  have hE : BagAt (fun i => Else g b v (.slice none 0 0) i ∧ v2.ownBlock ≠ some i) w2 g b 100 last (without (cleared L M) id) := hB1.mono (fun i hi hE => ⟨hE, went_new hw hi hE.2.2.1⟩) (fun e => e.1.1 rfl) (fun e => e.1.2.1 rfl)
  have hB2 := bag_went hE hw h.six.1 h.six.2 (fun i e => e.1.2.2.1)
  have hm : ivs (M ++ [id]) = ivs M ++ ivs [id] := by simp [ivs]
  rw [← cleared_snoc] at hB2
  refine ⟨hB2.mono (fun i _ e => ⟨e.1.1, e.1.2.1, e.2, by simp [Value.ownBlock]⟩) (fun e => e.1 rfl) (fun e => e.2.1 rfl), h.rise, h.ids, fun y hy => ?_, ?_, by rw [hm, List.length_append]; exact ho, ⟨went_new hw hg h.six.1, went_new hw hbb h.six.2⟩, h.low.1, h.low.2.1, Nat.le_trans (Nat.le_trans h.low.2.2 hT.size) (Nat.le_trans hb.size hw.size)⟩
  · rcases List.mem_append.1 hy with hy | hy
    · exact h.fit y hy
    · obtain rfl : y = id := by simpa using hy
      exact hid
  · rw [cleared_snoc, List.length_append]
    have h1 := without_len (h.rise.filter _) hx
    have h2 := h.count
    show (without (cleared L M) id).length + (M.length + 1) = L.length
    have h3 : (without (cleared L M) id).length + 1 = (cleared L M).length := h1
    omega
/-- The row stays where the bag turned. -/
theorem Gone.row2 (h : Gone base wr g b last L v M) (hT : Turned (fun i => i = g ∨ i = b) wr w') : w'.ownsRow base 3 1 v M.length (ivs M) :=
  own_turned h.row hT (fun q e => by rintro (rfl | rfl); exact h.six.1 e; exact h.six.2 e)
end

/-- The slice v holds these numbers. -/
def UintsAt (F : Nat → Prop) (w : World) (v : Value) (l : List Int) : Prop := FlatAt F w 1 v l.length (l.map fun x => .int .u64 x)
theorem UintsAt.kept {F : Nat → Prop} {w w' : World} {v : Value} {l : List Int} (h : UintsAt F w v l) (hk : Kept F w w') : UintsAt F w' v l := FlatAt.kept h hk
theorem UintsAt.at_ {F : Nat → Prop} {w : World} {v : Value} {l : List Int} (h : UintsAt F w v l) {i : Nat} (hi : i < l.length) : ∃ x b off c, l[i]? = some x ∧ v = .slice (some ⟨b, off, none⟩) l.length c ∧ l.length ≤ c ∧ F b ∧ b < w.heap.size ∧ w.cell? ⟨b, off + i, none⟩ = some (.int .u64 x) := by
  obtain ⟨b, off, c, hv, hc, hf, hb, hr⟩ := FlatAt.elem h hi
  have hs : l[i]? = some l[i] := List.getElem?_eq_getElem hi
  refine ⟨l[i], b, off, c, hs, hv, hc, hf, hb, ?_⟩
  have := hr 0 (.int .u64 l[i]) (by simp [List.getElem?_drop, hs])
  simpa using this
end Go.Proofs.Ytaimnhlpdkpobaa
