/- The document's clock in memory; its Left and Stop, and the names of its timers. -/
import Derived.Test.YthimdmgimlhbaaaClk
namespace Go.Proofs.Ythimdmgimlhbaaa
open Go.RowKit Go.Maps

/-- A timer as the document has it. -/
def rcell (p : Int × Int) : List Value := [.int .i64 p.2, .int .i64 p.1]
def rcells (l : List (Int × Int)) : List Value := l.flatMap rcell
theorem rcells_append (a b : List (Int × Int)) : rcells (a ++ b) = rcells a ++ rcells b := by simp [rcells]
theorem rcells_single (p : Int × Int) : rcells [p] = rcell p := by simp [rcells]
theorem rcells_cell (l : List (Int × Int)) : ∀ u ∈ rcells l, u.oneCell' = true := by
  intro u hu
  obtain ⟨p, _, hp⟩ := List.mem_flatMap.1 hu
  simp only [rcell, List.mem_cons, List.not_mem_nil, or_false] at hp
  rcases hp with rfl | rfl <;> rfl
theorem Try.infoR : (Try.prog.info? 62).map (fun i => (i.zero, i.size, i.bytes)) = some (some (.agg #[.int .i64 0, .int .i64 0]), 2, 16) := by kernel_rfl

/-- The block r holds the document's clock: T holds of the blocks that it lies in. -/
structure RefAt (T : Nat → Prop) (w : World) (r : Nat) (now : Int) (L : List (Int × Int)) (v : Value) : Prop where
  cell : w.heap[r]? = some (.cells #[.int .i64 now, v] 29 (0, 0))
  row : FlatAt (fun i => T i ∧ i ≠ r) w 2 v L.length (rcells L)
  inn : T r
  old : ∀ i, T i → i < w.heap.size
section
variable {T : Nat → Prop} {w w' : World} {r : Nat} {now : Int} {L : List (Int × Int)} {v : Value}
theorem RefAt.kept (h : RefAt T w r now L v) (hk : Kept T w w') : RefAt T w' r now L v :=
  ⟨(hk.2 r (lt_of_block h.cell) h.inn).trans h.cell, h.row.kept (hk.mono fun _ _ hi => hi.1), h.inn, fun i hi => Nat.lt_of_lt_of_le (h.old i hi) hk.1⟩
theorem RefAt.later (h : RefAt T w r now L v) (hb : Below w.heap.size w w') : RefAt T w' r now L v := h.kept (Kept.of_below hb _)
theorem RefAt.cells (h : RefAt T w r now L v) : w.cell? ⟨r, 0, none⟩ = some (.int .i64 now) ∧ w.cell? ⟨r, 1, none⟩ = some v ∧ w.frozen? ⟨r, 0, none⟩ = false ∧ w.frozen? ⟨r, 1, none⟩ = false :=
  ⟨cell_of_row w r 0 _ _ _ h.cell, cell_of_row w r 1 _ _ _ h.cell, frozen_of_row w r 0 _ _ h.cell, frozen_of_row w r 1 _ _ h.cell⟩
theorem RefAt.at_ (h : RefAt T w r now L v) {i : Nat} (hi : i < L.length) : ∃ p b off c, L[i]? = some p ∧ v = .slice (some ⟨b, off, none⟩) L.length c ∧ L.length ≤ c ∧ b < w.heap.size ∧ w.rangeAt b (off + i * 2) (rcell p) := by
  obtain ⟨b, off, c, hv, hc, _, hb, hr⟩ := FlatAt.elem h.row hi
  have hs : L[i]? = some L[i] := List.getElem?_eq_getElem hi
  refine ⟨L[i], b, off, c, hs, hv, hc, hb, ?_⟩
  unfold rcells at hr
  rwa [flat_get rcell 2 L i _ (fun _ _ => rfl) hs] at hr
end
/-- What a call that writes to the document's clock leaves: it lies in its own block, and in new ones. -/
def RefNew (w w' : World) (r : Nat) (now : Int) (L : List (Int × Int)) : Prop := ∃ T v, RefAt T w' r now L v ∧ (∀ i, T i → i = r ∨ w.heap.size ≤ i) ∧ Turned (fun i => i = r) w w'

theorem own_other {w w' : World} {b1 b2 e1 e2 s1 s2 n1 n2 : Nat} {v1 v2 : Value} {x1 x2 : List Value} (h1 : w.ownsRow b1 e1 s1 v1 n1 x1) (h2 : w.ownsRow b2 e2 s2 v2 n2 x2) (hne : e1 ≠ e2) (hg : w.grownBy w' v2.ownBlock) : w'.ownsRow b1 e1 s1 v1 n1 x1 := by
  refine h1.kept hg ?_
  rcases h1.2 with ⟨rfl, _⟩ | ⟨g, cap, cur, rfl, _, hc, _⟩
  · exact .inl rfl
  · refine .inr ?_
    rcases h2.2 with ⟨rfl, _⟩ | ⟨g', cap', cur', rfl, _, hc', _⟩
    · simp [Value.ownBlock]
    · intro e
      have e3 : g = g' := by simpa [Value.ownBlock] using e
      subst e3
      rw [hc] at hc'
      injection hc' with hc'
      injection hc' with _ ht
      exact hne ht
/-- The row that was built, in place of the elder one. -/
theorem ref_over {w w1 : World} {r : Nat} {now now' : Int} {L1 : List (Int × Int)} {v v1 : Value} (hc : w1.heap[r]? = some (.cells #[.int .i64 now', v] 29 (0, 0))) (hb : Turned (fun i => i = r) w w1) (hr : r < w.heap.size)
    (ho : w1.ownsRow w.heap.size 62 2 v1 L1.length (rcells L1)) (_ : now = now') : RefNew w (w1.setCell ⟨r, 1, none⟩ v1) r now L1 := by
  subst_vars
  have hs := heap_setCell_same w1 r 1 _ _ v1 hc
  have hT : Turned (fun i => i = r) w1 (w1.setCell ⟨r, 1, none⟩ v1) := Turned.of_grown (grown_set w1 r 1 _) fun g e => (Option.some.inj e).symm
  have ho2 : (w1.setCell ⟨r, 1, none⟩ v1).ownsRow w.heap.size 62 2 v1 L1.length (rcells L1) := by
    refine ⟨ho.1, ?_⟩
    rcases ho.2 with h0 | ⟨g, cap, cur, e', a1, a2, a3⟩
    · exact .inl h0
    · exact .inr ⟨g, cap, cur, e', a1, (hT.block g (lt_of_block a2) (by omega)).trans a2, a3⟩
  have hsz := hT.size
  have hsz2 := hb.size
  refine ⟨fun i => i = r ∨ w.heap.size ≤ i ∧ i < (w1.setCell ⟨r, 1, none⟩ v1).heap.size, v1, ⟨hs, (FlatAt.of_own ho2 (rcells_cell L1)).mono fun i hi h => ⟨.inr ⟨h, hi⟩, by have h' : w.heap.size ≤ i := h; omega⟩, .inl rfl, fun i hi => ?_⟩, fun i hi => hi.imp id fun h => h.1, hb.trans hT⟩
  rcases hi with rfl | hi
  · omega
  · exact hi.2
/-- A literal of one timer. -/
theorem ref_lit (w : World) (p : Int × Int) : FlatAt (fun _ => True) (w.alloc (.cells #[.int .i64 p.2, .int .i64 p.1] 62 (0, 0))) 2 (.slice (some ⟨w.heap.size, 0, none⟩) 1 1) 1 (rcell p) :=
  flat_one w 62 2 #[.int .i64 p.2, .int .i64 p.1] rfl (by simp [Value.oneCell']) _ trivial
/-- Where a loop that builds a row of timers stands. -/
structure Building (w wr : World) (v : Value) (M : List (Int × Int)) : Prop where
  own : wr.ownsRow w.heap.size 62 2 v M.length (rcells M)
  below : Below w.heap.size w wr
section
variable {w wr w2 w5 : World} {v v5 : Value} {M : List (Int × Int)}
theorem Building.start (h : Below w.heap.size w wr) : Building w wr (.slice none 0 0) [] := ⟨World.ownsRow_nil _ _ _ _, h⟩
theorem Building.later (h : Building w wr v M) (hb : Below wr.heap.size wr w2) : Building w w2 v M := ⟨own_later h.own hb, h.below.trans (hb.mono h.below.size)⟩
theorem Building.next (h : Building w wr v M) (p : Int × Int) (ho : w5.ownsRow w.heap.size 62 2 v5 (M.length + 1) (rcells M ++ rcell p)) (hg : wr.grownBy w5 v.ownBlock) : Building w w5 v5 (M ++ [p]) := by
  refine ⟨?_, h.below.trans ((Below.refl _ _).grown hg h.below.size fun k hk => (h.own.lt k hk).1)⟩
  rw [List.length_append, rcells_append, rcells_single]
  exact ho
theorem Building.shape (h : Building w wr v M) : ∃ A c, v = .slice A M.length c ∧ M.length ≤ c := by
  obtain ⟨A, c, hv, h1, _⟩ := FlatAt.shape (FlatAt.of_own h.own (rcells_cell M))
  exact ⟨A, c, hv, h1⟩
end
theorem take_next {L : List (Int × Int)} {k : Nat} {p : Int × Int} (h : L[k]? = some p) : L.take (k + 1) = L.take k ++ [p] := by
  have hk : k < L.length := (List.getElem?_eq_some_iff.1 h).1
  rw [List.take_succ_eq_append_getElem hk, (List.getElem?_eq_some_iff.1 h).2]
theorem delT_append (a b : List (Int × Int)) (name : Int) : delT (a ++ b) name = delT a name ++ delT b name := by simp [delT]

section
variable {T : Nat → Prop} {r : Nat} {now : Int} {L : List (Int × Int)} {v : Value}
set_option maxHeartbeats 1000000 in
set_option maxRecDepth 100000 in
theorem refleft (name : Int) (w : World) (h : RefAt T w r now L v) (ht : 0 ≤ now ∧ now ≤ 1000000) (he : ∀ p ∈ L, now ≤ p.1 ∧ p.1 ≤ now + 100000) (hl : L.length ≤ 100) :
    Calls Try.prog 20 #[.pointer (some ⟨r, 0, none⟩), .int .i64 name] w fun e w' => e = .returned (.int .i64 (leftOf L now name)) ∧ Below w.heap.size w w' := by
  obtain ⟨A, c, rfl, hcn, hcm, _⟩ := FlatAt.shape h.row
  unfold maxLen at hcm
  obtain ⟨n, hn⟩ : ∃ n, n = L.length := ⟨_, rfl⟩
  rw [← hn] at hcn hl h
  obtain ⟨c0, c1, _, _⟩ := h.cells
  obtain ⟨ht0, ht1⟩ := ht
  have H := hide h
  have HE := hide he
  have HN := hide hn
  have hrw := lt_of_block h.cell
  clear h he hn
  go_enter Try.func20, Try.ntmps20
  go_wp2
  go_loopw [12] (fun i wr => ∃ k : Nat, i = .int .i64 (k : Int) ∧ k ≤ n ∧ findT (L.take k) name = none ∧ Below w.heap.size w wr) (fun i _ => n - (intOf i).toNat)
  case atStart => exact ⟨0, rfl, by omega, rfl, Below.refl _ _⟩
  case round =>
    obtain ⟨k, rfl, hk, hno, hb⟩ := hrel
    have HNO := hide hno
    have HB := hide hb
    have H2 := hide (H.out.later hb)
    clear hno hb
    by_cases hkn : k < n
    · obtain ⟨p, b, off, c', hp, hv, hcc, hbl, hr⟩ := RefAt.at_ H2.out (i := k) (by rw [← HN.out]; exact hkn)
      rw [← HN.out] at hv
      obtain ⟨rfl, rfl⟩ : A = some ⟨b, off, none⟩ ∧ c = c' := by injection hv with e1 _ e3; exact ⟨e1, e3⟩
      have HP := hide hp
      obtain ⟨he1, he2⟩ := HE.out p (List.mem_of_getElem? hp)
      obtain ⟨e1, nm⟩ := p
      simp only at he1 he2
      have HR : Hid (wr.rangeAt b (off + k * 2) [.int .i64 nm, .int .i64 e1]) := hr
      have hrr : r < wr.heap.size := lt_of_block H2.out.cell
      have d0 := (H2.out.later ((Below.refl wr.heap.size wr).alloc (Nat.le_refl _) (.cells #[.int .i64 nm, .int .i64 e1] 62 (0, 0)))).cells.1
      clear hp hv hcc hr
      by_cases hnm : nm = name
      · subst hnm
        have hF : leftOf L now nm = e1 - now := by
          have h1 := take_next HP.out
          have h2 : findT L nm = some (e1, nm) := by
            have h3 : findT (L.take (k + 1)) nm = some (e1, nm) := by
              rw [h1]
              unfold findT
              rw [List.find?_append]
              have := HNO.out
              unfold findT at this
              rw [this]
              simp
            have h4 : L = L.take (k + 1) ++ L.drop (k + 1) := (List.take_append_drop _ _).symm
            unfold findT at h3 ⊢
            rw [h4, List.find?_append, h3]
            rfl
          unfold leftOf
          rw [h2]
        have HF := hide hF
        clear hF
        go_wp2_with (refine wpList_load_mid (by rfl) 62 _ (by rfl) b (off + k * 2) (by rfl) _ _ HR.out Try.underlying62 (by rfl) (by kernel_rfl) ?_)
        go_quiet (fail)
        go_wp2
        go_ret
        exact ⟨ret_int (by rw [HF.out]), HB.out.trans (((Below.refl _ _).alloc (Nat.le_refl _) _).trans (below_drewN _ _ _) |>.mono HB.out.size)⟩
      · have hnm2 : (nm == name) = false := by rw [beq_eq_false_iff_ne]; exact hnm
        have HNX : Hid (findT (L.take (k + 1)) name = none) := by
          show _ = _
          rw [take_next HP.out]
          unfold findT
          rw [List.find?_append]
          have := HNO.out
          unfold findT at this
          rw [this]
          simp [hnm]
        clear hnm
        go_wp2_with (refine wpList_load_mid (by rfl) 62 _ (by rfl) b (off + k * 2) (by rfl) _ _ HR.out Try.underlying62 (by rfl) (by kernel_rfl) ?_)
        go_roundw
        case rel => exact ⟨k + 1, by go_num, by omega, HNX.out, HB.out.alloc HB.out.size _⟩
        case measure => simp [intOf]; omega
    · obtain rfl : k = n := by omega
      have hF : leftOf L now name = 0 := by
        have h1 := HNO.out
        rw [List.take_of_length_le (by have := HN.out; omega)] at h1
        unfold leftOf
        rw [h1]
      have HF := hide hF
      clear hF
      go_wp2
      go_ret
      exact ⟨ret_int HF.out.symm, HB.out⟩
end
end Go.Proofs.Ythimdmgimlhbaaa
