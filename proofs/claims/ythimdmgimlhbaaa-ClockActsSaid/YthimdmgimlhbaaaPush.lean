/- push and remove of package clock. -/
import Derived.Test.YthimdmgimlhbaaaIndex
import Derived.Test.YthimdmgimlhbaaaTurned
import Derived.Test.YthimdmgimlhbaaaLitW
import Derived.IntWalk
namespace Go.Proofs.Ythimdmgimlhbaaa
open Go.RowKit

theorem Try.infoT : (Try.prog.info? 60).map (fun i => (i.zero, i.size, i.bytes)) = some (some (.agg #[.int .i64 0, .int .i64 0]), 2, 16) := by kernel_rfl

/-- The block k of a clock's parts: its ticks, its map, and its heap hs, in a row of its own. -/
structure HeapAt (w : World) (base k : Nat) (now mp hv : Value) (hs : List (Int × Int)) : Prop where
  cell : w.heap[k]? = some (.cells #[now, mp, hv] 58 (0, 0))
  kb : k < base
  bw : base ≤ w.heap.size
  own : w.ownsRow base 60 2 hv hs.length (tcells hs)
  heap : Heap (kf hs) hs.length
  t64 : ∀ x ∈ hs, T64 x
  len : hs.length ≤ 1000
/-- The blocks that may turn. -/
def Foot (k : Nat) (hv : Value) (i : Nat) : Prop := i = k ∨ hv.ownBlock = some i

section
variable {w w' : World} {base k : Nat} {now mp hv : Value} {hs : List (Int × Int)}
theorem HeapAt.kept (h : HeapAt w base k now mp hv hs) (hk : Kept (Foot k hv) w w') : HeapAt w' base k now mp hv hs := by
  refine ⟨(hk.2 k (lt_of_block h.cell) (.inl rfl)).trans h.cell, h.kb, Nat.le_trans h.bw hk.1, ?_, h.heap, h.t64, h.len⟩
  refine ⟨h.own.1, ?_⟩
  rcases h.own.2 with h0 | ⟨g, cap, cur, hv', h1, h2, h3⟩
  · exact .inl h0
  · exact .inr ⟨g, cap, cur, hv', h1, (hk.2 g (lt_of_block h2) (.inr (by rw [hv']; rfl))).trans h2, h3⟩
theorem HeapAt.later (h : HeapAt w base k now mp hv hs) (hb : Below w.heap.size w w') : HeapAt w' base k now mp hv hs := h.kept (Kept.of_below hb _)
end

theorem own_later {w w1 : World} {base e size n : Nat} {v : Value} {xs : List Value} (ho : w.ownsRow base e size v n xs) (hb : Below w.heap.size w w1) : w1.ownsRow base e size v n xs :=
  ho.kept (Went.of_below hb none).1 (by cases h : v.ownBlock <;> simp)
theorem own_place {w : World} {base e size n : Nat} {v : Value} {xs : List Value} (h : w.ownsRow base e size v n xs) (hn : 0 < n) : ∃ g c, v = .slice (some ⟨g, 0, none⟩) n c ∧ base ≤ g ∧ g < w.heap.size ∧ n ≤ c ∧ c ≤ maxLen := by
  rcases h.2 with ⟨_, h0⟩ | ⟨g, cap, cur, hv, hb, hg, hnc, hm, _⟩
  · omega
  · exact ⟨g, cap, hv, hb, lt_of_block hg, hnc, hm⟩
/-- What push leaves. -/
def Pushed (w : World) (base k : Nat) (now mp hv : Value) (hs : List (Int × Int)) (t : Int × Int) (w' : World) : Prop :=
  ∃ hv' hs', HeapAt w' base k now mp hv' hs' ∧ hs'.Perm (hs ++ [t]) ∧ Turned (Foot k hv) w w' ∧ (hv'.ownBlock = hv.ownBlock ∨ ∃ q, hv'.ownBlock = some q ∧ w.heap.size ≤ q)

theorem get_append_lt (l : List (Int × Int)) (t : Int × Int) (k : Nat) (hk : k < l.length) : kf (l ++ [t]) k = kf l k := by
  unfold kf
  rw [List.getD_eq_getElem?_getD, List.getD_eq_getElem?_getD, List.getElem?_append_left hk]

set_option maxHeartbeats 2000000 in
set_option maxRecDepth 100000 in
theorem push_any (base k : Nat) (now mp hv : Value) (hs : List (Int × Int)) (t : Int × Int) (w : World) (h : HeapAt w base k now mp hv hs) (ht : T64 t) (hlen : hs.length < 1000) :
    Calls Try.prog 24 #[.pointer (some ⟨k, 2, none⟩), tagg t] w fun e w' => e = .returned (.tuple #[]) ∧ Pushed w base k now mp hv hs t w' := by
  obtain ⟨i0, hi, hz0, hz1, hz2⟩ := info_parts Try.infoT
  have hkw : k < w.heap.size := lt_of_block h.cell
  have hkb := h.kb
  have hbw := h.bw
  obtain ⟨t1, t2⟩ := t
  have hvs : ∃ A c, hv = .slice A hs.length c ∧ hs.length ≤ c ∧ c ≤ maxLen := by
    rcases h.own.2 with ⟨e, e0⟩ | ⟨g, cap, cur, e, _, _, h1, h2, _⟩
    · exact ⟨none, 0, by rw [e, e0], by omega, by unfold maxLen; omega⟩
    · exact ⟨_, cap, e, h1, h2⟩
  obtain ⟨A, c, rfl, hnc, hcm⟩ := hvs
  unfold maxLen at hcm
  obtain ⟨n, hn⟩ : ∃ n, n = hs.length := ⟨_, rfl⟩
  obtain ⟨m, hm⟩ : ∃ m, m = n + 1 := ⟨_, rfl⟩
  have H := hide h
  have HT := hide ht
  have HI := hide hi
  have HZ0 := hide hz0
  have HZ1 := hide hz1
  have HZ2 := hide hz2
  rw [← hn] at hnc ⊢
  have hn1 : n < 1000 := by omega
  have HN := hide hn
  have HM := hide hm
  have hm1 : (m : Int) - 1 = (n : Int) := by omega
  have HM1 := hide hm1
  have hmn : n < m := by omega
  clear h ht hi hz0 hz1 hz2 hlen hn hm hm1
  unfold tagg
  simp only
  go_enter Try.func24, Try.ntmps24
  go_wp2
  obtain ⟨w1, hw1⟩ : ∃ w1, w1 = w.alloc (.cells #[.int .i64 t1, .int .i64 t2] 60 (0, 0)) := ⟨_, rfl⟩
  have L1 : Hid (Below w.heap.size w w1) := by
    rw [hw1]
    exact (Below.refl _ _).alloc (Nat.le_refl _) _
  have X1 : Hid (w1.heap[w.heap.size]? = some (.cells #[.int .i64 t1, .int .i64 t2] 60 (0, 0))) := by
    rw [hw1]
    exact heap_alloc_new _ _
  have K1 : Hid (w1.heap[k]? = some (.cells #[now, mp, .slice A n c] 58 (0, 0))) := by
    rw [HN.out]
    exact (L1.out.block k hkw).trans H.out.cell
  have O1 : Hid (w1.ownsRow base 60 2 (.slice A n c) n (tcells hs)) := by
    rw [HN.out]
    exact (H.out.later L1.out).own
  rw [← hw1]
  clear hw1
  refine wp_region_S (fun j => j == 6 || j == 8) (by kernel_rfl) ?_
  refine wpAnyS_pure (i := 0) (d := some 4) (v := ?vaa0) rfl rfl (by kernel_rfl) (by kernel_rfl) (by kernel_rfl) (by kernel_rfl) (fun _ _ _ h => h) (by rfl) ?yaa0 ?_
  case yaa0 => (intro w'; go_simp; try (with_reducible rfl))
  simp only [Act.put]; try simp only [List.setIfInBounds_toArray]; try simp only [List.set_cons_zero, List.set_cons_succ]
  refine wpAnyS_take (i := 1) (d := some 5) (v := ?vaa1) rfl rfl (by kernel_rfl) (by kernel_rfl) (by kernel_rfl) (by kernel_rfl) (by kernel_rfl) (fun _ _ _ h => h) (by rfl) ?yaa1 ?_
  case yaa1 => (intro w' hw'; go_simp; try (with_reducible rfl))
  simp only [Act.put]; try simp only [List.setIfInBounds_toArray]; try simp only [List.set_cons_zero, List.set_cons_succ]
  refine wpAnyS_take (i := 2) (d := some 6) (v := ?vaa2) rfl rfl (by kernel_rfl) (by kernel_rfl) (by kernel_rfl) (by kernel_rfl) (by kernel_rfl) (fun _ _ _ h => h) (by rfl) ?yaa2 ?_
  case yaa2 => (intro w' hw'; go_simp; try (with_reducible rfl))
  simp only [Act.put]; try simp only [List.setIfInBounds_toArray]; try simp only [List.set_cons_zero, List.set_cons_succ]
  refine wpAnyS_take (i := 3) (d := some 7) (v := ?vaa3) rfl rfl (by kernel_rfl) (by kernel_rfl) (by kernel_rfl) (by kernel_rfl) (by kernel_rfl) (fun _ _ _ h => h) (by rfl) ?yaa3 ?_
  case yaa3 => (intro w' hw'; have hc : w'.heap[k]? = _ := (Below.block hw' k (by have := L1.out.size; show k < w1.heap.size; omega)).trans K1.out; have hc2 := cell_of_row w' k 2 _ _ _ hc; simp only [List.getElem?_toArray, List.getElem?_cons_zero, List.getElem?_cons_succ] at hc2; clear hc; go_simp; try (with_reducible rfl))
  simp only [Act.put]; try simp only [List.setIfInBounds_toArray]; try simp only [List.set_cons_zero, List.set_cons_succ]
  refine wpAnyS_take (i := 4) (d := some 8) (v := .agg #[.int .i64 t1, .int .i64 t2]) rfl rfl (by kernel_rfl) (by kernel_rfl) (by kernel_rfl) (by kernel_rfl) (by kernel_rfl) (fun _ _ _ h => h) (by rfl) ?yaa4 ?_
  case yaa4 => (intro w' hw'; exact exec_load_box 60 _ (by rfl) w.heap.size 0 (by rfl) 60 _ ((Below.block hw' w.heap.size (lt_of_block X1.out)).trans X1.out) 2 _ Try.underlying60 (by rfl) (by kernel_rfl) (tcell (t1, t2)) (by rfl) (by rfl))
  simp only [Act.put]; try simp only [List.setIfInBounds_toArray]; try simp only [List.set_cons_zero, List.set_cons_succ]
  refine wpAnyS_only (i := 5) rfl (by kernel_rfl) (by rfl) fun K hK => ?_
  refine wp_buildSlice_one 56 60 _ (by rfl) i0 _ 2 Try.underlying56 HI.out HZ0.out HZ1.out (by omega) (by omega) #[.int .i64 t1, .int .i64 t2] (by rfl) (by rfl) ?_
  obtain ⟨w2, hw2⟩ : ∃ w2, w2 = w1.drew.alloc (.cells #[.int .i64 t1, .int .i64 t2] 60 (0, 0)) := ⟨_, rfl⟩
  have L2 : Hid (Below w1.heap.size w1 w2) := by rw [hw2]; exact (Below.refl w1.heap.size w1).drew.alloc (Nat.le_refl _) _
  have F2 : Hid (FlatAt (fun _ => True) w2 2 (.slice (some ⟨w1.heap.size, 0, none⟩) 1 1) 1 (tcell (t1, t2))) := by rw [hw2]; exact flat_one w1.drew 60 2 #[.int .i64 t1, .int .i64 t2] (by rfl) (by simp [Value.oneCell']) _ trivial
  have hw2' : Later w1.drew w2 := by rw [hw2]; exact (Below.refl _ _).alloc (Nat.le_refl _) _
  rw [← hw2]
  refine hK.out _ _ hw2' ?_
  clear hw2 hw2'
  clear hK K
  try (simp only [Act.put]; try simp only [List.setIfInBounds_toArray]; try simp only [List.set_cons_zero, List.set_cons_succ])
  refine wpAnyS_write (i := 6) rfl rfl (by kernel_rfl) (by rfl) fun K hK => ?_
  refine wp_append_flat _ _ 56 (by rfl) base 60 i0 _ 2 16 Try.underlying56 HI.out HZ0.out HZ1.out HZ2.out (by rfl) (by omega) (.slice A n c) n (tcells hs) (by rfl) (own_later O1.out L2.out) w1.heap.size 1 1 (tcell (t1, t2)) (by rfl) _ F2.out (by omega) (by unfold maxLen; omega) (by omega) (by have := L1.out.size; have := L2.out.size; omega) ?_
  intro v3 w3 ho3 hg3 ha3
  rw [← HM.out] at ho3
  obtain ⟨g3, c3, rfl, hb3, hs3, hc3, hm3⟩ := own_place ho3 (by omega)
  have HA3 : Hid (some g3 = Value.ownBlock (.slice A n c) ∨ ∃ q, some g3 = some q ∧ w.heap.size ≤ q) := by
    rcases ha3 with e | e
    · exact .inl e
    · exact .inr ⟨_, e, by have := L1.out.size; have := L2.out.size; omega⟩
  have HG3 := hide hg3
  have R3 : Hid (TRow w3 base g3 m c3 (hs ++ [(t1, t2)])) := by
    show World.ownsRow _ _ _ _ _ _ _
    rw [tcells_append, tcells_single]
    exact ho3
  have K3 : Hid (w3.heap[k]? = some (.cells #[now, mp, .slice A n c] 58 (0, 0))) := by
    show _ = _
    rw [hg3.block k (by have := L1.out.size; have := L2.out.size; omega) ?_, L2.out.block k (by have := L1.out.size; omega)]
    · exact K1.out
    · intro e; have := (own_later O1.out L2.out).lt k e.symm; omega
  unfold maxLen at hm3
  clear ho3 hg3 ha3
  refine hK.out _ _ ?_
  clear hK K
  try (simp only [Act.put]; try simp only [List.setIfInBounds_toArray]; try simp only [List.set_cons_zero, List.set_cons_succ])
  refine wpAnyS_pure (i := 7) (d := some 11) (v := ?vaa7) rfl rfl (by kernel_rfl) (by kernel_rfl) (by kernel_rfl) (by kernel_rfl) (fun _ _ _ h => h) (by rfl) ?yaa7 ?_
  case yaa7 => (intro w'; go_simp; try (with_reducible rfl))
  simp only [Act.put]; try simp only [List.setIfInBounds_toArray]; try simp only [List.set_cons_zero, List.set_cons_succ]
  refine wpAnyS_write (i := 8) rfl rfl (by kernel_rfl) (by rfl) fun K hK => ?_
  have hc2 := cell_of_row w3 k 2 _ _ _ K3.out
  have hf2 := frozen_of_row w3 k 2 _ _ K3.out
  simp only [List.getElem?_toArray, List.getElem?_cons_zero, List.getElem?_cons_succ] at hc2
  go_simp
  refine hK.out _ _ ?_
  clear hc2 hf2
  clear hK K
  try simp only [Act.put]
  refine wpAnyS_done (by kernel_rfl) ?_ _
  obtain ⟨w4, hw4⟩ : ∃ w4, w4 = w3.setCell ⟨k, 2, none⟩ (.slice (some ⟨g3, 0, none⟩) m c3) := ⟨_, rfl⟩
  have T4 : Hid (Turned (Foot k (.slice A n c)) w w4) := by
    rw [hw4]
    have a1 : Turned (Foot k (.slice A n c)) w w3 := (Turned.of_below L1.out _).trans ((Turned.of_below L2.out _).trans (Turned.of_grown HG3.out fun g e => .inr e))
    exact a1.trans (Turned.of_grown (grown_set w3 k 2 _) fun g e => .inl (Option.some.inj e).symm)
  have K4 : Hid (w4.heap[k]? = some (.cells #[now, mp, .slice (some ⟨g3, 0, none⟩) m c3] 58 (0, 0))) := by
    rw [hw4]
    exact heap_setCell_same w3 k 2 _ _ _ K3.out
  have R4 : Hid (TRow w4 base g3 m c3 (hs ++ [(t1, t2)])) := by
    rw [hw4]
    exact R3.out.kept (heap_setCell_other _ _ _ _ (by show g3 ≠ k; have := R3.out.lt; omega))
  rw [← hw4]
  clear hw4
  have hup : Up (kf (hs ++ [(t1, t2)])) m n n := by
    rw [HM.out]
    refine Heap.push (Heap.congr (f := kf hs) (by rw [HN.out]; exact H.out.heap) fun j hj => get_append_lt hs _ j (by have := HN.out; omega))
  have CR := hide (fun w' (hr : TRow w' base g3 m c3 (hs ++ [(t1, t2)])) => rise_any base g3 m c3 n (hs ++ [(t1, t2)]) w' hr hmn (by have := HM.out; omega) (fun x hx => by
    rcases List.mem_append.1 hx with hx | hx
    · exact H.out.t64 x hx
    · rw [List.mem_singleton.1 hx]; exact HT.out) hup)
  clear hup
  have hm1 := HM1.out
  have hwr : IntKind.i64.wrap (n : Int) = (n : Int) := IntWalk.i64_in _ (by omega)
  go_wp2
  refine wp_region_S (fun j => j == 8) (by kernel_rfl) ?_
  refine wpAnyS_take (i := 0) (d := some 12) (v := ?vab0) rfl rfl (by kernel_rfl) (by kernel_rfl) (by kernel_rfl) (by kernel_rfl) (by kernel_rfl) (fun _ _ _ h => h) (by rfl) ?yab0 ?_
  case yab0 => (intro w' hw'; go_simp; try (with_reducible rfl))
  simp only [Act.put]; try simp only [List.setIfInBounds_toArray]; try simp only [List.set_cons_zero, List.set_cons_succ]
  refine wpAnyS_take (i := 1) (d := some 13) (v := ?vab1) rfl rfl (by kernel_rfl) (by kernel_rfl) (by kernel_rfl) (by kernel_rfl) (by kernel_rfl) (fun _ _ _ h => h) (by rfl) ?yab1 ?_
  case yab1 => (intro w' hw'; go_simp; try (with_reducible rfl))
  simp only [Act.put]; try simp only [List.setIfInBounds_toArray]; try simp only [List.set_cons_zero, List.set_cons_succ]
  refine wpAnyS_take (i := 2) (d := some 14) (v := ?vab2) rfl rfl (by kernel_rfl) (by kernel_rfl) (by kernel_rfl) (by kernel_rfl) (by kernel_rfl) (fun _ _ _ h => h) (by rfl) ?yab2 ?_
  case yab2 => (intro w' hw'; have hc : w'.heap[k]? = _ := (Below.block hw' k (lt_of_block K4.out)).trans K4.out; have hc2 := cell_of_row w' k 2 _ _ _ hc; simp only [List.getElem?_toArray, List.getElem?_cons_zero, List.getElem?_cons_succ] at hc2; clear hc; go_simp; try (with_reducible rfl))
  simp only [Act.put]; try simp only [List.setIfInBounds_toArray]; try simp only [List.set_cons_zero, List.set_cons_succ]
  refine wpAnyS_take (i := 3) (d := some 15) (v := ?vab3) rfl rfl (by kernel_rfl) (by kernel_rfl) (by kernel_rfl) (by kernel_rfl) (by kernel_rfl) (fun _ _ _ h => h) (by rfl) ?yab3 ?_
  case yab3 => (intro w' hw'; go_simp; try (with_reducible rfl))
  simp only [Act.put]; try simp only [List.setIfInBounds_toArray]; try simp only [List.set_cons_zero, List.set_cons_succ]
  refine wpAnyS_take (i := 4) (d := some 16) (v := ?vab4) rfl rfl (by kernel_rfl) (by kernel_rfl) (by kernel_rfl) (by kernel_rfl) (by kernel_rfl) (fun _ _ _ h => h) (by rfl) ?yab4 ?_
  case yab4 => (intro w' hw'; go_simp; try (with_reducible rfl))
  simp only [Act.put]; try simp only [List.setIfInBounds_toArray]; try simp only [List.set_cons_zero, List.set_cons_succ]
  refine wpAnyS_take (i := 5) (d := some 17) (v := ?vab5) rfl rfl (by kernel_rfl) (by kernel_rfl) (by kernel_rfl) (by kernel_rfl) (by kernel_rfl) (fun _ _ _ h => h) (by rfl) ?yab5 ?_
  case yab5 => (intro w' hw'; have hc : w'.heap[k]? = _ := (Below.block hw' k (lt_of_block K4.out)).trans K4.out; have hc2 := cell_of_row w' k 2 _ _ _ hc; simp only [List.getElem?_toArray, List.getElem?_cons_zero, List.getElem?_cons_succ] at hc2; clear hc; go_simp; try (with_reducible rfl))
  simp only [Act.put]; try simp only [List.setIfInBounds_toArray]; try simp only [List.set_cons_zero, List.set_cons_succ]
  refine wpAnyS_take (i := 6) (d := some 18) (v := ?vab6) rfl rfl (by kernel_rfl) (by kernel_rfl) (by kernel_rfl) (by kernel_rfl) (by kernel_rfl) (fun _ _ _ h => h) (by rfl) ?yab6 ?_
  case yab6 => (intro w' hw'; go_simp; try (with_reducible rfl))
  simp only [Act.put]; try simp only [List.setIfInBounds_toArray]; try simp only [List.set_cons_zero, List.set_cons_succ]
  refine wpAnyS_take (i := 7) (d := some 19) (v := .int .i64 (n : Int)) rfl rfl (by kernel_rfl) (by kernel_rfl) (by kernel_rfl) (by kernel_rfl) (by kernel_rfl) (fun _ _ _ h => h) (by rfl) ?yab7 ?_
  case yab7 => (intro w' hw'; go_simp; try (with_reducible rfl))
  simp only [Act.put]; try simp only [List.setIfInBounds_toArray]; try simp only [List.set_cons_zero, List.set_cons_succ]
  refine wpAnyS_write (i := 8) rfl rfl (by kernel_rfl) (by rfl) fun K hK => ?_
  go_simp
  refine (CR.out _ R4.out.drew).mono ?_
  rintro e w5 ⟨rfl, hr5⟩
  have HR5 := hide hr5
  clear hr5
  refine hK.out _ _ ?_
  clear hK K
  try (simp only [Act.put]; try simp only [List.setIfInBounds_toArray]; try simp only [List.set_cons_zero, List.set_cons_succ])
  refine wpAnyS_done (by kernel_rfl) ?_ _
  go_wp2
  go_end0
  obtain ⟨l', hl', hd⟩ := HR5.out
  have hlen : l'.length = m := hl'.row.len
  refine ⟨rfl, .slice (some ⟨g3, 0, none⟩) m c3, l', ⟨(hl'.grown.block k (lt_of_block K4.out) (by have := R4.out.lt; intro e; have := Option.some.inj e; omega)).trans K4.out, hkb, Nat.le_trans hbw (Nat.le_trans T4.out.size hl'.grown.size), ?_, ?_, fun x hx => ?_, by have := HM.out; omega⟩, hl'.perm, ?_, ?_⟩
  · rw [hlen]
    exact hl'.row
  · rw [hlen, HM.out]
    rw [HM.out] at hd
    exact hd.last
  · rcases List.mem_append.1 (hl'.perm.mem_iff.1 hx) with hx | hx
    · exact H.out.t64 x hx
    · rw [List.mem_singleton.1 hx]; exact HT.out
  · exact T4.out.onto (T := fun i => i = g3) (Turned.of_grown (grown_of_drew hl'.grown) fun g e => (Option.some.inj e).symm) (fun i hi => by
      subst hi
      rcases HA3.out with e | ⟨q, e, hq⟩
      · exact .inl (.inr e.symm)
      · injection e with e
        subst e
        exact .inr hq)
  · exact HA3.out.imp id fun ⟨q, e, hq⟩ => ⟨q, e, hq⟩
end Go.Proofs.Ythimdmgimlhbaaa
