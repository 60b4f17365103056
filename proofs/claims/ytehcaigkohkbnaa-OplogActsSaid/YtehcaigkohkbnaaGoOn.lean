/- goOn of package oplog: other operations behind the first ones; Cut, Join. -/
import Derived.Test.YtehcaigkohkbnaaLogPut
namespace Go.Proofs.Ytehcaigkohkbnaa
open Go.RowKit

section
variable {S F : Nat → Prop} {l k base c : Nat} {v : Value} {ps : List (OpD × Value)}
/-- What goOn leaves. -/
def WentOn (S : Nat → Prop) (w : World) (k : Nat) (ps : List (OpD × Value)) (m : Nat) (qs : List (OpD × Value)) (c : Nat) (e : Ending) (w' : World) : Prop :=
  ∃ base' v' rs, e = .returned (.tuple #[]) ∧ rs.map (·.1) = qs.map (·.1) ∧ PartsAt (Grows S w w') w' k base' v' (ps.take m ++ rs) c ∧ Turned (fun i => i = k) w w'

set_option maxHeartbeats 2000000 in
set_option maxRecDepth 100000 in
theorem goon_any (m : Nat) (v2 : Value) (qs : List (OpD × Value)) (w : World) (h : PartsAt S w k base v ps c) (hm : m ≤ ps.length) (hq : OpsIn F w v2 qs) (hsm : ∀ q ∈ qs, q.1.steps.length ≤ 1000000) (hl : m + qs.length ≤ 2000) (hc : c ≤ m + qs.length) :
    Calls Try.prog 61 #[.pointer (some ⟨k, 0, none⟩), .int .i64 (m : Int), v2] w (WentOn S w k ps m qs c) := by
  have C1 : Hid (Calls Try.prog 60 #[.pointer (some ⟨k, 0, none⟩), .int .i64 0, .int .i64 (m : Int)] w _) := hide (part_any 0 m w h (by omega) hm)
  have C2 := hide (copies_own F qs v2 w hq (by omega) hsm)
  obtain ⟨A2, c2, rfl, _, _, _⟩ := hq.1.shape
  have HP := hide h
  have HSM := hide hsm
  have hkw : k < w.heap.size := lt_of_block h.kept
  clear h hq hsm
  go_enter Try.func61, Try.ntmps61
  go_wp2_with (fail)
  refine C1.out.mono ?_
  rintro e w0 ⟨v1, rfl, ho1, rfl⟩
  obtain ⟨A1, c1, rfl, _, _, _⟩ := ho1.1.shape
  have HO1 := hide ho1
  clear ho1 C1
  go_wp2_with (fail)
  refine C2.out.mono ?_
  rintro e w1 ⟨v3, rs, rfl, hsame, hfree, hown, hb⟩
  obtain ⟨A3, c3, rfl, _, _, _⟩ := hfree.ops.1.shape
  have HF := hide hfree
  have HB := hide hb
  have HS := hide hsame
  have hrl : rs.length = qs.length := by have := congrArg List.length hsame; simpa using this
  clear hfree hb hsame hown C2
  go_wp2_with (fail)
  have e1 : (ps.take m).length = m := by simp; omega
  have hfl1 : FlatAt (fun _ => True) w 10 (.slice A1 m c1) m (opcells (ps.take m)) := by
    have := HO1.out.1
    rw [List.drop_zero, e1] at this
    exact this.mono fun _ _ _ => trivial
  have hfl3 : FlatAt (fun _ => True) w1 10 (.slice A3 qs.length c3) qs.length (opcells rs) := by
    have := HF.out.ops.1
    rw [hrl] at this
    exact this.mono fun _ _ _ => trivial
  have hB2 : Below w1.heap.size w1 (w1.alloc (.cells #[.slice A1 m c1, .slice A3 qs.length c3] 39 (0, 0))) := (Below.refl _ _).alloc (Nat.le_refl _) _
  refine (concat_two (fun _ => True) w1.heap.size m qs.length _ _ _ _ _ (heap_alloc_new w1 _) ((hfl1.kept (Kept.of_below HB.out _)).kept (Kept.of_below hB2 _)) (hfl3.kept (Kept.of_below hB2 _)) (by omega) (by omega)).mono ?_
  rintro e w3 ⟨v4, rfl, hown, hb3⟩
  obtain ⟨A4, c4, rfl, _⟩ := own_slice hown
  have hsz1 := HB.out.size
  have hsz2 : (w1.alloc (.cells #[.slice A1 m c1, .slice A3 qs.length c3] 39 (0, 0))).heap.size = w1.heap.size + 1 := by simp
  have hsz3 := hb3.size
  have T13 : Hid (∀ i, i < w1.heap.size → w3.heap[i]? = w1.heap[i]?) := fun i hi => (hb3.block i (by omega)).trans (heap_alloc_old _ _ hi)
  have T3 : Hid (∀ i, i < w.heap.size → w3.heap[i]? = w.heap[i]?) := fun i hi => (T13.out i (by omega)).trans (HB.out.block i hi)
  have HO4 := hide hown
  have X3 : Hid (w3.heap[k]? = some (.cells #[v, .int .i64 (c : Int)] 104 (0, 0))) := (T3.out k hkw).trans HP.out.kept
  have k3 := cell_of_row w3 k 0 _ _ _ X3.out
  have f3 := frozen_of_row w3 k 0 _ _ X3.out
  simp only [List.getElem?_toArray, List.getElem?_cons_zero] at k3
  have hnew4 : ∀ q, (Value.slice A4 (m + qs.length) c4).ownBlock = some q → w1.heap.size + 1 ≤ q := fun q e => by have := (hown.lt q e).1; omega
  have HN4 := hide hnew4
  have HOS : Hid (w1.os = w.os ∧ w1.tape = w.tape ∧ w1.output = w.output) := ⟨HB.out.os, HB.out.tape, HB.out.output⟩
  have HOS3 : Hid (w3.os = w1.os ∧ w3.tape = w1.tape ∧ w3.output = w1.output) := ⟨hb3.os, hb3.tape, hb3.output⟩
  clear hfl1 hfl3 hB2 hown hb3 hnew4
  go_wp2
  go_end0
  have HT4 : ∀ i, i < w.heap.size → i ≠ k → some i ≠ v.ownBlock → (w3.setCell ⟨k, 0, none⟩ (.slice A4 (m + qs.length) c4)).heap[i]? = w.heap[i]? := fun i hi e1 _ => (heap_setCell_other _ _ _ _ e1).trans (T3.out i hi)
  have hsz4 : (w3.setCell ⟨k, 0, none⟩ (.slice A4 (m + qs.length) c4)).heap.size = w3.heap.size := by simp [World.setCell]
  have hlen : (ps.take m ++ rs).length = m + qs.length := by rw [List.length_append, e1, hrl]
  have hmem : ∀ r ∈ rs, r.1.steps.length ≤ 1000000 := fun r hr => by
    have h1 : r.1 ∈ qs.map (·.1) := by rw [← HS.out]; exact List.mem_map_of_mem hr
    obtain ⟨q, hq, e⟩ := List.mem_map.1 h1
    rw [← e]
    exact HSM.out q hq
  refine ⟨_, _, rs, rfl, HS.out, HP.out.put (heap_setCell_same w3 k 0 _ _ _ X3.out) (base' := (w1.alloc (.cells #[.slice A1 m c1, .slice A3 qs.length c3] 39 (0, 0))).heap.size) ?_ ?_ (fun q e => .inr (by have := HN4.out q e; omega)) (by omega) (by omega) ?_ (by omega), ?_⟩
  · rw [hlen, opcells_append]
    exact own_kept HO4.out fun q hq => heap_setCell_other _ _ _ _ (show q ≠ k from by have := HN4.out q hq; omega)
  · intro q hq
    rcases List.mem_append.1 hq with hq | hq
    · exact HP.out.old_steps HT4 (by omega) (fun q e => .inr (by have := HN4.out q e; omega)) q (List.mem_of_mem_take hq)
    · have h1 : StepsAt (fun i => (w.heap.size ≤ i ∧ i < w1.heap.size) ∧ i ≠ k ∧ some i ≠ (Value.slice A4 (m + qs.length) c4).ownBlock) w1 q.2 q.1.steps := (HF.out.ops.2 q hq).mono fun i hi hf => by
        have hf' : w.heap.size ≤ i := hf
        exact ⟨⟨hf', hi⟩, by omega, fun e => by have := HN4.out i e.symm; omega⟩
      exact (h1.kept ⟨by omega, fun i hi hf => (heap_setCell_other _ _ _ _ hf.2.1).trans (T13.out i hi)⟩).mono fun i _ hf => ⟨.inr ⟨hf.1.1, by omega⟩, hf.2⟩
  · intro p hp
    rcases List.mem_append.1 hp with hp | hp
    · exact HP.out.small p (List.mem_of_mem_take hp)
    · exact hmem p hp
  · obtain ⟨o1, o2, o3⟩ := HOS.out
    obtain ⟨p1, p2, p3⟩ := HOS3.out
    exact ⟨p1.trans o1, p2.trans o2, p3.trans o3, by omega, fun i hi hn => (heap_setCell_other _ _ _ _ hn).trans (T3.out i hi)⟩

/-- What Cut, Join and Replace leave, where they change the log. -/
def Changed (S : Nat → Prop) (w : World) (l : Nat) (L : List OpD) (c : Nat) (e : Ending) (w' : World) : Prop :=
  ∃ k base v qs, e = .returned (.int .i64 0) ∧ qs.map (·.1) = L ∧ LogAt (Grows S w w') w' l k base v qs c ∧ Turned S w w'

theorem err_no_cut (p : Value) (n : Int) (w : World) (h : NoLog w p) : Calls Try.prog 33 #[p, .int .i64 n] w fun e w' => e = .returned (.int .i64 1) ∧ w = w' := by
  have C := hide (made_no p w h)
  have hp : ∃ a, p = .pointer a := by rcases h with rfl | ⟨g, rfl, _⟩ <;> exact ⟨_, rfl⟩
  obtain ⟨a, rfl⟩ := hp
  clear h
  go_enter Try.func33, Try.ntmps33
  go_wp2_with (fail)
  refine C.out.mono ?_
  rintro e w1 ⟨rfl, rfl⟩
  go_wp2
  go_ret
  exact ⟨rfl, rfl⟩
theorem err_no_join (p : Value) (n : Int) (A : Option Addr) (m cp : Nat) (w : World) (h : NoLog w p) : Calls Try.prog 35 #[p, .int .i64 n, .slice A m cp] w fun e w' => e = .returned (.int .i64 1) ∧ w = w' := by
  have C := hide (made_no p w h)
  have hp : ∃ a, p = .pointer a := by rcases h with rfl | ⟨g, rfl, _⟩ <;> exact ⟨_, rfl⟩
  obtain ⟨a, rfl⟩ := hp
  clear h
  go_enter Try.func35, Try.ntmps35
  go_wp2_with (fail)
  refine C.out.mono ?_
  rintro e w1 ⟨rfl, rfl⟩
  go_wp2
  go_ret
  exact ⟨rfl, rfl⟩

theorem cut_arg (n : Int) (w : World) (h : LogAt S w l k base v ps c) (hn : n < c) :
    Calls Try.prog 33 #[.pointer (some ⟨l, 0, none⟩), .int .i64 n] w fun e w' => e = .returned (.int .i64 2) ∧ w = w' := by
  have C := hide (made_yes w h)
  have c0 := h.lcell
  obtain ⟨k0, k1, _, _⟩ := h.parts.cells
  clear h
  go_enter Try.func33, Try.ntmps33
  go_wp2_with (fail)
  refine C.out.mono ?_
  rintro e w1 ⟨rfl, rfl⟩
  go_wp2
  go_ret
  exact ⟨rfl, rfl⟩
theorem cut_all (n : Int) (w : World) (h : LogAt S w l k base v ps c) (hn : (ps.length : Int) ≤ n) :
    Calls Try.prog 33 #[.pointer (some ⟨l, 0, none⟩), .int .i64 n] w fun e w' => e = .returned (.int .i64 0) ∧ w = w' := by
  have C := hide (made_yes w h)
  have c0 := h.lcell
  obtain ⟨A, cp, rfl, h1, h2⟩ := h.parts.shape
  obtain ⟨k0, k1, _, _⟩ := h.parts.cells
  have hcn := h.parts.com
  clear h
  go_enter Try.func33, Try.ntmps33
  go_wp2_with (fail)
  refine C.out.mono ?_
  rintro e w1 ⟨rfl, rfl⟩
  go_wp2
  go_ret
  exact ⟨rfl, rfl⟩
set_option maxHeartbeats 1000000 in
theorem cut_yes (n : Nat) (w : World) (h : LogAt S w l k base v ps c) (hc : c ≤ n) (hn : n < ps.length) :
    Calls Try.prog 33 #[.pointer (some ⟨l, 0, none⟩), .int .i64 (n : Int)] w (Changed S w l ((ps.map (·.1)).take n) c) := by
  have C := hide (made_yes w h)
  have c0 := h.lcell
  have hl := h.parts.len
  obtain ⟨A, cp, rfl, h1, h2⟩ := h.parts.shape
  have C2 := hide (goon_any (F := fun _ => True) n (.slice none 0 0) [] w h.parts (by omega) ⟨FlatAt.nil_ _ w 10, by simp⟩ (by simp) (by simp; omega) (by simp; omega))
  obtain ⟨k0, k1, _, _⟩ := h.parts.cells
  have H := hide h
  clear h
  go_enter Try.func33, Try.ntmps33
  go_wp2_with (fail)
  refine C.out.mono ?_
  rintro e w1 ⟨rfl, rfl⟩
  go_wp2_with (fail)
  refine C2.out.mono ?_
  rintro e w1 ⟨base', v', rs, rfl, hrs, hp, ht⟩
  have HP := hide hp
  have HT := hide ht
  have HRS := hide hrs
  clear hp ht hrs C2
  go_wp2
  go_ret
  exact ⟨k, base', v', _, rfl, by rw [List.map_append, HRS.out, List.map_take]; simp, H.out.put (HT.out.block l (lt_of_block H.out.cell) H.out.ne) HP.out, HT.out.mono fun i e => by rw [e]; exact H.out.parts.inn.1⟩

theorem join_arg (n : Int) (A : Option Addr) (m cp : Nat) (w : World) (h : LogAt S w l k base v ps c) (hn : n < c ∨ (ps.length : Int) < n) :
    Calls Try.prog 35 #[.pointer (some ⟨l, 0, none⟩), .int .i64 n, .slice A m cp] w fun e w' => e = .returned (.int .i64 2) ∧ w = w' := by
  have C := hide (made_yes w h)
  have c0 := h.lcell
  obtain ⟨A', cp', rfl, h1, h2⟩ := h.parts.shape
  obtain ⟨k0, k1, _, _⟩ := h.parts.cells
  clear h
  by_cases h3 : n < c
  · clear hn
    go_enter Try.func35, Try.ntmps35
    go_wp2_with (fail)
    refine C.out.mono ?_
    rintro e w1 ⟨rfl, rfl⟩
    go_wp2
    go_ret
    exact ⟨rfl, rfl⟩
  · have h4 : (ps.length : Int) < n := by omega
    clear hn
    go_enter Try.func35, Try.ntmps35
    go_wp2_with (fail)
    refine C.out.mono ?_
    rintro e w1 ⟨rfl, rfl⟩
    go_wp2
    go_ret
    exact ⟨rfl, rfl⟩
theorem join_full (n : Nat) (A : Option Addr) (m cp : Nat) (w : World) (h : LogAt S w l k base v ps c) (hc : c ≤ n) (hn : n ≤ ps.length) (hm : 2000 < n + m) :
    Calls Try.prog 35 #[.pointer (some ⟨l, 0, none⟩), .int .i64 (n : Int), .slice A m cp] w fun e w' => e = .returned (.int .i64 7) ∧ w = w' := by
  have C := hide (made_yes w h)
  have c0 := h.lcell
  have hl := h.parts.len
  obtain ⟨A', cp', rfl, h1, h2⟩ := h.parts.shape
  obtain ⟨k0, k1, _, _⟩ := h.parts.cells
  clear h
  go_enter Try.func35, Try.ntmps35
  go_wp2_with (fail)
  refine C.out.mono ?_
  rintro e w1 ⟨rfl, rfl⟩
  go_wp2
  go_ret
  exact ⟨rfl, rfl⟩
set_option maxHeartbeats 1000000 in
theorem join_yes (n : Nat) (v2 : Value) (qs : List (OpD × Value)) (w : World) (h : LogAt S w l k base v ps c) (hc : c ≤ n) (hn : n ≤ ps.length) (hq : OpsIn F w v2 qs) (hsm : ∀ q ∈ qs, q.1.steps.length ≤ 1000000) (hm : n + qs.length ≤ 2000) :
    Calls Try.prog 35 #[.pointer (some ⟨l, 0, none⟩), .int .i64 (n : Int), v2] w (Changed S w l ((ps.map (·.1)).take n ++ qs.map (·.1)) c) := by
  have C := hide (made_yes w h)
  have c0 := h.lcell
  have hl := h.parts.len
  obtain ⟨A, cp, rfl, h1, h2⟩ := h.parts.shape
  have C2 := hide (goon_any n v2 qs w h.parts hn hq hsm hm (by omega))
  obtain ⟨A2, cp2, rfl, _, _, _⟩ := hq.1.shape
  obtain ⟨k0, k1, _, _⟩ := h.parts.cells
  have H := hide h
  clear h hq hsm
  go_enter Try.func35, Try.ntmps35
  go_wp2_with (fail)
  refine C.out.mono ?_
  rintro e w1 ⟨rfl, rfl⟩
  go_wp2_with (fail)
  refine C2.out.mono ?_
  rintro e w1 ⟨base', v', rs, rfl, hrs, hp, ht⟩
  have HP := hide hp
  have HT := hide ht
  have HRS := hide hrs
  clear hp ht hrs C2
  go_wp2
  go_ret
  exact ⟨k, base', v', _, rfl, by rw [List.map_append, HRS.out, List.map_take], H.out.put (HT.out.block l (lt_of_block H.out.cell) H.out.ne) HP.out, HT.out.mono fun i e => by rw [e]; exact H.out.parts.inn.1⟩
end
end Go.Proofs.Ytehcaigkohkbnaa
