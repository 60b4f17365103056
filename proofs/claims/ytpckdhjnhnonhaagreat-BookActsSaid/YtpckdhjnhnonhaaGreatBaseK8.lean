/- Texts merged: ArgO, BkN. -/
import Derived.Test.YtpckdhjnhnonhaaGreatBaseK1
import Derived.Test.YtpckdhjnhnonhaaGreatBaseK2
import Derived.Test.YtpckdhjnhnonhaaGreatBaseK3
import Derived.Test.YtpckdhjnhnonhaaGreatBaseK4
import Derived.Test.YtpckdhjnhnonhaaGreatBaseK5
import Derived.Test.YtpckdhjnhnonhaaGreatBaseK6
import Derived.Test.YtpckdhjnhnonhaaGreatBaseK7
/- From what a row says of operations, and of sagas to be set, that came in to what the walks are told of them. -/
namespace Go.Proofs.YtpckdhjnhnonhaaGreat
open Go.ChangeShapes Go.WideShapes Go.ChangeAt Go.RowKit
instance : Inhabited (OpD × Value) := ⟨(OpD.zero, .slice none 0 0)⟩
section
variable {H : Type} {enc : TypeId × Value → H} {W : World}
set_option maxRecDepth 100000
theorem open_op {n : Nat} {cs : List Value} {x : DataW H × List MemPlace} (h : Rdg enc W n 33 cs x) (hs : Sm 33 x.1) :
    ∃ p : OpD × Value, cs = p.1.cells p.2 ∧ StepsAt (· < W.heap.size) W p.2 p.1.steps ∧ p.1.wf := by
  obtain ⟨m, hl, hf⟩ := open_fields Tryz.underlying33 h hs
  have hl : cs.length = 10 := hl
  match cs, hl with
  | [c0, c1, c2, c3, c4, c5, c6, c7, c8, c9], _ =>
    obtain ⟨y0, g0, s0⟩ := hf 0 _ rfl
    have g0 : Rdg enc W m 3 [c0] y0 := (congrArg (fun q => DataW.trod enc Tryz.prog W 0 (fun _ => true) true m 3 q) (show ([c0, c1, c2, c3, c4, c5, c6, c7, c8, c9].drop 0).take (Tryz.prog.cellsOf 3) = [c0] from by rw [show Tryz.prog.cellsOf 3 = 1 from by kernel_rfl]; rfl)).symm.trans g0
    obtain ⟨a0, e0, w0⟩ := open_int1 Tryz.underlying3 g0
    obtain ⟨y1, g1, s1⟩ := hf 1 _ rfl
    have g1 : Rdg enc W m 3 [c1] y1 := (congrArg (fun q => DataW.trod enc Tryz.prog W 0 (fun _ => true) true m 3 q) (show ([c0, c1, c2, c3, c4, c5, c6, c7, c8, c9].drop 1).take (Tryz.prog.cellsOf 3) = [c1] from by rw [show Tryz.prog.cellsOf 3 = 1 from by kernel_rfl]; rfl)).symm.trans g1
    obtain ⟨a1, e1, w1⟩ := open_int1 Tryz.underlying3 g1
    obtain ⟨y2, g2, s2⟩ := hf 2 _ rfl
    have g2 : Rdg enc W m 3 [c2] y2 := (congrArg (fun q => DataW.trod enc Tryz.prog W 0 (fun _ => true) true m 3 q) (show ([c0, c1, c2, c3, c4, c5, c6, c7, c8, c9].drop 2).take (Tryz.prog.cellsOf 3) = [c2] from by rw [show Tryz.prog.cellsOf 3 = 1 from by kernel_rfl]; rfl)).symm.trans g2
    obtain ⟨a2, e2, w2⟩ := open_int1 Tryz.underlying3 g2
    obtain ⟨y3, g3, s3⟩ := hf 3 _ rfl
    have g3 : Rdg enc W m 31 [c3, c4] y3 := (congrArg (fun q => DataW.trod enc Tryz.prog W 0 (fun _ => true) true m 31 q) (show ([c0, c1, c2, c3, c4, c5, c6, c7, c8, c9].drop 3).take (Tryz.prog.cellsOf 31) = [c3, c4] from by rw [show Tryz.prog.cellsOf 31 = 2 from by kernel_rfl]; rfl)).symm.trans g3
    obtain ⟨nm, v, l, f3, w3, st, wst⟩ := open_def g3 s3
    obtain ⟨y4, g4, s4⟩ := hf 4 _ rfl
    have g4 : Rdg enc W m 3 [c5] y4 := (congrArg (fun q => DataW.trod enc Tryz.prog W 0 (fun _ => true) true m 3 q) (show ([c0, c1, c2, c3, c4, c5, c6, c7, c8, c9].drop 5).take (Tryz.prog.cellsOf 3) = [c5] from by rw [show Tryz.prog.cellsOf 3 = 1 from by kernel_rfl]; rfl)).symm.trans g4
    obtain ⟨a4, e4, w4⟩ := open_int1 Tryz.underlying3 g4
    obtain ⟨y5, g5, s5⟩ := hf 5 _ rfl
    have g5 : Rdg enc W m 3 [c6] y5 := (congrArg (fun q => DataW.trod enc Tryz.prog W 0 (fun _ => true) true m 3 q) (show ([c0, c1, c2, c3, c4, c5, c6, c7, c8, c9].drop 6).take (Tryz.prog.cellsOf 3) = [c6] from by rw [show Tryz.prog.cellsOf 3 = 1 from by kernel_rfl]; rfl)).symm.trans g5
    obtain ⟨a5, e5, w5⟩ := open_int1 Tryz.underlying3 g5
    obtain ⟨y6, g6, s6⟩ := hf 6 _ rfl
    have g6 : Rdg enc W m 3 [c7] y6 := (congrArg (fun q => DataW.trod enc Tryz.prog W 0 (fun _ => true) true m 3 q) (show ([c0, c1, c2, c3, c4, c5, c6, c7, c8, c9].drop 7).take (Tryz.prog.cellsOf 3) = [c7] from by rw [show Tryz.prog.cellsOf 3 = 1 from by kernel_rfl]; rfl)).symm.trans g6
    obtain ⟨a6, e6, w6⟩ := open_int1 Tryz.underlying3 g6
    obtain ⟨y7, g7, s7⟩ := hf 7 _ rfl
    have g7 : Rdg enc W m 4 [c8] y7 := (congrArg (fun q => DataW.trod enc Tryz.prog W 0 (fun _ => true) true m 4 q) (show ([c0, c1, c2, c3, c4, c5, c6, c7, c8, c9].drop 8).take (Tryz.prog.cellsOf 4) = [c8] from by rw [show Tryz.prog.cellsOf 4 = 1 from by kernel_rfl]; rfl)).symm.trans g7
    obtain ⟨a7, e7⟩ := open_bool1 Tryz.underlying4 g7
    obtain ⟨y8, g8, s8⟩ := hf 8 _ rfl
    have g8 : Rdg enc W m 4 [c9] y8 := (congrArg (fun q => DataW.trod enc Tryz.prog W 0 (fun _ => true) true m 4 q) (show ([c0, c1, c2, c3, c4, c5, c6, c7, c8, c9].drop 9).take (Tryz.prog.cellsOf 4) = [c9] from by rw [show Tryz.prog.cellsOf 4 = 1 from by kernel_rfl]; rfl)).symm.trans g8
    obtain ⟨a8, e8⟩ := open_bool1 Tryz.underlying4 g8
    subst e0 e1 e2 e4 e5 e6 e7 e8
    simp only [List.cons.injEq, and_true] at f3
    obtain ⟨rfl, rfl⟩ := f3
    exact ⟨(⟨a0, a1, a2, nm, l, a4, a5, a6, a7, a8⟩, _), rfl, st, w0, w1, w2, w3, wst, w4, w5, w6⟩

theorem open_ops {n : Nat} {v : Value} {x : DataW H × List MemPlace} (h : Rdg enc W n 22 [v] x) (hs : Sm 22 x.1) : ∃ l, OpsAt (· < W.heap.size) W v l ∧ ∀ o ∈ l, o.wf := by
  obtain ⟨ys, h1, h2⟩ := open_elems (fun p : OpD × Value => p.1.cells p.2) (fun p => StepsAt (· < W.heap.size) W p.2 p.1.steps ∧ p.1.wf) 10 (by decide) (fun p => p.1.len p.2) Tryz.underlying22 (by kernel_rfl) (fun n cs x h hs => open_op h hs) (fun y hy => y.1.one (FlatAt.oneCell hy.1)) h hs
  refine ⟨ys.map (·.1), ⟨ys, rfl, h1, fun p hp => (h2 p hp).1⟩, fun o ho => ?_⟩
  obtain ⟨p, hp, rfl⟩ := List.mem_map.1 ho
  exact (h2 p hp).2
theorem arg_ops {A : Option Addr} {len cap : Nat} {d : DataW H} {p : List MemPlace} (h : DataW.Trod enc Tryz.prog W 0 (fun _ => true) true 22 (.slice A len cap) d p) (hs : Sm 22 d) : ∃ l : List OpD, OpsAt (· < W.heap.size) W (.slice A len cap) l ∧ ∀ o ∈ l, o.wf := by
  obtain ⟨fuel, hf⟩ := h
  exact open_ops (n := fuel) (x := (d, p)) hf hs
end
end Go.Proofs.YtpckdhjnhnonhaaGreat
/- BookRoom, as data: what starts and reports of the example's sagas leave. -/
namespace Go.Proofs.YtpckdhjnhnonhaaGreat
open Go.RowKit Go.Maps
def runB : SagaD := ⟨nmB, none, 0, 0, 1, 1, 1, upH 0⟩
def doneB : SagaD := ⟨nmB, none, 0, 0, 3, 0, 0, (upH 0).set 0 true⟩
/-- Such a book: its sagas are the example's, going on or done; so many go on; the last number. -/
structure RoomI (n : Nat) (t : BkS) (la op : Nat) : Prop where
  last : t.last = (la : Int)
  ids : ∀ x ∈ t.L, x.id ≤ (la : Int)
  each : ∀ x ∈ t.L, x.l = lB ∧ (x.s = runB ∨ x.s = doneB)
  count : openN t.L = op
  most : op ≤ n
  len : t.L.length ≤ 32
theorem isOpen_st {x : Ent} (h : x.s = runB ∨ x.s = doneB) : x.isOpen = (x.s.st == 1) ∧ (x.isOpen = false → (x.s.st == 3) = true) ∧ (x.isOpen = true → (x.s.st == 3) = false) := by
  unfold Ent.isOpen
  rcases h with h | h <;> rw [h] <;> simp [runB, doneB]
theorem RoomI.running {n : Nat} {t : BkS} {la op : Nat} (h : RoomI n t la op) : stateN t.L 1 = op := by
  rw [← h.count]
  unfold stateN openN
  refine List.countP_congr fun x hx => ?_
  rw [(isOpen_st (h.each x hx).2).1]
theorem dropE_none {L : List Ent} {id : Int} (h : ∀ x ∈ L, x.id ≠ id) : dropE L id = L := by
  unfold dropE
  rw [List.filter_eq_self]
  intro x hx
  simp [h x hx]
theorem dropE_len : ∀ {L : List Ent} {x : Ent}, RiseE L → x ∈ L → (dropE L x.id).length + 1 = L.length ∧ openN (dropE L x.id) + (if x.isOpen then 1 else 0) = openN L
  | [], _, _, h => by cases h
  | y :: r, x, hr, hx => by
    obtain ⟨h1, h2⟩ := List.pairwise_cons.1 hr
    rcases List.mem_cons.1 hx with rfl | hx
    · have e : dropE (x :: r) x.id = r := by
        unfold dropE
        rw [List.filter_cons_of_neg (by simp)]
        exact dropE_none fun z hz => by have := h1 z hz; omega
      rw [e]
      refine ⟨rfl, ?_⟩
      unfold openN
      rw [List.countP_cons]
    · have ih := dropE_len h2 hx
      have hne := h1 x hx
      have e : dropE (y :: r) x.id = y :: dropE r x.id := by
        unfold dropE
        rw [List.filter_cons_of_pos (by simp; omega)]
      rw [e]
      unfold openN at ih ⊢
      rw [List.countP_cons, List.countP_cons, List.length_cons, List.length_cons]
      omega
theorem roomF_room {L : List Ent} (hr : RiseE L) (hl : L.length ≤ 32) (ho : openN L < 32) : (roomF L).length ≤ 31 ∧ openN (roomF L) = openN L ∧ ∀ x ∈ roomF L, x ∈ L := by
  unfold roomF
  split
  · exact ⟨by omega, rfl, fun _ h => h⟩
  · cases hf : L.find? (fun x => !x.isOpen) with
    | none =>
      exfalso
      have hall : openN L = L.length := by
        unfold openN
        rw [List.countP_eq_length]
        intro x hx
        have := List.find?_eq_none.1 hf x hx
        simpa using this
      omega
    | some x =>
      have hx := List.mem_of_find?_eq_some hf
      have ho2 : x.isOpen = false := by have := List.find?_some hf; simpa using this
      obtain ⟨a1, a2⟩ := dropE_len hr hx
      rw [ho2] at a2
      exact ⟨by simp only; omega, by simpa using a2, fun y hy => dropE_sub y hy⟩
theorem RoomI.start {n : Nat} {t : BkS} {la op : Nat} (h : RoomI n t la op) (hr : RiseE t.L) (hn : n ≤ 32) (ho : op < n) : RoomI n ⟨t.last + 1, putE (newE (t.last + 1) nmB lB) (roomF t.L)⟩ (la + 1) (op + 1) := by
  obtain ⟨a1, a2, a3⟩ := roomF_room hr h.len (by rw [h.count]; omega)
  have hlt : ∀ y ∈ roomF t.L, y.id < (newE (t.last + 1) nmB lB).id := fun y hy => by
    have := h.ids y (a3 y hy)
    have := h.last
    show y.id < t.last + 1
    omega
  have e := putE_last (newE (t.last + 1) nmB lB) hlt
  have hl := h.last
  refine ⟨by show t.last + 1 = _; omega, fun x hx => ?_, fun x hx => ?_, ?_, by omega, ?_⟩
  · rw [e] at hx
    rcases List.mem_append.1 hx with hx | hx
    · have := h.ids x (a3 x hx); omega
    · obtain rfl : x = newE (t.last + 1) nmB lB := by simpa using hx
      show t.last + 1 ≤ _
      omega
  · rw [e] at hx
    rcases List.mem_append.1 hx with hx | hx
    · exact h.each x (a3 x hx)
    · obtain rfl : x = newE (t.last + 1) nmB lB := by simpa using hx
      exact ⟨rfl, .inl rfl⟩
  · simp only [e]
    unfold openN at a2 ⊢
    rw [List.countP_append, a2]
    have := h.count
    unfold openN at this
    rw [this]
    rfl
  · simp only [e]
    rw [List.length_append]
    simp
    omega
end Go.Proofs.YtpckdhjnhnonhaaGreat
