/- From what a row says of steps, operations and messages that came in to what the walks are told of them. -/
import Derived.Test.YtaimnhlpdkpobaaMsgs
import Derived.Test.YtaimnhlpdkpobaaRows
import Derived.Deep.Slices
import Derived.ChangeArms
import Derived.SizedLaws
import Derived.ShutString
import Derived.ProofKit
import Derived.OpenShut
namespace Go.Proofs.Ytaimnhlpdkpobaa
open Go.RowKit

/-- No string and no slice in the datum is too long. -/
def Sm {H : Type} (t : TypeId) (d : DataW H) : Prop := ∀ n ∈ d.weights Try.prog t, n ≤ reachBytes
theorem weights_mem_all {H : Type} {P : Program} {e : TypeId} {d : DataW H} : ∀ {l : List (DataW H)}, d ∈ l → ∀ n ∈ d.weights P e, n ∈ DataW.weightsAll P e l
  | [], h, _, _ => by cases h
  | y :: r, h, n, hn => by
    simp only [DataW.weightsAll, List.mem_append]
    rcases List.mem_cons.1 h with rfl | h
    · exact .inl hn
    · exact .inr (weights_mem_all h n hn)

section
variable {H : Type} {enc : TypeId × Value → H} {W : World}
/-- The reading of an argument. -/
abbrev Rd (enc : TypeId × Value → H) (W : World) (n : Nat) (t : TypeId) (cs : List Value) (x : DataW H × List MemPlace) : Prop := DataW.trod enc Try.prog W 0 (fun _ => true) true n t cs = some x

/-- A struct's fields. -/
theorem open_fields {t : TypeId} {fs : Array Field} {n : Nat} {cs : List Value} {x : DataW H × List MemPlace} (ht : Try.prog.underlying t = some (.struct fs)) (h : Rd enc W n t cs x) (hs : Sm t x.1) :
    ∃ m, cs.length = Try.prog.cellsOf t ∧ ∀ (i : Nat) (f : Field), fs[i]? = some f → ∃ y, Rd enc W m f.type ((cs.drop f.offset).take (Try.prog.cellsOf f.type)) y ∧ Sm f.type y.1 := by
  obtain ⟨xs, m, _, hx, hl, hxl, hf⟩ := DataW.trod_struct ht h
  refine ⟨m, hl, fun i f hi => ?_⟩
  have hil : i < xs.length := by rw [hxl]; exact (Array.getElem?_eq_some_iff.1 hi).1
  refine ⟨xs[i], (hf i f hi).trans (List.getElem?_eq_getElem hil), fun k hk => hs k ?_⟩
  rw [hx]
  simp only [DataW.weights, ht]
  exact DataW.weights_mem_each (j := i) (t := f.type) (d := xs[i].1) (by simp [hi]) (by simp [hil]) k hk
theorem open_int1 {t : TypeId} {n : Nat} {c : Value} {x : DataW H × List MemPlace} (ht : Try.prog.underlying t = some (.int .i64)) (h : Rd enc W n t [c] x) : ∃ a : Int, c = .int .i64 a ∧ I64 a := by
  obtain ⟨a, h0, _, w0⟩ := DataW.trod_int ht h
  have b0 := bounds_i64 w0
  simp only [List.cons.injEq, and_true] at h0
  exact ⟨a, h0, by unfold I64; omega⟩
theorem open_bool1 {t : TypeId} {n : Nat} {c : Value} {x : DataW H × List MemPlace} (ht : Try.prog.underlying t = some .bool) (h : Rd enc W n t [c] x) : ∃ a : Bool, c = .bool a := by
  obtain ⟨a, h0, _⟩ := DataW.trod_bool ht h
  simp only [List.cons.injEq, and_true] at h0
  exact ⟨a, h0⟩
theorem open_str1 {t : TypeId} {n : Nat} {c : Value} {x : DataW H × List MemPlace} (ht : Try.prog.underlying t = some .string) (h : Rd enc W n t [c] x) (hs : Sm t x.1) : ∃ s : ByteArray, c = .string s ∧ s.size ≤ 140737488355328 := by
  obtain ⟨s, h0, h1, _⟩ := DataW.trod_string ht h
  simp only [List.cons.injEq, and_true] at h0
  refine ⟨s, h0, ?_⟩
  have := hs s.data.toList.length (by rw [h1]; simp [DataW.weights])
  unfold reachBytes at this
  rw [Array.length_toList] at this
  show s.data.size ≤ _
  omega

/-- The elements of a slice. -/
theorem open_elems {α : Type} [Inhabited α] (cells : α → List Value) (good : α → Prop) {t e : TypeId} (k : Nat) (hk : 0 < k) (hck : ∀ y, (cells y).length = k) (ht : Try.prog.underlying t = some (.slice e)) (hc : Try.prog.cellsOf e = k)
    (hel : ∀ (n : Nat) (cs : List Value) (x : DataW H × List MemPlace), Rd enc W n e cs x → Sm e x.1 → ∃ y : α, cs = cells y ∧ good y) (hone : ∀ y, good y → ∀ u ∈ cells y, u.oneCell' = true)
    {n : Nat} {v : Value} {x : DataW H × List MemPlace} (h : Rd enc W n t [v] x) (hs : Sm t x.1) :
    ∃ ys : List α, FlatAt (· < W.heap.size) W k v ys.length (ys.flatMap cells) ∧ ∀ y ∈ ys, good y := by
  rcases Go.Deep.open_slice ht h with ⟨hcs, _⟩ | ⟨a, l, c, m, n', D, Pl, hcs, _, hl, hm, hmm, hx, hi⟩
  · obtain rfl : v = .slice none 0 0 := by simpa using hcs
    exact ⟨[], FlatAt.nil_ _ _ _, by simp⟩
  · obtain rfl : v = .slice (some a) l c := by simpa using hcs
    simp only [if_true] at hmm
    rw [hc] at hi
    obtain ⟨F, hF⟩ := Go.Deep.choose_lt (p := fun i (y : α) => (∀ j u, (cells y)[j]? = some u → W.cell? (a.add (i * k + j)) = some u) ∧ good y) fun i (hil : i < l) => by
      obtain ⟨cs', h1, h2⟩ := hi i (by omega)
      have hsm : Sm e (D i) := fun q hq => hs q (by
        rw [hx]
        simp only [DataW.weights, ht]
        exact List.mem_cons_of_mem _ (List.mem_append_left _ (weights_mem_all (List.mem_map.2 ⟨i, List.mem_range.2 hil, rfl⟩) q hq)))
      obtain ⟨y, hy, hg⟩ := hel n' cs' (D i, Pl i) h2 hsm
      obtain ⟨_, hlen, hat⟩ := World.cells?_some h1
      refine ⟨y, fun j u hu => ?_, hg⟩
      have hj : j < k := by rw [← hck y]; exact (List.getElem?_eq_some_iff.1 hu).1
      rw [← Go.Deep.add_add, hat j hj, hy, hu]
    refine ⟨(List.range l).map F, ⟨?_, ?_, some a, c, by simp, by simpa using hl, hm, (fun e => by cases e), fun hn => ?_⟩, fun y hy => ?_⟩
    · exact flat_len cells k _ (fun y _ => hck y)
    · intro u hu
      obtain ⟨y, hy, hu⟩ := List.mem_flatMap.1 hu
      obtain ⟨i, hi, rfl⟩ := List.mem_map.1 hy
      exact hone _ (hF i (List.mem_range.1 hi)).2 u hu
    · have hn' : 0 < l := by simpa using hn
      obtain ⟨b, off, spot⟩ := a
      have hk0 : (cells (F 0))[0]? = some ((cells (F 0))[0]'(by rw [hck]; exact hk)) := List.getElem?_eq_getElem (by rw [hck]; exact hk)
      have h0 := (hF 0 hn').1 0 _ hk0
      have hspot : spot = none := by simpa [Addr.add] using World.cell?_spot h0
      subst hspot
      have hblt : b < W.heap.size := World.block_lt_of_cell? W _ (by simpa [Addr.add] using h0)
      refine ⟨b, off, rfl, hblt, hblt, fun j u hj => ?_⟩
      have hjl : j < l * k := by
        have := (List.getElem?_eq_some_iff.1 hj).1
        rw [flat_len cells k _ (fun y _ => hck y)] at this
        simpa using this
      have hq : j / k < l := Nat.div_lt_of_lt_mul (by rwa [Nat.mul_comm])
      have hr : j % k < k := Nat.mod_lt _ hk
      have hj2 : j = j / k * k + j % k := by rw [Nat.mul_comm]; exact (Nat.div_add_mod j k).symm
      have hge := flat_get cells k ((List.range l).map F) (j / k) (F (j / k)) (fun y _ => hck y) (by simp [hq])
      have hu : (cells (F (j / k)))[j % k]? = some u := by
        rw [← hge, List.getElem?_take_of_lt hr, List.getElem?_drop, ← hj2, hj]
      have := (hF (j / k) hq).1 (j % k) u hu
      rwa [Addr.add_lit, ← hj2] at this
    · obtain ⟨i, hi, rfl⟩ := List.mem_map.1 hy
      exact (hF i (List.mem_range.1 hi)).2
end

instance : Inhabited StepD := ⟨⟨⟨#[]⟩, 0, 0, 0, false, false⟩⟩
instance : Inhabited (OpD × Value) := ⟨⟨.zero, .slice none 0 0⟩⟩
section
variable {H : Type} {enc : TypeId × Value → H} {W : World}
set_option maxRecDepth 100000

theorem open_step {n : Nat} {cs : List Value} {x : DataW H × List MemPlace} (h : Rd enc W n 93 cs x) (hs : Sm 93 x.1) :
    ∃ s : StepD, cs = s.cells ∧ s.wf := by
  obtain ⟨m, hl, hf⟩ := open_fields Try.underlying93 h hs
  have hl : cs.length = 6 := hl
  match cs, hl with
  | [c0, c1, c2, c3, c4, c5], _ =>
    obtain ⟨y0, g0, s0⟩ := hf 0 _ rfl
    have g0 : Rd enc W m 9 [c0] y0 := (congrArg (fun q => DataW.trod enc Try.prog W 0 (fun _ => true) true m 9 q) (show ([c0, c1, c2, c3, c4, c5].drop 0).take (Try.prog.cellsOf 9) = [c0] from by rw [show Try.prog.cellsOf 9 = 1 from by kernel_rfl]; rfl)).symm.trans g0
    obtain ⟨a0, e0, w0⟩ := open_str1 Try.underlying9 g0 s0
    obtain ⟨y1, g1, s1⟩ := hf 1 _ rfl
    have g1 : Rd enc W m 3 [c1] y1 := (congrArg (fun q => DataW.trod enc Try.prog W 0 (fun _ => true) true m 3 q) (show ([c0, c1, c2, c3, c4, c5].drop 1).take (Try.prog.cellsOf 3) = [c1] from by rw [show Try.prog.cellsOf 3 = 1 from by kernel_rfl]; rfl)).symm.trans g1
    obtain ⟨a1, e1, w1⟩ := open_int1 Try.underlying3 g1
    obtain ⟨y2, g2, s2⟩ := hf 2 _ rfl
    have g2 : Rd enc W m 3 [c2] y2 := (congrArg (fun q => DataW.trod enc Try.prog W 0 (fun _ => true) true m 3 q) (show ([c0, c1, c2, c3, c4, c5].drop 2).take (Try.prog.cellsOf 3) = [c2] from by rw [show Try.prog.cellsOf 3 = 1 from by kernel_rfl]; rfl)).symm.trans g2
    obtain ⟨a2, e2, w2⟩ := open_int1 Try.underlying3 g2
    obtain ⟨y3, g3, s3⟩ := hf 3 _ rfl
    have g3 : Rd enc W m 3 [c3] y3 := (congrArg (fun q => DataW.trod enc Try.prog W 0 (fun _ => true) true m 3 q) (show ([c0, c1, c2, c3, c4, c5].drop 3).take (Try.prog.cellsOf 3) = [c3] from by rw [show Try.prog.cellsOf 3 = 1 from by kernel_rfl]; rfl)).symm.trans g3
    obtain ⟨a3, e3, w3⟩ := open_int1 Try.underlying3 g3
    obtain ⟨y4, g4, s4⟩ := hf 4 _ rfl
    have g4 : Rd enc W m 4 [c4] y4 := (congrArg (fun q => DataW.trod enc Try.prog W 0 (fun _ => true) true m 4 q) (show ([c0, c1, c2, c3, c4, c5].drop 4).take (Try.prog.cellsOf 4) = [c4] from by rw [show Try.prog.cellsOf 4 = 1 from by kernel_rfl]; rfl)).symm.trans g4
    obtain ⟨a4, e4⟩ := open_bool1 Try.underlying4 g4
    obtain ⟨y5, g5, s5⟩ := hf 5 _ rfl
    have g5 : Rd enc W m 4 [c5] y5 := (congrArg (fun q => DataW.trod enc Try.prog W 0 (fun _ => true) true m 4 q) (show ([c0, c1, c2, c3, c4, c5].drop 5).take (Try.prog.cellsOf 4) = [c5] from by rw [show Try.prog.cellsOf 4 = 1 from by kernel_rfl]; rfl)).symm.trans g5
    obtain ⟨a5, e5⟩ := open_bool1 Try.underlying4 g5
    subst e0 e1 e2 e3 e4 e5
    exact ⟨⟨a0, a1, a2, a3, a4, a5⟩, rfl, w0, w1, w2, w3⟩

theorem open_steps {n : Nat} {v : Value} {x : DataW H × List MemPlace} (h : Rd enc W n 29 [v] x) (hs : Sm 29 x.1) : ∃ l, StepsAt (· < W.heap.size) W v l ∧ ∀ s ∈ l, s.wf := by
  obtain ⟨ys, h1, h2⟩ := open_elems StepD.cells StepD.wf 6 (by decide) StepD.len Try.underlying29 (by kernel_rfl) (fun n cs x h hs => open_step h hs) (fun y _ => y.one) h hs
  exact ⟨ys, h1, h2⟩

theorem open_def {n : Nat} {cs : List Value} {x : DataW H × List MemPlace} (h : Rd enc W n 31 cs x) (hs : Sm 31 x.1) :
    ∃ (nm : ByteArray) (v : Value) (l : List StepD), cs = [.string nm, v] ∧ nm.size ≤ 140737488355328 ∧ StepsAt (· < W.heap.size) W v l ∧ ∀ s ∈ l, s.wf := by
  obtain ⟨m, hl, hf⟩ := open_fields Try.underlying31 h hs
  have hl : cs.length = 2 := hl
  match cs, hl with
  | [c0, c1], _ =>
    obtain ⟨y0, g0, s0⟩ := hf 0 _ rfl
    have g0 : Rd enc W m 9 [c0] y0 := (congrArg (fun q => DataW.trod enc Try.prog W 0 (fun _ => true) true m 9 q) (show ([c0, c1].drop 0).take (Try.prog.cellsOf 9) = [c0] from by rw [show Try.prog.cellsOf 9 = 1 from by kernel_rfl]; rfl)).symm.trans g0
    obtain ⟨a0, e0, w0⟩ := open_str1 Try.underlying9 g0 s0
    obtain ⟨y1, g1, s1⟩ := hf 1 _ rfl
    have g1 : Rd enc W m 29 [c1] y1 := (congrArg (fun q => DataW.trod enc Try.prog W 0 (fun _ => true) true m 29 q) (show ([c0, c1].drop 1).take (Try.prog.cellsOf 29) = [c1] from by rw [show Try.prog.cellsOf 29 = 1 from by kernel_rfl]; rfl)).symm.trans g1
    obtain ⟨l, hl1, hl2⟩ := open_steps g1 s1
    subst e0
    exact ⟨a0, _, l, rfl, w0, hl1, hl2⟩

theorem open_op {n : Nat} {cs : List Value} {x : DataW H × List MemPlace} (h : Rd enc W n 33 cs x) (hs : Sm 33 x.1) :
    ∃ p : OpD × Value, cs = p.1.cells p.2 ∧ StepsAt (· < W.heap.size) W p.2 p.1.steps ∧ p.1.wf := by
  obtain ⟨m, hl, hf⟩ := open_fields Try.underlying33 h hs
  have hl : cs.length = 10 := hl
  match cs, hl with
  | [c0, c1, c2, c3, c4, c5, c6, c7, c8, c9], _ =>
    obtain ⟨y0, g0, s0⟩ := hf 0 _ rfl
    have g0 : Rd enc W m 3 [c0] y0 := (congrArg (fun q => DataW.trod enc Try.prog W 0 (fun _ => true) true m 3 q) (show ([c0, c1, c2, c3, c4, c5, c6, c7, c8, c9].drop 0).take (Try.prog.cellsOf 3) = [c0] from by rw [show Try.prog.cellsOf 3 = 1 from by kernel_rfl]; rfl)).symm.trans g0
    obtain ⟨a0, e0, w0⟩ := open_int1 Try.underlying3 g0
    obtain ⟨y1, g1, s1⟩ := hf 1 _ rfl
    have g1 : Rd enc W m 3 [c1] y1 := (congrArg (fun q => DataW.trod enc Try.prog W 0 (fun _ => true) true m 3 q) (show ([c0, c1, c2, c3, c4, c5, c6, c7, c8, c9].drop 1).take (Try.prog.cellsOf 3) = [c1] from by rw [show Try.prog.cellsOf 3 = 1 from by kernel_rfl]; rfl)).symm.trans g1
    obtain ⟨a1, e1, w1⟩ := open_int1 Try.underlying3 g1
    obtain ⟨y2, g2, s2⟩ := hf 2 _ rfl
    have g2 : Rd enc W m 3 [c2] y2 := (congrArg (fun q => DataW.trod enc Try.prog W 0 (fun _ => true) true m 3 q) (show ([c0, c1, c2, c3, c4, c5, c6, c7, c8, c9].drop 2).take (Try.prog.cellsOf 3) = [c2] from by rw [show Try.prog.cellsOf 3 = 1 from by kernel_rfl]; rfl)).symm.trans g2
    obtain ⟨a2, e2, w2⟩ := open_int1 Try.underlying3 g2
    obtain ⟨y3, g3, s3⟩ := hf 3 _ rfl
    have g3 : Rd enc W m 31 [c3, c4] y3 := (congrArg (fun q => DataW.trod enc Try.prog W 0 (fun _ => true) true m 31 q) (show ([c0, c1, c2, c3, c4, c5, c6, c7, c8, c9].drop 3).take (Try.prog.cellsOf 31) = [c3, c4] from by rw [show Try.prog.cellsOf 31 = 2 from by kernel_rfl]; rfl)).symm.trans g3
    obtain ⟨nm, v, l, f3, w3, st, wst⟩ := open_def g3 s3
    obtain ⟨y4, g4, s4⟩ := hf 4 _ rfl
    have g4 : Rd enc W m 3 [c5] y4 := (congrArg (fun q => DataW.trod enc Try.prog W 0 (fun _ => true) true m 3 q) (show ([c0, c1, c2, c3, c4, c5, c6, c7, c8, c9].drop 5).take (Try.prog.cellsOf 3) = [c5] from by rw [show Try.prog.cellsOf 3 = 1 from by kernel_rfl]; rfl)).symm.trans g4
    obtain ⟨a4, e4, w4⟩ := open_int1 Try.underlying3 g4
    obtain ⟨y5, g5, s5⟩ := hf 5 _ rfl
    have g5 : Rd enc W m 3 [c6] y5 := (congrArg (fun q => DataW.trod enc Try.prog W 0 (fun _ => true) true m 3 q) (show ([c0, c1, c2, c3, c4, c5, c6, c7, c8, c9].drop 6).take (Try.prog.cellsOf 3) = [c6] from by rw [show Try.prog.cellsOf 3 = 1 from by kernel_rfl]; rfl)).symm.trans g5
    obtain ⟨a5, e5, w5⟩ := open_int1 Try.underlying3 g5
    obtain ⟨y6, g6, s6⟩ := hf 6 _ rfl
    have g6 : Rd enc W m 3 [c7] y6 := (congrArg (fun q => DataW.trod enc Try.prog W 0 (fun _ => true) true m 3 q) (show ([c0, c1, c2, c3, c4, c5, c6, c7, c8, c9].drop 7).take (Try.prog.cellsOf 3) = [c7] from by rw [show Try.prog.cellsOf 3 = 1 from by kernel_rfl]; rfl)).symm.trans g6
    obtain ⟨a6, e6, w6⟩ := open_int1 Try.underlying3 g6
    obtain ⟨y7, g7, s7⟩ := hf 7 _ rfl
    have g7 : Rd enc W m 4 [c8] y7 := (congrArg (fun q => DataW.trod enc Try.prog W 0 (fun _ => true) true m 4 q) (show ([c0, c1, c2, c3, c4, c5, c6, c7, c8, c9].drop 8).take (Try.prog.cellsOf 4) = [c8] from by rw [show Try.prog.cellsOf 4 = 1 from by kernel_rfl]; rfl)).symm.trans g7
    obtain ⟨a7, e7⟩ := open_bool1 Try.underlying4 g7
    obtain ⟨y8, g8, s8⟩ := hf 8 _ rfl
    have g8 : Rd enc W m 4 [c9] y8 := (congrArg (fun q => DataW.trod enc Try.prog W 0 (fun _ => true) true m 4 q) (show ([c0, c1, c2, c3, c4, c5, c6, c7, c8, c9].drop 9).take (Try.prog.cellsOf 4) = [c9] from by rw [show Try.prog.cellsOf 4 = 1 from by kernel_rfl]; rfl)).symm.trans g8
    obtain ⟨a8, e8⟩ := open_bool1 Try.underlying4 g8
    subst e0 e1 e2 e4 e5 e6 e7 e8
    simp only [List.cons.injEq, and_true] at f3
    obtain ⟨rfl, rfl⟩ := f3
    exact ⟨(⟨a0, a1, a2, nm, l, a4, a5, a6, a7, a8⟩, _), rfl, st, w0, w1, w2, w3, wst, w4, w5, w6⟩

theorem open_ops {n : Nat} {v : Value} {x : DataW H × List MemPlace} (h : Rd enc W n 39 [v] x) (hs : Sm 39 x.1) : ∃ l, OpsAt (· < W.heap.size) W v l ∧ ∀ o ∈ l, o.wf := by
  obtain ⟨ys, h1, h2⟩ := open_elems (fun p : OpD × Value => p.1.cells p.2) (fun p => StepsAt (· < W.heap.size) W p.2 p.1.steps ∧ p.1.wf) 10 (by decide) (fun p => p.1.len p.2) Try.underlying39 (by kernel_rfl) (fun n cs x h hs => open_op h hs) (fun y hy => y.1.one (FlatAt.oneCell hy.1)) h hs
  refine ⟨ys.map (·.1), ⟨ys, rfl, h1, fun p hp => (h2 p hp).1⟩, fun o ho => ?_⟩
  obtain ⟨p, hp, rfl⟩ := List.mem_map.1 ho
  exact (h2 p hp).2
theorem open_incs {n : Nat} {v : Value} {x : DataW H × List MemPlace} (h : Rd enc W n 40 [v] x) (hs : Sm 40 x.1) : ∃ l, IncsAt (· < W.heap.size) W v l ∧ ∀ a ∈ l, I64 a := by
  obtain ⟨ys, h1, h2⟩ := open_elems (fun a : Int => [.int .i64 a]) I64 1 (by decide) (fun _ => rfl) Try.underlying40 (by kernel_rfl) (fun n cs x h hs => by
    obtain ⟨a, h0, _, w0⟩ := DataW.trod_int Try.underlying3 h
    have b0 := bounds_i64 w0
    exact ⟨a, h0, by unfold I64; omega⟩) (fun y _ u hu => by obtain rfl : u = .int .i64 y := by simpa using hu
                                                             rfl) h hs
  refine ⟨ys, ?_, h2⟩
  unfold IncsAt
  rw [List.map_eq_flatMap]
  exact h1

theorem open_reply {n : Nat} {cs : List Value} {x : DataW H × List MemPlace} (h : Rd enc W n 36 cs x) (hs : Sm 36 x.1) :
    ∃ a b c d : Int, cs = [.int .i64 a, .int .i64 b, .int .i64 c, .int .i64 d] ∧ I64 a ∧ I64 b ∧ I64 c ∧ I64 d := by
  obtain ⟨m, hl, hf⟩ := open_fields Try.underlying36 h hs
  have hl : cs.length = 4 := hl
  match cs, hl with
  | [c0, c1, c2, c3], _ =>
    obtain ⟨y0, g0, s0⟩ := hf 0 _ rfl
    have g0 : Rd enc W m 34 [c0] y0 := (congrArg (fun q => DataW.trod enc Try.prog W 0 (fun _ => true) true m 34 q) (show ([c0, c1, c2, c3].drop 0).take (Try.prog.cellsOf 34) = [c0] from by rw [show Try.prog.cellsOf 34 = 1 from by kernel_rfl]; rfl)).symm.trans g0
    obtain ⟨a0, e0, w0⟩ := open_int1 Try.underlying34 g0
    obtain ⟨y1, g1, s1⟩ := hf 1 _ rfl
    have g1 : Rd enc W m 3 [c1] y1 := (congrArg (fun q => DataW.trod enc Try.prog W 0 (fun _ => true) true m 3 q) (show ([c0, c1, c2, c3].drop 1).take (Try.prog.cellsOf 3) = [c1] from by rw [show Try.prog.cellsOf 3 = 1 from by kernel_rfl]; rfl)).symm.trans g1
    obtain ⟨a1, e1, w1⟩ := open_int1 Try.underlying3 g1
    obtain ⟨y2, g2, s2⟩ := hf 2 _ rfl
    have g2 : Rd enc W m 3 [c2] y2 := (congrArg (fun q => DataW.trod enc Try.prog W 0 (fun _ => true) true m 3 q) (show ([c0, c1, c2, c3].drop 2).take (Try.prog.cellsOf 3) = [c2] from by rw [show Try.prog.cellsOf 3 = 1 from by kernel_rfl]; rfl)).symm.trans g2
    obtain ⟨a2, e2, w2⟩ := open_int1 Try.underlying3 g2
    obtain ⟨y3, g3, s3⟩ := hf 3 _ rfl
    have g3 : Rd enc W m 3 [c3] y3 := (congrArg (fun q => DataW.trod enc Try.prog W 0 (fun _ => true) true m 3 q) (show ([c0, c1, c2, c3].drop 3).take (Try.prog.cellsOf 3) = [c3] from by rw [show Try.prog.cellsOf 3 = 1 from by kernel_rfl]; rfl)).symm.trans g3
    obtain ⟨a3, e3, w3⟩ := open_int1 Try.underlying3 g3
    subst e0 e1 e2 e3
    exact ⟨a0, a1, a2, a3, rfl, w0, w1, w2, w3⟩

theorem open_command {n : Nat} {cs : List Value} {x : DataW H × List MemPlace} (h : Rd enc W n 38 cs x) (hs : Sm 38 x.1) :
    ∃ (a b c d e : Int) (f : Bool), cs = [.int .i64 a, .int .i64 b, .int .i64 c, .int .i64 d, .int .i64 e, .bool f] ∧ I64 a ∧ I64 b ∧ I64 c ∧ I64 d ∧ I64 e := by
  obtain ⟨m, hl, hf⟩ := open_fields Try.underlying38 h hs
  have hl : cs.length = 6 := hl
  match cs, hl with
  | [c0, c1, c2, c3, c4, c5], _ =>
    obtain ⟨y0, g0, s0⟩ := hf 0 _ rfl
    have g0 : Rd enc W m 3 [c0] y0 := (congrArg (fun q => DataW.trod enc Try.prog W 0 (fun _ => true) true m 3 q) (show ([c0, c1, c2, c3, c4, c5].drop 0).take (Try.prog.cellsOf 3) = [c0] from by rw [show Try.prog.cellsOf 3 = 1 from by kernel_rfl]; rfl)).symm.trans g0
    obtain ⟨a0, e0, w0⟩ := open_int1 Try.underlying3 g0
    obtain ⟨y1, g1, s1⟩ := hf 1 _ rfl
    have g1 : Rd enc W m 3 [c1] y1 := (congrArg (fun q => DataW.trod enc Try.prog W 0 (fun _ => true) true m 3 q) (show ([c0, c1, c2, c3, c4, c5].drop 1).take (Try.prog.cellsOf 3) = [c1] from by rw [show Try.prog.cellsOf 3 = 1 from by kernel_rfl]; rfl)).symm.trans g1
    obtain ⟨a1, e1, w1⟩ := open_int1 Try.underlying3 g1
    obtain ⟨y2, g2, s2⟩ := hf 2 _ rfl
    have g2 : Rd enc W m 3 [c2] y2 := (congrArg (fun q => DataW.trod enc Try.prog W 0 (fun _ => true) true m 3 q) (show ([c0, c1, c2, c3, c4, c5].drop 2).take (Try.prog.cellsOf 3) = [c2] from by rw [show Try.prog.cellsOf 3 = 1 from by kernel_rfl]; rfl)).symm.trans g2
    obtain ⟨a2, e2, w2⟩ := open_int1 Try.underlying3 g2
    obtain ⟨y3, g3, s3⟩ := hf 3 _ rfl
    have g3 : Rd enc W m 3 [c3] y3 := (congrArg (fun q => DataW.trod enc Try.prog W 0 (fun _ => true) true m 3 q) (show ([c0, c1, c2, c3, c4, c5].drop 3).take (Try.prog.cellsOf 3) = [c3] from by rw [show Try.prog.cellsOf 3 = 1 from by kernel_rfl]; rfl)).symm.trans g3
    obtain ⟨a3, e3, w3⟩ := open_int1 Try.underlying3 g3
    obtain ⟨y4, g4, s4⟩ := hf 4 _ rfl
    have g4 : Rd enc W m 3 [c4] y4 := (congrArg (fun q => DataW.trod enc Try.prog W 0 (fun _ => true) true m 3 q) (show ([c0, c1, c2, c3, c4, c5].drop 4).take (Try.prog.cellsOf 3) = [c4] from by rw [show Try.prog.cellsOf 3 = 1 from by kernel_rfl]; rfl)).symm.trans g4
    obtain ⟨a4, e4, w4⟩ := open_int1 Try.underlying3 g4
    obtain ⟨y5, g5, s5⟩ := hf 5 _ rfl
    have g5 : Rd enc W m 4 [c5] y5 := (congrArg (fun q => DataW.trod enc Try.prog W 0 (fun _ => true) true m 4 q) (show ([c0, c1, c2, c3, c4, c5].drop 5).take (Try.prog.cellsOf 4) = [c5] from by rw [show Try.prog.cellsOf 4 = 1 from by kernel_rfl]; rfl)).symm.trans g5
    obtain ⟨a5, e5⟩ := open_bool1 Try.underlying4 g5
    subst e0 e1 e2 e3 e4 e5
    exact ⟨a0, a1, a2, a3, a4, a5, rfl, w0, w1, w2, w3, w4⟩

theorem open_msg {n : Nat} {cs : List Value} {x : DataW H × List MemPlace} (h : Rd enc W n 42 cs x) (hs : Sm 42 x.1) :
    ∃ (m : MsgD) (s o i : Value), cs = m.cells s o i ∧ Lists (· < W.heap.size) W m s o i ∧ m.wf := by
  obtain ⟨m, hl, hf⟩ := open_fields Try.underlying42 h hs
  have hl : cs.length = 34 := hl
  rcases cs with _ | ⟨c0, cs⟩
  · simp at hl
  rcases cs with _ | ⟨c1, cs⟩
  · simp at hl
  rcases cs with _ | ⟨c2, cs⟩
  · simp at hl
  rcases cs with _ | ⟨c3, cs⟩
  · simp at hl
  rcases cs with _ | ⟨c4, cs⟩
  · simp at hl
  rcases cs with _ | ⟨c5, cs⟩
  · simp at hl
  rcases cs with _ | ⟨c6, cs⟩
  · simp at hl
  rcases cs with _ | ⟨c7, cs⟩
  · simp at hl
  rcases cs with _ | ⟨c8, cs⟩
  · simp at hl
  rcases cs with _ | ⟨c9, cs⟩
  · simp at hl
  rcases cs with _ | ⟨c10, cs⟩
  · simp at hl
  rcases cs with _ | ⟨c11, cs⟩
  · simp at hl
  rcases cs with _ | ⟨c12, cs⟩
  · simp at hl
  rcases cs with _ | ⟨c13, cs⟩
  · simp at hl
  rcases cs with _ | ⟨c14, cs⟩
  · simp at hl
  rcases cs with _ | ⟨c15, cs⟩
  · simp at hl
  rcases cs with _ | ⟨c16, cs⟩
  · simp at hl
  rcases cs with _ | ⟨c17, cs⟩
  · simp at hl
  rcases cs with _ | ⟨c18, cs⟩
  · simp at hl
  rcases cs with _ | ⟨c19, cs⟩
  · simp at hl
  rcases cs with _ | ⟨c20, cs⟩
  · simp at hl
  rcases cs with _ | ⟨c21, cs⟩
  · simp at hl
  rcases cs with _ | ⟨c22, cs⟩
  · simp at hl
  rcases cs with _ | ⟨c23, cs⟩
  · simp at hl
  rcases cs with _ | ⟨c24, cs⟩
  · simp at hl
  rcases cs with _ | ⟨c25, cs⟩
  · simp at hl
  rcases cs with _ | ⟨c26, cs⟩
  · simp at hl
  rcases cs with _ | ⟨c27, cs⟩
  · simp at hl
  rcases cs with _ | ⟨c28, cs⟩
  · simp at hl
  rcases cs with _ | ⟨c29, cs⟩
  · simp at hl
  rcases cs with _ | ⟨c30, cs⟩
  · simp at hl
  rcases cs with _ | ⟨c31, cs⟩
  · simp at hl
  rcases cs with _ | ⟨c32, cs⟩
  · simp at hl
  rcases cs with _ | ⟨c33, cs⟩
  · simp at hl
  obtain rfl : cs = [] := List.eq_nil_of_length_eq_zero (by simp only [List.length_cons] at hl; omega)
  · skip
    obtain ⟨y0, g0, s0⟩ := hf 0 _ rfl
    have g0 : Rd enc W m 3 [c0] y0 := (congrArg (fun q => DataW.trod enc Try.prog W 0 (fun _ => true) true m 3 q) (show ([c0, c1, c2, c3, c4, c5, c6, c7, c8, c9, c10, c11, c12, c13, c14, c15, c16, c17, c18, c19, c20, c21, c22, c23, c24, c25, c26, c27, c28, c29, c30, c31, c32, c33].drop 0).take (Try.prog.cellsOf 3) = [c0] from by rw [show Try.prog.cellsOf 3 = 1 from by kernel_rfl]; rfl)).symm.trans g0
    obtain ⟨a0, e0, w0⟩ := open_int1 Try.underlying3 g0
    obtain ⟨y1, g1, s1⟩ := hf 1 _ rfl
    have g1 : Rd enc W m 3 [c1] y1 := (congrArg (fun q => DataW.trod enc Try.prog W 0 (fun _ => true) true m 3 q) (show ([c0, c1, c2, c3, c4, c5, c6, c7, c8, c9, c10, c11, c12, c13, c14, c15, c16, c17, c18, c19, c20, c21, c22, c23, c24, c25, c26, c27, c28, c29, c30, c31, c32, c33].drop 1).take (Try.prog.cellsOf 3) = [c1] from by rw [show Try.prog.cellsOf 3 = 1 from by kernel_rfl]; rfl)).symm.trans g1
    obtain ⟨a1, e1, w1⟩ := open_int1 Try.underlying3 g1
    obtain ⟨y2, g2, s2⟩ := hf 2 _ rfl
    have g2 : Rd enc W m 3 [c2] y2 := (congrArg (fun q => DataW.trod enc Try.prog W 0 (fun _ => true) true m 3 q) (show ([c0, c1, c2, c3, c4, c5, c6, c7, c8, c9, c10, c11, c12, c13, c14, c15, c16, c17, c18, c19, c20, c21, c22, c23, c24, c25, c26, c27, c28, c29, c30, c31, c32, c33].drop 2).take (Try.prog.cellsOf 3) = [c2] from by rw [show Try.prog.cellsOf 3 = 1 from by kernel_rfl]; rfl)).symm.trans g2
    obtain ⟨a2, e2, w2⟩ := open_int1 Try.underlying3 g2
    obtain ⟨y3, g3, s3⟩ := hf 3 _ rfl
    have g3 : Rd enc W m 3 [c3] y3 := (congrArg (fun q => DataW.trod enc Try.prog W 0 (fun _ => true) true m 3 q) (show ([c0, c1, c2, c3, c4, c5, c6, c7, c8, c9, c10, c11, c12, c13, c14, c15, c16, c17, c18, c19, c20, c21, c22, c23, c24, c25, c26, c27, c28, c29, c30, c31, c32, c33].drop 3).take (Try.prog.cellsOf 3) = [c3] from by rw [show Try.prog.cellsOf 3 = 1 from by kernel_rfl]; rfl)).symm.trans g3
    obtain ⟨a3, e3, w3⟩ := open_int1 Try.underlying3 g3
    obtain ⟨y4, g4, s4⟩ := hf 4 _ rfl
    have g4 : Rd enc W m 3 [c4] y4 := (congrArg (fun q => DataW.trod enc Try.prog W 0 (fun _ => true) true m 3 q) (show ([c0, c1, c2, c3, c4, c5, c6, c7, c8, c9, c10, c11, c12, c13, c14, c15, c16, c17, c18, c19, c20, c21, c22, c23, c24, c25, c26, c27, c28, c29, c30, c31, c32, c33].drop 4).take (Try.prog.cellsOf 3) = [c4] from by rw [show Try.prog.cellsOf 3 = 1 from by kernel_rfl]; rfl)).symm.trans g4
    obtain ⟨a4, e4, w4⟩ := open_int1 Try.underlying3 g4
    obtain ⟨y5, g5, s5⟩ := hf 5 _ rfl
    have g5 : Rd enc W m 3 [c5] y5 := (congrArg (fun q => DataW.trod enc Try.prog W 0 (fun _ => true) true m 3 q) (show ([c0, c1, c2, c3, c4, c5, c6, c7, c8, c9, c10, c11, c12, c13, c14, c15, c16, c17, c18, c19, c20, c21, c22, c23, c24, c25, c26, c27, c28, c29, c30, c31, c32, c33].drop 5).take (Try.prog.cellsOf 3) = [c5] from by rw [show Try.prog.cellsOf 3 = 1 from by kernel_rfl]; rfl)).symm.trans g5
    obtain ⟨a5, e5, w5⟩ := open_int1 Try.underlying3 g5
    obtain ⟨y6, g6, s6⟩ := hf 6 _ rfl
    have g6 : Rd enc W m 3 [c6] y6 := (congrArg (fun q => DataW.trod enc Try.prog W 0 (fun _ => true) true m 3 q) (show ([c0, c1, c2, c3, c4, c5, c6, c7, c8, c9, c10, c11, c12, c13, c14, c15, c16, c17, c18, c19, c20, c21, c22, c23, c24, c25, c26, c27, c28, c29, c30, c31, c32, c33].drop 6).take (Try.prog.cellsOf 3) = [c6] from by rw [show Try.prog.cellsOf 3 = 1 from by kernel_rfl]; rfl)).symm.trans g6
    obtain ⟨a6, e6, w6⟩ := open_int1 Try.underlying3 g6
    obtain ⟨y7, g7, s7⟩ := hf 7 _ rfl
    have g7 : Rd enc W m 3 [c7] y7 := (congrArg (fun q => DataW.trod enc Try.prog W 0 (fun _ => true) true m 3 q) (show ([c0, c1, c2, c3, c4, c5, c6, c7, c8, c9, c10, c11, c12, c13, c14, c15, c16, c17, c18, c19, c20, c21, c22, c23, c24, c25, c26, c27, c28, c29, c30, c31, c32, c33].drop 7).take (Try.prog.cellsOf 3) = [c7] from by rw [show Try.prog.cellsOf 3 = 1 from by kernel_rfl]; rfl)).symm.trans g7
    obtain ⟨a7, e7, w7⟩ := open_int1 Try.underlying3 g7
    obtain ⟨y8, g8, s8⟩ := hf 8 _ rfl
    have g8 : Rd enc W m 3 [c8] y8 := (congrArg (fun q => DataW.trod enc Try.prog W 0 (fun _ => true) true m 3 q) (show ([c0, c1, c2, c3, c4, c5, c6, c7, c8, c9, c10, c11, c12, c13, c14, c15, c16, c17, c18, c19, c20, c21, c22, c23, c24, c25, c26, c27, c28, c29, c30, c31, c32, c33].drop 8).take (Try.prog.cellsOf 3) = [c8] from by rw [show Try.prog.cellsOf 3 = 1 from by kernel_rfl]; rfl)).symm.trans g8
    obtain ⟨a8, e8, w8⟩ := open_int1 Try.underlying3 g8
    obtain ⟨y9, g9, s9⟩ := hf 9 _ rfl
    have g9 : Rd enc W m 4 [c9] y9 := (congrArg (fun q => DataW.trod enc Try.prog W 0 (fun _ => true) true m 4 q) (show ([c0, c1, c2, c3, c4, c5, c6, c7, c8, c9, c10, c11, c12, c13, c14, c15, c16, c17, c18, c19, c20, c21, c22, c23, c24, c25, c26, c27, c28, c29, c30, c31, c32, c33].drop 9).take (Try.prog.cellsOf 4) = [c9] from by rw [show Try.prog.cellsOf 4 = 1 from by kernel_rfl]; rfl)).symm.trans g9
    obtain ⟨a9, e9⟩ := open_bool1 Try.underlying4 g9
    obtain ⟨y10, g10, s10⟩ := hf 10 _ rfl
    have g10 : Rd enc W m 4 [c10] y10 := (congrArg (fun q => DataW.trod enc Try.prog W 0 (fun _ => true) true m 4 q) (show ([c0, c1, c2, c3, c4, c5, c6, c7, c8, c9, c10, c11, c12, c13, c14, c15, c16, c17, c18, c19, c20, c21, c22, c23, c24, c25, c26, c27, c28, c29, c30, c31, c32, c33].drop 10).take (Try.prog.cellsOf 4) = [c10] from by rw [show Try.prog.cellsOf 4 = 1 from by kernel_rfl]; rfl)).symm.trans g10
    obtain ⟨a10, e10⟩ := open_bool1 Try.underlying4 g10
    obtain ⟨y11, g11, s11⟩ := hf 11 _ rfl
    have g11 : Rd enc W m 4 [c11] y11 := (congrArg (fun q => DataW.trod enc Try.prog W 0 (fun _ => true) true m 4 q) (show ([c0, c1, c2, c3, c4, c5, c6, c7, c8, c9, c10, c11, c12, c13, c14, c15, c16, c17, c18, c19, c20, c21, c22, c23, c24, c25, c26, c27, c28, c29, c30, c31, c32, c33].drop 11).take (Try.prog.cellsOf 4) = [c11] from by rw [show Try.prog.cellsOf 4 = 1 from by kernel_rfl]; rfl)).symm.trans g11
    obtain ⟨a11, e11⟩ := open_bool1 Try.underlying4 g11
    obtain ⟨y12, g12, s12⟩ := hf 12 _ rfl
    have g12 : Rd enc W m 33 [c12, c13, c14, c15, c16, c17, c18, c19, c20, c21] y12 := (congrArg (fun q => DataW.trod enc Try.prog W 0 (fun _ => true) true m 33 q) (show ([c0, c1, c2, c3, c4, c5, c6, c7, c8, c9, c10, c11, c12, c13, c14, c15, c16, c17, c18, c19, c20, c21, c22, c23, c24, c25, c26, c27, c28, c29, c30, c31, c32, c33].drop 12).take (Try.prog.cellsOf 33) = [c12, c13, c14, c15, c16, c17, c18, c19, c20, c21] from by rw [show Try.prog.cellsOf 33 = 10 from by kernel_rfl]; rfl)).symm.trans g12
    obtain ⟨⟨op, s⟩, f12, st, wop⟩ := open_op g12 s12
    obtain ⟨y13, g13, s13⟩ := hf 13 _ rfl
    have g13 : Rd enc W m 36 [c22, c23, c24, c25] y13 := (congrArg (fun q => DataW.trod enc Try.prog W 0 (fun _ => true) true m 36 q) (show ([c0, c1, c2, c3, c4, c5, c6, c7, c8, c9, c10, c11, c12, c13, c14, c15, c16, c17, c18, c19, c20, c21, c22, c23, c24, c25, c26, c27, c28, c29, c30, c31, c32, c33].drop 22).take (Try.prog.cellsOf 36) = [c22, c23, c24, c25] from by rw [show Try.prog.cellsOf 36 = 4 from by kernel_rfl]; rfl)).symm.trans g13
    obtain ⟨r0, r1, r2, r3, f13, v0, v1, v2, v3⟩ := open_reply g13 s13
    obtain ⟨y14, g14, s14⟩ := hf 14 _ rfl
    have g14 : Rd enc W m 38 [c26, c27, c28, c29, c30, c31] y14 := (congrArg (fun q => DataW.trod enc Try.prog W 0 (fun _ => true) true m 38 q) (show ([c0, c1, c2, c3, c4, c5, c6, c7, c8, c9, c10, c11, c12, c13, c14, c15, c16, c17, c18, c19, c20, c21, c22, c23, c24, c25, c26, c27, c28, c29, c30, c31, c32, c33].drop 26).take (Try.prog.cellsOf 38) = [c26, c27, c28, c29, c30, c31] from by rw [show Try.prog.cellsOf 38 = 6 from by kernel_rfl]; rfl)).symm.trans g14
    obtain ⟨k0, k1, k2, k3, k4, k5, f14, u0, u1, u2, u3, u4⟩ := open_command g14 s14
    obtain ⟨y15, g15, s15⟩ := hf 15 _ rfl
    have g15 : Rd enc W m 39 [c32] y15 := (congrArg (fun q => DataW.trod enc Try.prog W 0 (fun _ => true) true m 39 q) (show ([c0, c1, c2, c3, c4, c5, c6, c7, c8, c9, c10, c11, c12, c13, c14, c15, c16, c17, c18, c19, c20, c21, c22, c23, c24, c25, c26, c27, c28, c29, c30, c31, c32, c33].drop 32).take (Try.prog.cellsOf 39) = [c32] from by rw [show Try.prog.cellsOf 39 = 1 from by kernel_rfl]; rfl)).symm.trans g15
    obtain ⟨ops, hops, wops⟩ := open_ops g15 s15
    obtain ⟨y16, g16, s16⟩ := hf 16 _ rfl
    have g16 : Rd enc W m 40 [c33] y16 := (congrArg (fun q => DataW.trod enc Try.prog W 0 (fun _ => true) true m 40 q) (show ([c0, c1, c2, c3, c4, c5, c6, c7, c8, c9, c10, c11, c12, c13, c14, c15, c16, c17, c18, c19, c20, c21, c22, c23, c24, c25, c26, c27, c28, c29, c30, c31, c32, c33].drop 33).take (Try.prog.cellsOf 40) = [c33] from by rw [show Try.prog.cellsOf 40 = 1 from by kernel_rfl]; rfl)).symm.trans g16
    obtain ⟨incs, hincs, wincs⟩ := open_incs g16 s16
    subst e0 e1 e2 e3 e4 e5 e6 e7 e8 e9 e10 e11
    unfold OpD.cells at f12
    simp only [List.cons.injEq, and_true] at f12 f13 f14
    obtain ⟨rfl, rfl, rfl, rfl, rfl, rfl, rfl, rfl, rfl, rfl⟩ := f12
    obtain ⟨rfl, rfl, rfl, rfl⟩ := f13
    obtain ⟨rfl, rfl, rfl, rfl, rfl, rfl⟩ := f14
    exact ⟨⟨a0, a1, a2, a3, a4, a5, a6, a7, a8, a9, a10, a11, op, r0, r1, r2, r3, k0, k1, k2, k3, k4, k5, ops, incs⟩, _, c32, c33, rfl, ⟨st, hops, hincs⟩, w0, w1, w2, w3, w4, w5, w6, w7, w8, wop, v0, v1, v2, v3, u0, u1, u2, u3, u4, wops, wincs⟩

end
end Go.Proofs.Ytaimnhlpdkpobaa
