/- Texts merged: OpenD, SagN, Long, PlanT, SagR, Arg15. -/
import Derived.Test.YtpicnoinnngpeaaGreatBaseK1
import Derived.Test.YtpicnoinnngpeaaGreatBaseK2
import Derived.Test.YtpicnoinnngpeaaGreatBaseK3
import Derived.Test.YtpicnoinnngpeaaGreatBaseK4
import Derived.Test.YtpicnoinnngpeaaGreatBaseK5
import Derived.Test.YtpicnoinnngpeaaGreatProg
import Derived.Deep.Slices
import Derived.ChangeArms
import Derived.SizedLaws
import Derived.ShutString
import Derived.ProofKit
import Derived.OpenShut
/- From what a row says of steps and definitions that came in to what the walks are told of them. -/
namespace Go.Proofs.YtpicnoinnngpeaaGreat
open Go.RowKit

/-- No string and no slice in the datum is too long. -/
def Sm {H : Type} (t : TypeId) (d : DataW H) : Prop := ∀ n ∈ d.weights Tryz.prog t, n ≤ reachBytes
theorem weights_mem_all {H : Type} {P : Program} {e : TypeId} {d : DataW H} : ∀ {l : List (DataW H)}, d ∈ l → ∀ n ∈ d.weights P e, n ∈ DataW.weightsAll P e l
  | [], h, _, _ => by cases h
  | y :: r, h, n, hn => by
    simp only [DataW.weightsAll, List.mem_append]
    rcases List.mem_cons.1 h with rfl | h
    · exact .inl hn
    · exact .inr (weights_mem_all h n hn)

section
variable {H : Type} {enc : TypeId × Value → H} {W : World}
/-- The reading of an argument. -/
abbrev Rdg (enc : TypeId × Value → H) (W : World) (n : Nat) (t : TypeId) (cs : List Value) (x : DataW H × List MemPlace) : Prop := DataW.trod enc Tryz.prog W 0 (fun _ => true) true n t cs = some x

/-- A struct's fields. -/
theorem open_fields {t : TypeId} {fs : Array Field} {n : Nat} {cs : List Value} {x : DataW H × List MemPlace} (ht : Tryz.prog.underlying t = some (.struct fs)) (h : Rdg enc W n t cs x) (hs : Sm t x.1) :
    ∃ m, cs.length = Tryz.prog.cellsOf t ∧ ∀ (i : Nat) (f : Field), fs[i]? = some f → ∃ y, Rdg enc W m f.type ((cs.drop f.offset).take (Tryz.prog.cellsOf f.type)) y ∧ Sm f.type y.1 := by
  obtain ⟨xs, m, _, hx, hl, hxl, hf⟩ := DataW.trod_struct ht h
  refine ⟨m, hl, fun i f hi => ?_⟩
  have hil : i < xs.length := by rw [hxl]; exact (Array.getElem?_eq_some_iff.1 hi).1
  refine ⟨xs[i], (hf i f hi).trans (List.getElem?_eq_getElem hil), fun k hk => hs k ?_⟩
  rw [hx]
  simp only [DataW.weights, ht]
  exact DataW.weights_mem_each (j := i) (t := f.type) (d := xs[i].1) (by simp [hi]) (by simp [hil]) k hk
theorem open_int1 {t : TypeId} {n : Nat} {c : Value} {x : DataW H × List MemPlace} (ht : Tryz.prog.underlying t = some (.int .i64)) (h : Rdg enc W n t [c] x) : ∃ a : Int, c = .int .i64 a ∧ I64 a := by
  obtain ⟨a, h0, _, w0⟩ := DataW.trod_int ht h
  have b0 := bounds_i64 w0
  simp only [List.cons.injEq, and_true] at h0
  exact ⟨a, h0, by unfold I64; omega⟩
theorem open_bool1 {t : TypeId} {n : Nat} {c : Value} {x : DataW H × List MemPlace} (ht : Tryz.prog.underlying t = some .bool) (h : Rdg enc W n t [c] x) : ∃ a : Bool, c = .bool a := by
  obtain ⟨a, h0, _⟩ := DataW.trod_bool ht h
  simp only [List.cons.injEq, and_true] at h0
  exact ⟨a, h0⟩
theorem open_str1 {t : TypeId} {n : Nat} {c : Value} {x : DataW H × List MemPlace} (ht : Tryz.prog.underlying t = some .string) (h : Rdg enc W n t [c] x) (hs : Sm t x.1) : ∃ s : ByteArray, c = .string s ∧ s.size ≤ 140737488355328 := by
  obtain ⟨s, h0, h1, _⟩ := DataW.trod_string ht h
  simp only [List.cons.injEq, and_true] at h0
  refine ⟨s, h0, ?_⟩
  have := hs s.data.toList.length (by rw [h1]; simp [DataW.weights])
  unfold reachBytes at this
  rw [Array.length_toList] at this
  show s.data.size ≤ _
  omega

/-- The elements of a slice. -/
theorem open_elems {α : Type} [Inhabited α] (cells : α → List Value) (good : α → Prop) {t e : TypeId} (k : Nat) (hk : 0 < k) (hck : ∀ y, (cells y).length = k) (ht : Tryz.prog.underlying t = some (.slice e)) (hc : Tryz.prog.cellsOf e = k)
    (hel : ∀ (n : Nat) (cs : List Value) (x : DataW H × List MemPlace), Rdg enc W n e cs x → Sm e x.1 → ∃ y : α, cs = cells y ∧ good y) (hone : ∀ y, good y → ∀ u ∈ cells y, u.oneCell' = true)
    {n : Nat} {v : Value} {x : DataW H × List MemPlace} (h : Rdg enc W n t [v] x) (hs : Sm t x.1) :
    ∃ ys : List α, FlatAt (· < W.heap.size) W k v ys.length (ys.flatMap cells) ∧ ∀ y ∈ ys, good y := by
  rcases Go.Deep.open_slice ht h with ⟨hcs, _⟩ | ⟨a, l, c, m, n', D, Pl, hcs, _, hl, hm, hmm, hx, hi⟩
  · obtain rfl : v = .slice none 0 0 := by simpa using hcs
    exact ⟨[], FlatAt.nil_ _ _ _, by simp⟩
  · obtain rfl : v = .slice (some a) l c := by simpa using hcs
    simp only [if_true] at hmm
    rw [hc] at hi
    obtain ⟨F, hF⟩ := Go.Deep.choose_lt (p := fun i (y : α) => (∀ j u, (cells y)[j]? = some u → W.cell? (a.add (i * k + j)) = some u) ∧ good y) fun i (hil : i < l) => by
      obtain ⟨cs', h1, h2⟩ := hi i (by omega)
      have hsm : Sm e (D i) := fun q hq => hs q (by
        rw [hx]
        simp only [DataW.weights, ht]
        exact List.mem_cons_of_mem _ (List.mem_append_left _ (weights_mem_all (List.mem_map.2 ⟨i, List.mem_range.2 hil, rfl⟩) q hq)))
      obtain ⟨y, hy, hg⟩ := hel n' cs' (D i, Pl i) h2 hsm
      obtain ⟨_, hlen, hat⟩ := World.cells?_some h1
      refine ⟨y, fun j u hu => ?_, hg⟩
      have hj : j < k := by rw [← hck y]; exact (List.getElem?_eq_some_iff.1 hu).1
      rw [← Go.Deep.add_add, hat j hj, hy, hu]
    refine ⟨(List.range l).map F, ⟨?_, ?_, some a, c, by simp, by simpa using hl, hm, (fun e => by cases e), fun hn => ?_⟩, fun y hy => ?_⟩
    · exact flat_len cells k _ (fun y _ => hck y)
    · intro u hu
      obtain ⟨y, hy, hu⟩ := List.mem_flatMap.1 hu
      obtain ⟨i, hi, rfl⟩ := List.mem_map.1 hy
      exact hone _ (hF i (List.mem_range.1 hi)).2 u hu
    · have hn' : 0 < l := by simpa using hn
      obtain ⟨b, off, spot⟩ := a
      have hk0 : (cells (F 0))[0]? = some ((cells (F 0))[0]'(by rw [hck]; exact hk)) := List.getElem?_eq_getElem (by rw [hck]; exact hk)
      have h0 := (hF 0 hn').1 0 _ hk0
      have hspot : spot = none := by simpa [Addr.add] using World.cell?_spot h0
      subst hspot
      have hblt : b < W.heap.size := World.block_lt_of_cell? W _ (by simpa [Addr.add] using h0)
      refine ⟨b, off, rfl, hblt, hblt, fun j u hj => ?_⟩
      have hjl : j < l * k := by
        have := (List.getElem?_eq_some_iff.1 hj).1
        rw [flat_len cells k _ (fun y _ => hck y)] at this
        simpa using this
      have hq : j / k < l := Nat.div_lt_of_lt_mul (by rwa [Nat.mul_comm])
      have hr : j % k < k := Nat.mod_lt _ hk
      have hj2 : j = j / k * k + j % k := by rw [Nat.mul_comm]; exact (Nat.div_add_mod j k).symm
      have hge := flat_get cells k ((List.range l).map F) (j / k) (F (j / k)) (fun y _ => hck y) (by simp [hq])
      have hu : (cells (F (j / k)))[j % k]? = some u := by
        rw [← hge, List.getElem?_take_of_lt hr, List.getElem?_drop, ← hj2, hj]
      have := (hF (j / k) hq).1 (j % k) u hu
      rwa [Addr.add_lit, ← hj2] at this
    · obtain ⟨i, hi, rfl⟩ := List.mem_map.1 hy
      exact (hF i (List.mem_range.1 hi)).2
end

instance : Inhabited StepD := ⟨⟨⟨#[]⟩, 0, 0, 0, false, false⟩⟩
instance : Inhabited (OpD × Value) := ⟨⟨.zero, .slice none 0 0⟩⟩
section
variable {H : Type} {enc : TypeId × Value → H} {W : World}
set_option maxRecDepth 100000

theorem open_step {n : Nat} {cs : List Value} {x : DataW H × List MemPlace} (h : Rdg enc W n 66 cs x) (hs : Sm 66 x.1) :
    ∃ s : StepD, cs = s.cells ∧ s.wf := by
  obtain ⟨m, hl, hf⟩ := open_fields Tryz.underlying66 h hs
  have hl : cs.length = 6 := hl
  match cs, hl with
  | [c0, c1, c2, c3, c4, c5], _ =>
    obtain ⟨y0, g0, s0⟩ := hf 0 _ rfl
    have g0 : Rdg enc W m 9 [c0] y0 := (congrArg (fun q => DataW.trod enc Tryz.prog W 0 (fun _ => true) true m 9 q) (show ([c0, c1, c2, c3, c4, c5].drop 0).take (Tryz.prog.cellsOf 9) = [c0] from by rw [show Tryz.prog.cellsOf 9 = 1 from by kernel_rfl]; rfl)).symm.trans g0
    obtain ⟨a0, e0, w0⟩ := open_str1 Tryz.underlying9 g0 s0
    obtain ⟨y1, g1, s1⟩ := hf 1 _ rfl
    have g1 : Rdg enc W m 3 [c1] y1 := (congrArg (fun q => DataW.trod enc Tryz.prog W 0 (fun _ => true) true m 3 q) (show ([c0, c1, c2, c3, c4, c5].drop 1).take (Tryz.prog.cellsOf 3) = [c1] from by rw [show Tryz.prog.cellsOf 3 = 1 from by kernel_rfl]; rfl)).symm.trans g1
    obtain ⟨a1, e1, w1⟩ := open_int1 Tryz.underlying3 g1
    obtain ⟨y2, g2, s2⟩ := hf 2 _ rfl
    have g2 : Rdg enc W m 3 [c2] y2 := (congrArg (fun q => DataW.trod enc Tryz.prog W 0 (fun _ => true) true m 3 q) (show ([c0, c1, c2, c3, c4, c5].drop 2).take (Tryz.prog.cellsOf 3) = [c2] from by rw [show Tryz.prog.cellsOf 3 = 1 from by kernel_rfl]; rfl)).symm.trans g2
    obtain ⟨a2, e2, w2⟩ := open_int1 Tryz.underlying3 g2
    obtain ⟨y3, g3, s3⟩ := hf 3 _ rfl
    have g3 : Rdg enc W m 3 [c3] y3 := (congrArg (fun q => DataW.trod enc Tryz.prog W 0 (fun _ => true) true m 3 q) (show ([c0, c1, c2, c3, c4, c5].drop 3).take (Tryz.prog.cellsOf 3) = [c3] from by rw [show Tryz.prog.cellsOf 3 = 1 from by kernel_rfl]; rfl)).symm.trans g3
    obtain ⟨a3, e3, w3⟩ := open_int1 Tryz.underlying3 g3
    obtain ⟨y4, g4, s4⟩ := hf 4 _ rfl
    have g4 : Rdg enc W m 4 [c4] y4 := (congrArg (fun q => DataW.trod enc Tryz.prog W 0 (fun _ => true) true m 4 q) (show ([c0, c1, c2, c3, c4, c5].drop 4).take (Tryz.prog.cellsOf 4) = [c4] from by rw [show Tryz.prog.cellsOf 4 = 1 from by kernel_rfl]; rfl)).symm.trans g4
    obtain ⟨a4, e4⟩ := open_bool1 Tryz.underlying4 g4
    obtain ⟨y5, g5, s5⟩ := hf 5 _ rfl
    have g5 : Rdg enc W m 4 [c5] y5 := (congrArg (fun q => DataW.trod enc Tryz.prog W 0 (fun _ => true) true m 4 q) (show ([c0, c1, c2, c3, c4, c5].drop 5).take (Tryz.prog.cellsOf 4) = [c5] from by rw [show Tryz.prog.cellsOf 4 = 1 from by kernel_rfl]; rfl)).symm.trans g5
    obtain ⟨a5, e5⟩ := open_bool1 Tryz.underlying4 g5
    subst e0 e1 e2 e3 e4 e5
    exact ⟨⟨a0, a1, a2, a3, a4, a5⟩, rfl, w0, w1, w2, w3⟩

theorem open_steps {n : Nat} {v : Value} {x : DataW H × List MemPlace} (h : Rdg enc W n 29 [v] x) (hs : Sm 29 x.1) : ∃ l, StepsAt (· < W.heap.size) W v l ∧ ∀ s ∈ l, s.wf := by
  obtain ⟨ys, h1, h2⟩ := open_elems StepD.cells StepD.wf 6 (by decide) StepD.len Tryz.underlying29 (by kernel_rfl) (fun n cs x h hs => open_step h hs) (fun y _ => y.one) h hs
  exact ⟨ys, h1, h2⟩

theorem open_def {n : Nat} {cs : List Value} {x : DataW H × List MemPlace} (h : Rdg enc W n 31 cs x) (hs : Sm 31 x.1) :
    ∃ (nm : ByteArray) (v : Value) (l : List StepD), cs = [.string nm, v] ∧ nm.size ≤ 140737488355328 ∧ StepsAt (· < W.heap.size) W v l ∧ ∀ s ∈ l, s.wf := by
  obtain ⟨m, hl, hf⟩ := open_fields Tryz.underlying31 h hs
  have hl : cs.length = 2 := hl
  match cs, hl with
  | [c0, c1], _ =>
    obtain ⟨y0, g0, s0⟩ := hf 0 _ rfl
    have g0 : Rdg enc W m 9 [c0] y0 := (congrArg (fun q => DataW.trod enc Tryz.prog W 0 (fun _ => true) true m 9 q) (show ([c0, c1].drop 0).take (Tryz.prog.cellsOf 9) = [c0] from by rw [show Tryz.prog.cellsOf 9 = 1 from by kernel_rfl]; rfl)).symm.trans g0
    obtain ⟨a0, e0, w0⟩ := open_str1 Tryz.underlying9 g0 s0
    obtain ⟨y1, g1, s1⟩ := hf 1 _ rfl
    have g1 : Rdg enc W m 29 [c1] y1 := (congrArg (fun q => DataW.trod enc Tryz.prog W 0 (fun _ => true) true m 29 q) (show ([c0, c1].drop 1).take (Tryz.prog.cellsOf 29) = [c1] from by rw [show Tryz.prog.cellsOf 29 = 1 from by kernel_rfl]; rfl)).symm.trans g1
    obtain ⟨l, hl1, hl2⟩ := open_steps g1 s1
    subst e0
    exact ⟨a0, _, l, rfl, w0, hl1, hl2⟩
/-- Arguments: a struct by value, a slice. -/
theorem sm_of {ts : List TypeId} {ds : List (DataW H)} (hsz : (DataW.weightsEach Tryz.prog ts ds).all (· ≤ reachBytes) = true) {j : Nat} {t : TypeId} {d : DataW H} (ht : ts[j]? = some t) (hd : ds[j]? = some d) : Sm t d := fun n hn => by
  have := List.all_eq_true.1 hsz n (DataW.weights_mem_each ht hd n hn)
  simpa using this
theorem arg_def {cs : Array Value} {d : DataW H} {p : List MemPlace} (h : DataW.Trod enc Tryz.prog W 0 (fun _ => true) true 31 (.agg cs) d p) (hs : Sm 31 d) :
    ∃ (nm : ByteArray) (v : Value) (l : List StepD), cs = #[.string nm, v] ∧ StepsAt (· < W.heap.size) W v l ∧ nm.size ≤ 140737488355328 ∧ ∀ s ∈ l, s.wf := by
  obtain ⟨fuel, hf⟩ := h
  obtain ⟨nm, v, l, e, h1, h2, h3⟩ := open_def (n := fuel) (x := (d, p)) hf hs
  refine ⟨nm, v, l, ?_, h2, h1, h3⟩
  have e2 : cs.toList = [.string nm, v] := e
  exact Array.toList_inj.1 (by rw [e2])
theorem arg_step {cs : Array Value} {d : DataW H} {p : List MemPlace} (h : DataW.Trod enc Tryz.prog W 0 (fun _ => true) true 66 (.agg cs) d p) (hs : Sm 66 d) : ∃ s : StepD, cs = s.cells.toArray ∧ s.wf := by
  obtain ⟨fuel, hf⟩ := h
  obtain ⟨s, e, wf⟩ := open_step (n := fuel) (x := (d, p)) hf hs
  refine ⟨s, ?_, wf⟩
  have e2 : cs.toList = s.cells := e
  rw [← e2]
end
end Go.Proofs.YtpicnoinnngpeaaGreat
/- The document's example. -/
namespace Go.Proofs.YtpicnoinnngpeaaGreat
open Go.RowKit
def hold : StepD := ⟨⟨#[104, 111, 108, 100]⟩, 1, 0, 5, true, false⟩
def ship : StepD := ⟨⟨#[115, 104, 105, 112]⟩, 2, 0, 5, false, true⟩
abbrev l2 : List StepD := [hold, ship]
abbrev nmA : ByteArray := ⟨#[97]⟩
theorem l2_ok : (checkF nmA l2).2 = 0 := by decide +kernel
theorem l2_wf : ∀ x ∈ l2, x.wf := by simp [hold, ship, StepD.wf, I64]; decide
theorem rep1 (p : Option Addr) (n c : Nat) : reportF l2 ⟨nmA, p, n, c, 1, 1, 1, upH 0⟩ 1 1 false true = ⟨nmA, p, n, c, 1, 2, 1, upH 1⟩ ∧ isIt l2 ⟨nmA, p, n, c, 1, 1, 1, upH 0⟩ 1 1 false = true := ⟨by kernel_rfl, by kernel_rfl⟩
theorem rep2 (p : Option Addr) (n c : Nat) : reportF l2 ⟨nmA, p, n, c, 1, 2, 1, upH 1⟩ 2 1 false false = ⟨nmA, p, n, c, 2, 1, 1, upH 1⟩ ∧ isIt l2 ⟨nmA, p, n, c, 1, 2, 1, upH 1⟩ 2 1 false = true := ⟨by kernel_rfl, by kernel_rfl⟩
theorem rep3 (p : Option Addr) (n c : Nat) : reportF l2 ⟨nmA, p, n, c, 2, 1, 1, upH 1⟩ 1 1 true true = ⟨nmA, p, n, c, 4, 0, 0, upH 0⟩ ∧ isIt l2 ⟨nmA, p, n, c, 2, 1, 1, upH 1⟩ 1 1 true = true := ⟨by kernel_rfl, by kernel_rfl⟩
theorem two_steps (w : World) (F : Nat → Prop) (hF : F w.heap.size) : StepsAt F (w.alloc (.cells (hold.cells.toArray ++ ship.cells.toArray) 66 (0, 0))) (.slice (some ⟨w.heap.size, 0, none⟩) 2 2) l2 := by
  have hb : (w.alloc (.cells (hold.cells.toArray ++ ship.cells.toArray) 66 (0, 0))).heap[w.heap.size]? = some (.cells (hold.cells.toArray ++ ship.cells.toArray) 66 (0, 0)) := heap_alloc_new _ _
  refine ⟨by rfl, cells_one l2, some ⟨w.heap.size, 0, none⟩, 2, rfl, Nat.le_refl _, by unfold maxLen; omega, (fun h => by cases h), fun _ => ⟨w.heap.size, 0, rfl, hF, lt_of_block hb, fun j u hj => ?_⟩⟩
  rw [cell_of_row _ _ _ _ _ _ hb, Nat.zero_add]
  simpa [hold, ship, StepD.cells] using hj
section
variable {w : World}
end
end Go.Proofs.YtpicnoinnngpeaaGreat
/- Definitions that are too long to be looked at. -/
namespace Go.Proofs.YtpicnoinnngpeaaGreat
open Go.RowKit

def longF (name : ByteArray) (l : List StepD) : Bool := decide (400 < name.size) || (decide (40 < l.length) || l.any fun s => decide (400 < s.name.size))
section
variable {w : World}
set_option maxHeartbeats 4000000 in
theorem long_any {F : Nat → Prop} {a : ByteArray} {v : Value} {l : List StepD} (hl : StepsAt F w v l) (hb : l.length ≤ 9223372036854775807) :
    Calls Tryz.prog 21 #[.agg #[.string a, v]] w fun e w' => e = .returned (.bool (longF a l)) ∧ Later w w' := by
  obtain ⟨A, c, rfl, h1, h2, _⟩ := FlatAt.shape hl
  obtain ⟨n, hn⟩ : ∃ n, l.length = n := ⟨_, rfl⟩
  rw [hn] at h1 hl hb ⊢
  obtain ⟨W1, hW1⟩ : ∃ W1, W1 = w.alloc (.cells #[.string a, .slice A n c] 31 (0, 0)) := ⟨_, rfl⟩
  have L1 : Hid (Later w W1) := by rw [hW1]; exact (Below.refl _ _).alloc (Nat.le_refl _) _
  have H := hide hl
  have HN := hide hn
  have HW1 := hide hW1.symm
  obtain ⟨Q, hQ⟩ : ∃ Q, longF a l = Q := ⟨_, rfl⟩
  rw [hQ]
  have HQ := hide hQ
  clear hl hn hW1 hQ h2
  by_cases ha : 400 < a.size
  · have hq : Q = true := by rw [← HQ.out]; unfold longF; simp [ha]
    subst hq
    have ha' : (400 : Int) < (a.size : Int) := by omega
    go_enter Tryz.func21, Tryz.ntmps21
    go_wp2
    rw [HW1.out]
    go_ret
    exact ⟨rfl, L1.out⟩
  · have ha' : ¬ (400 : Int) < (a.size : Int) := by omega
    by_cases hn4 : 40 < n
    · have hq : Q = true := by rw [← HQ.out]; unfold longF; rw [HN.out]; simp [hn4]
      subst hq
      have hn' : (40 : Int) < (n : Int) := by omega
      go_enter Tryz.func21, Tryz.ntmps21
      go_wp2
      rw [HW1.out]
      go_ret
      exact ⟨rfl, L1.out⟩
    · have hn' : ¬ (40 : Int) < (n : Int) := by omega
      have hq : Q = l.any fun s => decide (400 < s.name.size) := by rw [← HQ.out]; unfold longF; rw [HN.out]; simp [ha, hn4]
      have HQ2 := hide hq
      clear hq HQ
      go_enter Tryz.func21, Tryz.ntmps21
      go_wp2_with (fail)
      rw [HW1.out]
      go_loopw [18] (fun v wr => ∃ i : Nat, v = .int .i64 (i : Int) ∧ i ≤ n ∧ (l.take i).any (fun s => decide (400 < s.name.size)) = false ∧ Later W1 wr) (fun v _ => n - (Go.RowKit.intOf v).toNat)
      case atStart => exact ⟨0, rfl, by omega, by simp, Later.refl _⟩
      case round =>
        obtain ⟨i, rfl, hi, hall, hlat⟩ := hrel
        have HA := hide hall
        have HL := hide hlat
        clear hall hlat
        by_cases hlt : i < n
        · obtain ⟨s, b, off, c', hs', hvv, _, _, _, hr⟩ := StepsAt.at_ (StepsAt.kept H.out (Kept.of_below (L1.out.trans HL.out) F)) (i := i) (by rw [HN.out]; exact hlt)
          rw [HN.out] at hvv
          obtain ⟨rfl, rfl⟩ : A = some ⟨b, off, none⟩ ∧ c = c' := by injection hvv with e1 _ e3; exact ⟨e1, e3⟩
          obtain ⟨r0, r1, r2, r3, r4, r5⟩ := range_step hr
          have HP := hide hs'
          have HL2 := fun (o : Obj) => hide (HL.out.alloc (Below.size HL.out) o)
          clear hs' hvv hr
          by_cases hs4 : 400 < s.name.size
          · have hs5 : (400 : Int) < (s.name.size : Int) := by omega
            have hyes : Q = true := by
              rw [HQ2.out, List.any_eq_true]
              exact ⟨s, List.mem_of_getElem? HP.out, by simpa using hs4⟩
            subst hyes
            go_wp2
            go_ret
            exact ⟨rfl, L1.out.trans (HL2 _).out⟩
          · have hs5 : ¬ (400 : Int) < (s.name.size : Int) := by omega
            have HS4 := hide hs4
            clear hs4
            go_wp2
            go_roundw
            case rel =>
              refine ⟨i + 1, by go_num, by omega, ?_, (HL2 _).out⟩
              rw [List.take_add_one, HP.out, List.any_append, HA.out]
              simp [HS4.out]
            case measure => simp [Go.RowKit.intOf]; omega
        · have hno : Q = false := by
            rw [HQ2.out]
            have h1 := HA.out
            rwa [List.take_of_length_le (by have := HN.out; omega)] at h1
          subst hno
          go_wp2
          go_ret
          exact ⟨rfl, L1.out.trans HL.out⟩
end
end Go.Proofs.YtpicnoinnngpeaaGreat
/- The document's sums. -/
namespace Go.Proofs.YtpicnoinnngpeaaGreat
open Go.RowKit

/-- What is counted. -/
def cntF (b : Bool) (s : StepD) : Int := if b then ticksF s else triesF s
theorem cnt_range (b : Bool) {s : StepD} (h : stepBad s = false) : 0 ≤ cntF b s ∧ cntF b s ≤ 1000 := by
  cases b with
  | false => exact tries_range h
  | true => exact ticks_range h
theorem cnt_undo (b u : Bool) (s : StepD) (f : Int) (h : cntF b s = f) : (if u then cntF b s * 2 else cntF b s) = if u then f * 2 else f := by rw [h]
section
variable {w : World}
end
end Go.Proofs.YtpicnoinnngpeaaGreat
/- SagaEnds. -/
namespace Go.Proofs.YtpicnoinnngpeaaGreat
open Go.RowKit
def UsAt (F : Nat → Prop) (w : World) (v : Value) (l : List Int) : Prop := FlatAt F w 1 v l.length (l.map fun x => .int .u64 x)
theorem UsAt.kept {F : Nat → Prop} {w w' : World} {v : Value} {l : List Int} (h : UsAt F w v l) (hk : Kept F w w') : UsAt F w' v l := FlatAt.kept h hk
theorem UsAt.at_ {F : Nat → Prop} {w : World} {v : Value} {l : List Int} (h : UsAt F w v l) {i : Nat} (hi : i < l.length) : ∃ x b off c, l[i]? = some x ∧ v = .slice (some ⟨b, off, none⟩) l.length c ∧ l.length ≤ c ∧ F b ∧ b < w.heap.size ∧ w.cell? ⟨b, off + i, none⟩ = some (.int .u64 x) := by
  obtain ⟨b, off, c, hv, hc, hf, hb, hr⟩ := FlatAt.elem h hi
  have hs : l[i]? = some l[i] := List.getElem?_eq_getElem hi
  refine ⟨l[i], b, off, c, hs, hv, hc, hf, hb, ?_⟩
  have := hr 0 (.int .u64 l[i]) (by simp [List.getElem?_drop, hs])
  simpa using this
/-- A saga that is under way, or at its end. -/
def Way (l : List StepD) (name : ByteArray) (s : SagaD) : Prop := s.name = name ∧ ((∃ q, Runs l s q) ∨ (∃ q, Backs l s q) ∨ s.st = 3 ∨ s.st = 4 ∨ s.st = 5) ∧ 0 ≤ s.step ∧ s.step ≤ 9
/-- What an event that is about what is wanted makes of it. -/
theorem way_next {name : ByteArray} {l : List StepD} {s : SagaD} {ev : EvD} (hc : (checkF name l).2 = 0) (h : Way l name s) (hl : s.st = 1 ∨ s.st = 2) (hk : 3 ≤ ev.kind) : (happenF l s ev).2 = true ∧ happenL l s ev = l ∧ Way l name (happenF l s ev).1 ∧ phi l (happenF l s ev).1 + 1 ≤ phi l s := by
  obtain ⟨rfl, h, _⟩ := h
  have h8 := (check_good hc).1
  have hL : happenL l s ev = l := by unfold happenL; rw [if_neg (by omega)]
  rcases h with ⟨q, h⟩ | ⟨q, h⟩ | h | h | h
  · rw [hap_it (h.wants hc) hk]
    obtain ⟨e1, e2⟩ := run_ev hc h ev.kind
    have hq := h.lt
    have hsp := h.step
    refine ⟨rfl, hL, ⟨e1, ?_, ev_step ev.kind (by omega) (by omega) h8⟩, run_less hc h e2⟩
    rcases e2 with ⟨_, _, e⟩ | ⟨_, e, _⟩ | ⟨_, e, _⟩ | ⟨_, e⟩ | ⟨_, _, e⟩ | ⟨_, j, e, _⟩
    · exact .inr (.inr (.inl e))
    · exact .inl ⟨_, e⟩
    · exact .inl ⟨_, e⟩
    · exact .inr (.inr (.inr (.inr e)))
    · exact .inr (.inr (.inr (.inl e)))
    · exact .inr (.inl ⟨_, e⟩)
  · rw [hap_it (h.wants hc) hk]
    obtain ⟨e1, e2⟩ := back_ev hc h ev.kind
    have hq := h.lt
    have hsp := h.step
    refine ⟨rfl, hL, ⟨e1, ?_, ev_step ev.kind (by omega) (by omega) h8⟩, back_less hc h e2⟩
    rcases e2 with ⟨_, _, e⟩ | ⟨_, j, _, e, _⟩ | ⟨_, e, _⟩ | ⟨_, e⟩
    · exact .inr (.inr (.inr (.inl e)))
    · exact .inr (.inl ⟨_, e⟩)
    · exact .inr (.inl ⟨_, e⟩)
    · exact .inr (.inr (.inr (.inr e)))
  · omega
  · omega
  · omega
theorem way_step {name : ByteArray} {l : List StepD} {s : SagaD} (hc : (checkF name l).2 = 0) (h : Way l name s) (hl : s.st = 1 ∨ s.st = 2) : I64 s.step ∧ 1 ≤ phi l s := by
  obtain ⟨rfl, h, _⟩ := h
  have h8 := (check_good hc).1
  rcases h with ⟨q, h⟩ | ⟨q, h⟩ | h | h | h
  · have := h.lt; have := h.step; have := h.pos hc; have := U_nn hc (Nat.le_refl l.length); exact ⟨by unfold I64; omega, by omega⟩
  · have := h.lt; have := h.step; have := h.pos hc; have := U_nn hc (k := q) (by omega); exact ⟨by unfold I64; omega, by omega⟩
  · omega
  · omega
  · omega
theorem phi_nn {name : ByteArray} {l : List StepD} {s : SagaD} (hc : (checkF name l).2 = 0) (h : Way l name s) : 0 ≤ phi l s := by
  by_cases hl : s.st = 1 ∨ s.st = 2
  · have := (way_step hc h hl).2; omega
  · rw [phi_off (by omega) (by omega)]; omega
theorem phi_withV (l : List StepD) (s : SagaD) (p : Option Addr) (n c : Nat) : phi l (s.withV p n c) = phi l s := rfl
theorem Way.withV {l : List StepD} {name : ByteArray} {s : SagaD} (h : Way l name s) (p : Option Addr) (n c : Nat) : Way l name (s.withV p n c) := by
  obtain ⟨e, h, hstp⟩ := h
  refine ⟨e, ?_, hstp⟩
  rcases h with ⟨q, h⟩ | ⟨q, h⟩ | h
  · exact .inl ⟨q, h.withV p n c⟩
  · exact .inr (.inl ⟨q, h.withV p n c⟩)
  · exact .inr (.inr h)
section
variable {w : World}
end
end Go.Proofs.YtpicnoinnngpeaaGreat
/- From what a row says of numbers and events that came in to what the walks are told of them. -/
namespace Go.Proofs.YtpicnoinnngpeaaGreat
open Go.RowKit
def EvD.wf (e : EvD) : Prop := I64 e.kind ∧ I64 e.step ∧ I64 e.tr
theorem EvD.len (e : EvD) : e.cells.length = 5 := rfl
theorem EvD.one (e : EvD) : ∀ u ∈ e.cells, u.oneCell' = true := by
  intro u hu
  simp only [EvD.cells, List.mem_cons, List.not_mem_nil, or_false] at hu
  rcases hu with rfl | rfl | rfl | rfl | rfl <;> rfl
instance : Inhabited EvD := ⟨⟨0, 0, 0, false, false⟩⟩
def EvsAt (F : Nat → Prop) (w : World) (v : Value) (l : List EvD) : Prop := FlatAt F w 5 v l.length (l.flatMap EvD.cells)
theorem EvsAt.kept {F : Nat → Prop} {w w' : World} {v : Value} {l : List EvD} (h : EvsAt F w v l) (hk : Kept F w w') : EvsAt F w' v l := FlatAt.kept h hk
section
variable {H : Type} {enc : TypeId × Value → H} {W : World}
set_option maxRecDepth 100000
theorem open_us {n : Nat} {v : Value} {x : DataW H × List MemPlace} (h : Rdg enc W n 64 [v] x) (hs : Sm 64 x.1) : ∃ l, UsAt (· < W.heap.size) W v l ∧ ∀ a ∈ l, 0 ≤ a ∧ a < 18446744073709551616 := by
  obtain ⟨ys, h1, h2⟩ := open_elems (fun a : Int => [Value.int .u64 a]) (fun a => 0 ≤ a ∧ a < 18446744073709551616) 1 (by decide) (fun _ => rfl) Tryz.underlying64 (by kernel_rfl) (fun n cs x h _ => by
    obtain ⟨a, h0, _, w0⟩ := DataW.trod_int Tryz.underlying60 h
    have b0 := bounds_u64 w0
    exact ⟨a, h0, by omega⟩) (fun y _ u hu => by simp at hu; subst hu; rfl) h hs
  refine ⟨ys, ?_, h2⟩
  unfold UsAt
  have e : ∀ zs : List Int, (zs.flatMap fun b => [Value.int .u64 b]) = zs.map fun b => .int .u64 b := fun zs => by
    induction zs with
    | nil => rfl
    | cons z r ih => rw [List.flatMap_cons, ih]; rfl
  rw [← e]
  exact h1
theorem arg_us {A : Option Addr} {len cap : Nat} {d : DataW H} {p : List MemPlace} (h : DataW.Trod enc Tryz.prog W 0 (fun _ => true) true 64 (.slice A len cap) d p) (hs : Sm 64 d) : ∃ l, UsAt (· < W.heap.size) W (.slice A len cap) l ∧ ∀ a ∈ l, 0 ≤ a ∧ a < 18446744073709551616 := by
  obtain ⟨fuel, hf⟩ := h
  exact open_us (n := fuel) (x := (d, p)) hf hs
theorem flat_small {F : Nat → Prop} {w : World} {k : Nat} {v : Value} {n : Nat} {xs : List Value} (h : FlatAt F w k v n xs) : n ≤ 9223372036854775807 := by
  obtain ⟨A, c, _, h1, h2, _⟩ := FlatAt.shape h
  unfold maxLen at h2
  omega
end
end Go.Proofs.YtpicnoinnngpeaaGreat
