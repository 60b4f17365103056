/- What the laws on fields share: fields appended to a row, later worlds, and what light, Write, Read and Same tell there. -/
import Derived.Test.YtjfcakpglbpeaaaSame
import Derived.Test.YtjfcakpglbpeaaaOrder
namespace Go.Proofs.Ytjfcakpglbpeaaa
open Go.RowKit

theorem Later.drewN (w : World) (q : Nat) : Later w (w.drewN q) := ⟨rfl, rfl, rfl, Nat.le_refl _, fun _ _ => rfl⟩
theorem Later.below {w w' : World} (h : Later w w') {B : Nat} (hB : B ≤ w.heap.size) : Below B w w' := Below.mono h hB
theorem Later.size {w w' : World} (h : Later w w') : w.heap.size ≤ w'.heap.size := Below.size h
theorem Later.alloc (w : World) (o : Obj) : Later w (w.alloc o) := (Below.refl _ _).alloc (Nat.le_refl _) o
section
variable {w w' : World} {A : Option Addr} {n : Nat} {fs : List Fd} {l : List Nat}
theorem FHolds.later (h : FHolds w w.heap.size A n fs) (hl : Later w w') : FHolds w' w'.heap.size A n fs := (h.below hl).more hl.size
theorem Holds.later (h : Holds w w.heap.size A n l) (hl : Later w w') : Holds w' w'.heap.size A n l := (h.below hl).more hl.size
theorem FHolds.nil_ (w : World) (B : Nat) : FHolds w B none 0 [] := ⟨rfl, by simp, fun h => by omega⟩
end

theorem light_is (A : Option Addr) (n c : Nat) (fs : List Fd) (b : Bool) (w : World) (hf : FHolds w w.heap.size A n fs) (hn : n ≤ maxLen) (hfc : ∀ f ∈ fs, f.n ≤ maxLen) (h : lightB n fs = b) :
    Calls Try.prog 18 #[.slice A n c] w fun e w' => e = .returned (.bool b) ∧ Later w w' :=
  (light_any A n c fs w hf hn hfc).mono fun _ _ ⟨he, hb⟩ => ⟨by rw [he, h], hb⟩
theorem same_is (A A2 : Option Addr) (n c m c2 B : Nat) (fs gs : List Fd) (t : Bool) (w : World) (hf : FHolds w B A n fs) (hg : FHolds w B A2 m gs) (hn : n ≤ 1099511627000) (hm : m ≤ 1099511627000) (h : sameB fs gs = t) :
    Calls Try.prog 26 #[.slice A n c, .slice A2 m c2] w fun e w' => e = .returned (.bool t) ∧ Later w w' :=
  (same_any A A2 n c m c2 B fs gs w hf hg hn hm).mono fun e w' ⟨he, q, hq⟩ => ⟨by rw [he, h], by rw [hq]; exact Later.drewN w q⟩
theorem lives_is (w : World) : Calls Try.prog 9 #[] w fun e w' => e = .returned (.bool true) ∧ Later w w' := lives_any w

/-- A field is good just if its form is. -/
theorem good_pf (f : Fd) (h : f.b.length = f.n) : f.good = pgood f.pf := by
  have e : (f.n == 0) = f.b.isEmpty := by
    rw [← h]
    cases f.b <;> simp
  unfold Fd.good pgood Fd.pf
  rw [e]
theorem bytes_pf (f : Fd) (h : f.b.length = f.n) : f.bytes = pbytes f.pf := by
  unfold Fd.bytes pbytes
  rw [good_pf f h]
  simp only [Fd.pf, h]
  rfl
theorem recOf_pf : ∀ (fs : List Fd), (∀ f ∈ fs, f.b.length = f.n) → recOf fs = prec (fs.map Fd.pf)
  | [], _ => rfl
  | f :: r, h => by
    have := recOf_pf r fun g hg => h g (by simp [hg])
    simp only [recOf, prec, List.map_cons, List.flatten_cons] at *
    rw [bytes_pf f (h f (by simp)), this]
/-- What is told of fields in memory: they fit, their bytes are bytes. -/
theorem FHolds.fits {w : World} {B : Nat} {A : Option Addr} {n : Nat} {fs : List Fd} (h : FHolds w B A n fs) (hc : ∀ f ∈ fs, f.n ≤ maxLen) : (∀ p ∈ fs.map Fd.pf, pfits p) ∧ (∀ p ∈ fs.map Fd.pf, ∀ x ∈ p.2.2.2, x < 256) := by
  constructor
  · intro p hp
    obtain ⟨f, hf, rfl⟩ := List.mem_map.1 hp
    refine ⟨(h.2.1 f hf).2.1, ?_⟩
    have h1 := hc f hf
    have h2 : f.b.length = f.n := (h.2.1 f hf).2.2.2.1
    show f.b.length < _
    unfold maxLen at h1
    omega
  · intro p hp
    obtain ⟨f, hf, rfl⟩ := List.mem_map.1 hp
    exact (h.2.1 f hf).2.2.2.2.1

/-- Good fields of the same bytes are the same. -/
theorem prec_inj {ps qs : List PF} (hp : ∀ p ∈ ps, pgood p = true) (hq : ∀ p ∈ qs, pgood p = true) (fp : ∀ p ∈ ps, pfits p) (fq : ∀ p ∈ qs, pfits p)
    (sp : ∀ p ∈ ps, ∀ x ∈ p.2.2.2, x < 256) (sq : ∀ p ∈ qs, ∀ x ∈ p.2.2.2, x < 256) (h : prec ps = prec qs) : ps = qs := by
  have h1 := pread_prec [] (by simp) ps fp sp
  have h2 := pread_prec [] (by simp) qs fq sq
  rw [List.filter_eq_self.2 hp, readOn_end, List.append_nil] at h1
  rw [List.filter_eq_self.2 hq, readOn_end, List.append_nil] at h2
  rw [h, h2] at h1
  simpa using h1.symm

theorem World.ownsRow_lit4 (w : World) (e : TypeId) : (w.alloc (.cells #[] e)).ownsRow w.heap.size e 4 (.slice (some ⟨w.heap.size, 0, none⟩) 0 0) 0 (fcells []) :=
  ⟨rfl, .inr ⟨w.heap.size, 0, #[], rfl, Nat.le_refl _, heap_alloc_new w _, Nat.le_refl _, Nat.zero_le _, rfl, rfl⟩⟩
theorem fcells_append (a b : List Fd) : fcells (a ++ b) = fcells a ++ fcells b := by simp [fcells]

section
variable {P : Program} (w : World)
/-- 'append(row, l...)', the row the call's own, l whatever slice of fields. -/
theorem run_append_fields (base : Nat) (t ty e : TypeId) (i : TypeInfo) (z : Value) (ht : P.underlying t = some (.slice e)) (hi : P.info? e = some i) (hz : i.zero = some z)
    (hsize : i.size = 4) (hby : i.bytes = 48) (hzs : z.cells.size = 4)
    (v : Value) (n : Nat) (xs : List Fd) (hown : w.ownsRow base e 4 v n (fcells xs))
    (B : Nat) (A : Option Addr) (m c : Nat) (l : List Fd) (hl : FHolds w B A m l) (hroom : n + m ≤ 1000000000000) (hbase : base ≤ w.heap.size) :
    ∃ v' w', (Builtin.append_ #[t, t] ty #[v, .slice A m c]).run P w = .ok v' w' ∧ w'.ownsRow base e 4 v' (n + m) (fcells (xs ++ l)) ∧ w.grownBy w' v.ownBlock := by
  have hlen := hl.1
  rcases A with _ | ad
  · have hm : m = 0 := by
      rcases Nat.eq_zero_or_pos m with h | h
      · exact h
      · obtain ⟨_, _, h, _⟩ := hl.2.2 h
        cases h
    subst hm
    have : l = [] := List.eq_nil_of_length_eq_zero hlen
    subst this
    refine ⟨v, w, ?_, by simpa using hown, World.grownBy.refl w _⟩
    rcases hown.2 with ⟨rfl, rfl⟩ | ⟨g, cap, cur, rfl, _, _, hnc, _⟩
    · simp [Builtin.append_, run_underlying ht, sizeOf, typeInfo, hi, Builtin.lenOf, Builtin.firstCells]
    · simp [Builtin.append_, run_underlying ht, sizeOf, typeInfo, hi, Builtin.lenOf, Builtin.firstCells, hnc, storeCells]
  · obtain ⟨v', w', h1, h2, h3, _, _⟩ := run_append_own_at (P := P) w base t ty e i z 4 48 ht hi hz hsize hby hzs (by omega) v n (fcells xs) hown ad m c (fcells l) (by rw [fcells_len, hlen])
      (fun j u hu => by
        have hj : j < l.length * 4 := by
          have := (List.getElem?_eq_some_iff.1 hu).1
          rwa [fcells_len] at this
        have hq : j / 4 < l.length := by omega
        obtain ⟨b, off, h, _, hc⟩ := hl.2.2 (by omega)
        obtain rfl := Option.some.inj h
        have hr : j % 4 < (l[j / 4]).cells.size := by simp [Fd.cells]; omega
        have hf : l[j / 4]? = some l[j / 4] := List.getElem?_eq_getElem hq
        have hcell : (l[j / 4]).cells[j % 4]? = some ((l[j / 4]).cells[j % 4]) := Array.getElem?_eq_getElem hr
        have h5 := fcells_get l (j / 4) (j % 4) _ _ hf hcell
        have h6 := hc (j / 4) _ hf (j % 4) _ hcell
        rw [show j / 4 * 4 + j % 4 = j from by omega, hu] at h5
        rw [Addr.add_lit, show off + j = off + j / 4 * 4 + j % 4 from by omega, h6, ← h5]) (fcells_cell l) (by simp only [maxLen]; omega) (by omega) hbase
    exact ⟨v', w', h1, by rw [fcells_append]; exact h2, h3⟩

theorem wpList_append_fields {ops : Array Oper} {rest : List Oper} {o : Oper} {a : Act} {Q : Exit → Act → World → Prop} (hgd : o.guard = none) (s x : Operand) (t : TypeId)
    (ho : o.op = .call { callee := .builtin .append, args := #[s, x], argTypes := #[t, t] })
    (base : Nat) (e : TypeId) (i : TypeInfo) (z : Value) (ht : P.underlying t = some (.slice e)) (hi : P.info? e = some i) (hz : i.zero = some z)
    (hsize : i.size = 4) (hby : i.bytes = 48) (hzs : z.cells.size = 4)
    (v : Value) (n : Nat) (xs : List Fd) (hs : a.eval s = v) (hown : w.ownsRow base e 4 v n (fcells xs))
    (B : Nat) (A : Option Addr) (m c : Nat) (l : List Fd) (hx : a.eval x = .slice A m c) (hl : FHolds w B A m l) (hroom : n + m ≤ 1000000000000) (hbase : base ≤ w.heap.size)
    (h : ∀ v' w', w'.ownsRow base e 4 v' (n + m) (fcells (xs ++ l)) → w.grownBy w' v.ownBlock → wpList P ops Q rest (a.put o.dst v') w') : wpList P ops Q (o :: rest) a w := by
  refine wpList_plain hgd fun K hK => ?_
  obtain ⟨v', w', hr, h2, h3⟩ := run_append_fields (P := P) w base t o.type e i z ht hi hz hsize hby hzs v n xs hown B A m c l hl hroom hbase
  unfold Oper.wp execOp
  simp only [ho, resolve, invoke, builtin, Sem.run_bind, Sem.run_pure, Result.andThen_ok, List.map_toArray, List.map_cons, List.map_nil, hs, hx, hr]
  exact hK _ _ (h v' w' h2 h3)
theorem wpList_append_fields_if {ops : Array Oper} {rest : List Oper} {o : Oper} {a : Act} {Q : Exit → Act → World → Prop} (hw : Region.wanted o (yielded ops a.tmps) = true) (s x : Operand) (t : TypeId)
    (ho : o.op = .call { callee := .builtin .append, args := #[s, x], argTypes := #[t, t] })
    (base : Nat) (e : TypeId) (i : TypeInfo) (z : Value) (ht : P.underlying t = some (.slice e)) (hi : P.info? e = some i) (hz : i.zero = some z)
    (hsize : i.size = 4) (hby : i.bytes = 48) (hzs : z.cells.size = 4)
    (v : Value) (n : Nat) (xs : List Fd) (hs : a.eval s = v) (hown : w.ownsRow base e 4 v n (fcells xs))
    (B : Nat) (A : Option Addr) (m c : Nat) (l : List Fd) (hx : a.eval x = .slice A m c) (hl : FHolds w B A m l) (hroom : n + m ≤ 1000000000000) (hbase : base ≤ w.heap.size)
    (h : ∀ v' w', w'.ownsRow base e 4 v' (n + m) (fcells (xs ++ l)) → w.grownBy w' v.ownBlock → wpList P ops Q rest (a.put o.dst v') w') : wpList P ops Q (o :: rest) a w := by
  refine BigFrame.wpList_want hw fun K hK => ?_
  obtain ⟨v', w', hr, h2, h3⟩ := run_append_fields (P := P) w base t o.type e i z ht hi hz hsize hby hzs v n xs hown B A m c l hl hroom hbase
  unfold Oper.wp execOp
  simp only [ho, resolve, invoke, builtin, Sem.run_bind, Sem.run_pure, Result.andThen_ok, List.map_toArray, List.map_cons, List.map_nil, hs, hx, hr]
  exact hK _ _ (h v' w' h2 h3)
end
theorem later_grown {w w' : World} {base e size n : Nat} {v : Value} {xs : List Value} (ho : w.ownsRow base e size v n xs) (hb : base ≤ w.heap.size) (hg : w.grownBy w' v.ownBlock) : Below base w w' :=
  (Below.refl _ _).grown hg hb fun k hk => (ho.lt k hk).1
end Go.Proofs.Ytjfcakpglbpeaaa
