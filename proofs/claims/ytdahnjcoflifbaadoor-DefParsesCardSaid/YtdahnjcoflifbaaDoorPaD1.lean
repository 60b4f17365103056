/- Whatever text comes in: DefParses returns true and changes no argument. Conditions: the package-level table of package def starts as the program's text lays it; the argument takes up what the row allows. -/
import Derived.Test.YtdahnjcoflifbaaDoorBaseD1
import Derived.Test.YtdahnjcoflifbaaDoorBaseD2
import Derived.Test.YtdahnjcoflifbaaDoorBaseD3
import Derived.Test.YtdahnjcoflifbaaDoorCards
import Derived.Test.YtdahnjcoflifbaaDoorTie
import Derived.SevenTiedAt
import Derived.ShutString
import Derived.ChangeOld
import Derived.ChangeMaps5
/- The document's reader: fail, is, want, one. -/
namespace Go.Proofs.YtdahnjcoflifbaaDoor
open Go.RowKit

/-- Where the document's reader stands: the place of the next token, or the text's end. -/
def spot (z : Nat) (L : List Tok) : Nat := (L.head?.map (·.at_)).getD z
/-- The document's reader in block g. -/
def RRd (g z : Nat) (r : Rd) (w : World) : Prop := ∃ (tv : Value) (a : Nat), w.heap[g]? = some (.cells #[tv, .int .i64 (z : Int), .bool r.bad, .int .i64 (a : Int)] 60 (0, 0)) ∧
  FlatAt (· < g) w 4 tv r.l.length (r.l.flatMap Tok.cells) ∧ (r.bad = true → a = spot z r.l)
theorem RRd.lt {g z : Nat} {r : Rd} {w : World} (h : RRd g z r w) : g < w.heap.size := by
  obtain ⟨_, _, h, _⟩ := h
  exact lt_of_block h
theorem RRd.own {g z k : Nat} {r : Rd} {w w' : World} (h : RRd g z r w) (hw : w.grownBy w' (some k)) (hk : g < k) : RRd g z r w' := by
  obtain ⟨tv, a, h1, h2, h3⟩ := h
  exact ⟨tv, a, (hw.block g (lt_of_block h1) (by intro e; have := Option.some.inj e; omega)).trans h1, h2.kept ⟨hw.size, fun i hi hg => hw.block i hi (by intro e; have := Option.some.inj e; simp only at hg; omega)⟩, h3⟩
theorem RRd.later {g z : Nat} {r : Rd} {w w' : World} (h : RRd g z r w) (hl : Later w w') : RRd g z r w' := by
  obtain ⟨tv, a, h1, h2, h3⟩ := h
  exact ⟨tv, a, (Below.block hl g (lt_of_block h1)).trans h1, h2.kept (Kept.of_below hl _), h3⟩
theorem grown_of_later {w w' : World} (h : Later w w') (k : Option Nat) : w.grownBy w' k := ⟨h.os, h.tape, h.output, Below.size h, fun j hj _ => Below.block h j hj⟩

theorem rtoks_from {op : Oper} {a : Act} {w : World} (x y : Operand) (ho : op.op = .slice 55 x (some y) none none) (A : Option Addr) (n c lo : Nat) (v : Value) (hv : sliced A lo n c 4 = v) (hx : a.eval x = .slice A n c) (hy : a.eval y = .int .i64 (lo : Int)) (h1 : lo ≤ n) :
    (execOp a.eval op).run Tryd.prog w = .ok (.value v) w := by
  rw [← hv]
  have ht : Tryd.prog.underlying 55 = some (.slice (Tryd.prog.elem 55)) := by kernel_rfl
  obtain ⟨i0, hi0, hz0, hz1, hz2⟩ := info_parts (show (Tryd.prog.info? (Tryd.prog.elem 55)).map (fun i => (i.zero, i.size, i.bytes)) = some (some (.agg #[.int .i64 0, .string ⟨#[]⟩, .int .i64 0, .int .i64 0]), 4, 40) from by kernel_rfl)
  have hr := run_slice_l (P := Tryd.prog) w 55 A n c ht .i64 (lo : Int) (by omega) (by omega)
  have hs : (sizeOf (Tryd.prog.elem 55)).run Tryd.prog w = .ok 4 w := by simp [sizeOf, typeInfo, hi0, hz1]
  rw [hs] at hr
  simp only [Result.andThen, Int.toNat_natCast] at hr
  unfold execOp
  simp only [ho, hx, hy, Option.map_some, Option.map_none, Sem.run_bind, Sem.run_pure]
  rw [run_sliceAt_slice _ _ _ _ _ _ ht, hr]
  rfl

/-- The reader's cells. -/
theorem RRd.cells {g z : Nat} {r : Rd} {w : World} (h : RRd g z r w) : ∃ (A : Option Addr) (n c a : Nat), w.cell? ⟨g, 0, none⟩ = some (.slice A n c) ∧ w.cell? ⟨g, 1, none⟩ = some (.int .i64 (z : Int)) ∧ w.cell? ⟨g, 2, none⟩ = some (.bool r.bad) ∧ w.cell? ⟨g, 3, none⟩ = some (.int .i64 (a : Int)) ∧
    w.frozen? ⟨g, 0, none⟩ = false ∧ w.frozen? ⟨g, 2, none⟩ = false ∧ w.frozen? ⟨g, 3, none⟩ = false ∧ n = r.l.length ∧ n ≤ c ∧ c ≤ maxLen ∧ FlatAt (· < g) w 4 (.slice A n c) r.l.length (r.l.flatMap Tok.cells) ∧
    w.heap[g]? = some (.cells #[.slice A n c, .int .i64 (z : Int), .bool r.bad, .int .i64 (a : Int)] 60 (0, 0)) ∧ (r.bad = true → a = spot z r.l) := by
  obtain ⟨tv, a, h1, h2, h3⟩ := h
  obtain ⟨A, c, rfl, hc1, hc2, _⟩ := h2.shape
  exact ⟨A, r.l.length, c, a, by simpa using cell_of_row w g 0 _ _ _ h1, by simpa using cell_of_row w g 1 _ _ _ h1, by simpa using cell_of_row w g 2 _ _ _ h1, by simpa using cell_of_row w g 3 _ _ _ h1,
    frozen_of_row w g 0 _ _ h1, frozen_of_row w g 2 _ _ h1, frozen_of_row w g 3 _ _ h1, rfl, hc1, hc2, h2, h1, h3⟩
/-- A store into the reader's own block. -/
theorem RRd.set {g z : Nat} {r' : Rd} {w w' : World} (hw : w.grownBy w' (some g)) {tv : Value} {a : Nat} (hb : w'.heap[g]? = some (.cells #[tv, .int .i64 (z : Int), .bool r'.bad, .int .i64 (a : Int)] 60 (0, 0)))
    (ht : FlatAt (· < g) w 4 tv r'.l.length (r'.l.flatMap Tok.cells)) (ha : r'.bad = true → a = spot z r'.l) : RRd g z r' w' :=
  ⟨tv, a, hb, ht.kept ⟨hw.size, fun i hi hg => hw.block i hi (by intro e; have := Option.some.inj e; simp only at hg; omega)⟩, ha⟩

section
variable {w : World}
set_option maxHeartbeats 4000000 in
theorem rfail_any {g z : Nat} {r : Rd} (h : RRd g z r w) :
    Calls Tryd.prog 27 #[.pointer (some ⟨g, 0, none⟩)] w fun e w' => e = .returned (.tuple #[]) ∧ RRd g z ⟨r.l, true⟩ w' ∧ w.grownBy w' (some g) := by
  have H := hide h
  have hg := h.lt
  obtain ⟨A, n, c, a, c0, c1, c2, c3, f0, f2, f3, hn, hnc, hcm, ht, hb, ha⟩ := h.cells
  obtain ⟨l, bad⟩ := r
  simp only at c2 hn ht hb ha
  cases bad with
  | true =>
    clear h ht hb ha hn hnc hcm
    go_enter Tryd.func27, Tryd.ntmps27
    go_wp2
    go_end0
    exact ⟨rfl, H.out, World.grownBy.refl _ _⟩
  | false =>
    have G2 : Hid (w.grownBy ((w.setCell ⟨g, 2, none⟩ (.bool true)).setCell ⟨g, 3, none⟩ (.int .i64 (z : Int))) (some g)) := (grown_cell w ⟨g, 2, none⟩ _).trans (grown_cell _ ⟨g, 3, none⟩ _)
    have b1 := heap_setCell_same w g 2 _ _ (.bool true) hb
    have b2 : ((w.setCell ⟨g, 2, none⟩ (.bool true)).setCell ⟨g, 3, none⟩ (.int .i64 (z : Int))).heap[g]? = some (.cells #[.slice A n c, .int .i64 (z : Int), .bool true, .int .i64 (z : Int)] 60 (0, 0)) := by simpa using heap_setCell_same _ g 3 _ _ (.int .i64 (z : Int)) b1
    have B2 := hide b2
    cases l with
    | nil =>
      have hn0 : n = 0 := by simpa using hn
      subst hn0
      have HR : Hid (RRd g z ⟨[], true⟩ ((w.setCell ⟨g, 2, none⟩ (.bool true)).setCell ⟨g, 3, none⟩ (.int .i64 (z : Int)))) := RRd.set G2.out (r' := ⟨[], true⟩) B2.out (by simpa using ht) (fun _ => rfl)
      have e0 : ((w.setCell ⟨g, 2, none⟩ (.bool true)).setCell ⟨g, 3, none⟩ (.int .i64 (z : Int))).cell? ⟨g, 0, none⟩ = some (.slice A 0 c) := by simpa using cell_of_row _ g 0 _ _ _ b2
      clear h ht hb ha hn hnc hcm b1 b2
      go_enter Tryd.func27, Tryd.ntmps27
      go_wp2
      go_end0
      exact ⟨rfl, HR.out, G2.out⟩
    | cons t L =>
      obtain ⟨b, off, n', c', hv, hne, hnc', hcm', hbg, hbs, hr⟩ := RdRaw.head (L := L) ht
      obtain ⟨rfl, rfl, rfl⟩ : A = some ⟨b, off, none⟩ ∧ n = n' ∧ c = c' := by injection hv with e1 e2 e3; exact ⟨e1, e2, e3⟩
      have hr2 : ((w.setCell ⟨g, 2, none⟩ (.bool true)).setCell ⟨g, 3, none⟩ (.int .i64 (z : Int))).rangeAt b off t.cells := fun j u hj => by
        rw [World.cell?_of_block (G2.out.block b hbs (by intro e; have := Option.some.inj e; omega))]
        exact hr j u hj
      obtain ⟨d0, d1, d2, d3⟩ := range4 hr2
      have G3 : Hid (w.grownBy (((w.setCell ⟨g, 2, none⟩ (.bool true)).setCell ⟨g, 3, none⟩ (.int .i64 (z : Int))).setCell ⟨g, 3, none⟩ (.int .i64 (t.at_ : Int))) (some g)) := G2.out.trans (grown_cell _ ⟨g, 3, none⟩ _)
      have HR : Hid (RRd g z ⟨t :: L, true⟩ (((w.setCell ⟨g, 2, none⟩ (.bool true)).setCell ⟨g, 3, none⟩ (.int .i64 (z : Int))).setCell ⟨g, 3, none⟩ (.int .i64 (t.at_ : Int)))) :=
        RRd.set G3.out (r' := ⟨t :: L, true⟩) (tv := .slice (some ⟨b, off, none⟩) n c) (a := t.at_) (by simpa using heap_setCell_same _ g 3 _ _ (.int .i64 (t.at_ : Int)) b2) ht (fun _ => rfl)
      have e0 : ((w.setCell ⟨g, 2, none⟩ (.bool true)).setCell ⟨g, 3, none⟩ (.int .i64 (z : Int))).cell? ⟨g, 0, none⟩ = some (.slice (some ⟨b, off, none⟩) n c) := by simpa using cell_of_row _ g 0 _ _ _ b2
      have hn1 : (0 : Int) < (n : Int) := by omega
      have hn2 : 0 < n := by omega
      have hbz : b < ((w.setCell ⟨g, 2, none⟩ (.bool true)).setCell ⟨g, 3, none⟩ (.int .i64 (z : Int))).heap.size := Nat.lt_of_lt_of_le hbs G2.out.size
      have ff3 := frozen_of_row _ g 3 _ _ b2
      clear h ht hb ha hn hnc hcm b1 b2 hv hne hnc' hcm' hr hr2
      go_enter Tryd.func27, Tryd.ntmps27
      go_wp2
      go_end0
      exact ⟨rfl, HR.out, G3.out⟩

set_option maxHeartbeats 4000000 in
theorem ris_any {g z : Nat} {r : Rd} (s : List UInt8) (h : RRd g z r w) :
    Calls Tryd.prog 26 #[.pointer (some ⟨g, 0, none⟩), .string ⟨s.toArray⟩] w fun e w' => e = .returned (.bool (isP (justF s) r)) ∧ RRd g z (mayP (justF s) r) w' ∧ w.grownBy w' (some g) := by
  have H := hide h
  have hg := h.lt
  obtain ⟨A, n, c, a, c0, c1, c2, c3, f0, f2, f3, hn, hnc, hcm, ht, hb, ha⟩ := h.cells
  obtain ⟨l, bad⟩ := r
  simp only at c2 hn ht hb ha
  cases bad with
  | true =>
    have hq : isP (justF s) ⟨l, true⟩ = false := rfl
    have hm : mayP (justF s) ⟨l, true⟩ = ⟨l, true⟩ := rfl
    rw [hq, hm]
    clear h ht hb ha hn hnc hcm hq hm
    go_enter Tryd.func26, Tryd.ntmps26
    go_wp2
    go_ret
    exact ⟨rfl, H.out, World.grownBy.refl _ _⟩
  | false =>
    cases l with
    | nil =>
      have hn0 : n = 0 := by simpa using hn
      subst hn0
      have hq : isP (justF s) ⟨[], false⟩ = false := rfl
      have hm : mayP (justF s) ⟨[], false⟩ = ⟨[], false⟩ := rfl
      rw [hq, hm]
      clear h ht hb ha hn hnc hcm hq hm
      go_enter Tryd.func26, Tryd.ntmps26
      go_wp2
      go_ret
      exact ⟨rfl, H.out, World.grownBy.refl _ _⟩
    | cons t L =>
      obtain ⟨b, off, n', c', hv, hne, hnc', hcm', hbg, hbs, hr⟩ := RdRaw.head (L := L) ht
      obtain ⟨rfl, rfl, rfl⟩ : A = some ⟨b, off, none⟩ ∧ n = n' ∧ c = c' := by injection hv with e1 e2 e3; exact ⟨e1, e2, e3⟩
      obtain ⟨d0, d1, d2, d3⟩ := range4 hr
      have hn1 : ((n : Int) == 0) = false := by simp; omega
      have hn2 : 0 < n := by omega
      have hn3 : ¬ n = 0 := by omega
      obtain ⟨q, hq⟩ : ∃ q, justF s t = q := ⟨_, rfl⟩
      have hst : ((⟨t.s.toArray⟩ : ByteArray).toList == (⟨s.toArray⟩ : ByteArray).toList) = q := by rw [str_tok, ← hq]; rfl
      have hst2 : (t.s == s) = q := by rw [← hq]; unfold justF; rw [Bool.eq_iff_iff]; simp
      have hi : isP (justF s) ⟨t :: L, false⟩ = q := hq
      have hm : mayP (justF s) ⟨t :: L, false⟩ = if q then ⟨L, false⟩ else ⟨t :: L, false⟩ := by unfold mayP; rw [hi]; rfl
      rw [hi, hm]
      clear hi hm hq
      cases q with
      | false =>
        clear h ht hb ha hn hnc hcm hv hne hnc' hcm' hr
        go_enter Tryd.func26, Tryd.ntmps26
        go_wp2
        go_ret
        exact ⟨rfl, H.out, World.grownBy.refl _ _⟩
      | true =>
        obtain ⟨vs, hvs⟩ : ∃ vs, sliced (some ⟨b, off, none⟩) 1 n c 4 = vs := ⟨_, rfl⟩
        have htl : FlatAt (· < g) w 4 vs L.length (L.flatMap Tok.cells) := by
          subst hne
          have := Sd.FlatAt.tail ht (lo := 1) (by simp)
          rw [hvs] at this
          simpa [List.drop_append, Tok.cells] using this
        obtain ⟨A1, k1, rfl, hk1, hk2, _⟩ := FlatAt.shape htl
        have GS : Hid (w.grownBy (w.setCell ⟨g, 0, none⟩ (.slice A1 L.length k1)) (some g)) := grown_cell w ⟨g, 0, none⟩ _
        have HS : Hid (RRd g z ⟨L, false⟩ (w.setCell ⟨g, 0, none⟩ (.slice A1 L.length k1))) := RRd.set GS.out (r' := ⟨L, false⟩) (a := a) (by simpa using heap_setCell_same w g 0 _ _ (.slice A1 L.length k1) hb) htl (fun h => by cases h)
        have HVS := hide hvs
        clear h ht hb ha hn hnc hcm hv hne hnc' hcm' hr htl hvs hk1 hk2
        go_enter Tryd.func26, Tryd.ntmps26
        go_wp2_with (refine wpList_val rfl (by rfl) (rtoks_from (.tmp 32) (.const (.int .i64 1)) (by rfl) (some ⟨b, off, none⟩) n c 1 (.slice A1 L.length k1) HVS.out (by rfl) (by rfl) hn2) ?_)
        go_ret
        exact ⟨rfl, HS.out, GS.out⟩

set_option maxHeartbeats 4000000 in
theorem rwant_any {g z : Nat} {r : Rd} (s : List UInt8) (h : RRd g z r w) :
    Calls Tryd.prog 24 #[.pointer (some ⟨g, 0, none⟩), .string ⟨s.toArray⟩] w fun e w' => e = .returned (.tuple #[]) ∧ RRd g z (mustP (justF s) r) w' ∧ w.grownBy w' (some g) := by
  have C := hide (ris_any s h)
  obtain ⟨q, hq⟩ : ∃ q, isP (justF s) r = q := ⟨_, rfl⟩
  have HQ := hide hq
  rw [hq] at C
  clear h hq
  cases q with
  | true =>
    go_enter Tryd.func24, Tryd.ntmps24
    go_wp2_with (fail)
    refine C.out.mono ?_
    rintro e w1 ⟨rfl, h1, g1⟩
    have hm : mayP (justF s) r = mustP (justF s) r := by unfold mayP mustP; rw [HQ.out]; rfl
    rw [hm] at h1
    have H1 := hide h1
    have G1 := hide g1
    clear h1 g1 hm C
    go_wp2
    go_end0
    exact ⟨rfl, H1.out, G1.out⟩
  | false =>
    go_enter Tryd.func24, Tryd.ntmps24
    go_wp2_with (fail)
    refine C.out.mono ?_
    rintro e w1 ⟨rfl, h1, g1⟩
    have hm : mayP (justF s) r = r := by unfold mayP; rw [HQ.out]; rfl
    have hm2 : mustP (justF s) r = ⟨r.l, true⟩ := by unfold mustP; rw [HQ.out]; rfl
    rw [hm] at h1
    have C2 := hide (rfail_any h1)
    have G1 := hide g1
    have HM2 := hide hm2
    clear h1 g1 hm C hm2
    go_wp2_with (fail)
    refine C2.out.mono ?_
    rintro e w2 ⟨rfl, h2, g2⟩
    rw [← HM2.out] at h2
    have H2 := hide h2
    have G2 := hide (G1.out.trans g2)
    clear h2 g2 C2
    go_wp2
    go_end0
    exact ⟨rfl, H2.out, G2.out⟩

set_option maxHeartbeats 8000000 in
theorem rone_any {g z k : Nat} {r : Rd} (h : RRd g z r w) :
    Calls Tryd.prog 25 #[.pointer (some ⟨g, 0, none⟩), .int .i64 (k : Int)] w fun e w' => e = .returned (.agg (tokP (someF k) r).cells.toArray) ∧ RRd g z (mustP (someF k) r) w' ∧ w.grownBy w' (some g) := by
  obtain ⟨W0, hW0⟩ : ∃ W0, W0 = w.alloc (.cells #[.int .i64 0, .string ⟨#[]⟩, .int .i64 0, .int .i64 0] 63 (0, 0)) := ⟨_, rfl⟩
  have X0 : Hid (W0.heap[w.heap.size]? = some (.cells #[.int .i64 0, .string ⟨#[]⟩, .int .i64 0, .int .i64 0] 63 (0, 0))) := by rw [hW0]; exact heap_alloc_new w _
  have L0 : Hid (Later w W0) := by rw [hW0]; exact (Below.refl _ _).alloc (Nat.le_refl _) _
  have hg := h.lt
  have H0 := hide (h.later L0.out)
  have CF := hide (rfail_any H0.out)
  have HW0 := hide hW0.symm
  obtain ⟨A, n, c, a, c0, c1, c2, c3, f0, f2, f3, hn, hnc, hcm, ht, hb, ha⟩ := h.cells
  have fin : ∀ Wa w1 w2 : World, Later w Wa → Wa.grownBy w1 (some g) → w1.grownBy w2 (some w.heap.size) → w.grownBy w2 (some g) := fun Wa w1 w2 k0 k1 k2 =>
    ⟨k2.os.trans (k1.os.trans k0.os), k2.tape.trans (k1.tape.trans k0.tape), k2.output.trans (k1.output.trans k0.output), Nat.le_trans (Below.size k0) (Nat.le_trans k1.size k2.size), fun j hj hjg => by
      have s1 := Below.size k0
      have s2 := k1.size
      rw [k2.block j (by omega) (by intro e; have := Option.some.inj e; omega), k1.block j (by omega) hjg]
      exact Below.block k0 j hj⟩
  have FIN := hide fin
  clear h hW0 fin
  obtain ⟨l, bad⟩ := r
  simp only at c2 hn ht hb ha CF
  cases bad with
  | true =>
    have hq : tokP (someF k) ⟨l, true⟩ = noTok := rfl
    have hm : mustP (someF k) ⟨l, true⟩ = ⟨l, true⟩ := rfl
    rw [hq, hm]
    clear ht hb ha hn hnc hcm hq hm
    go_enter Tryd.func25, Tryd.ntmps25
    go_wp2_with (fail)
    have hw := HW0.out
    simp only [hw]
    clear hw
    refine CF.out.mono ?_
    rintro e w1 ⟨rfl, h1, g1⟩
    have X1 := hide ((g1.block w.heap.size (lt_of_block X0.out) (by intro e; have := Option.some.inj e; omega)).trans X0.out)
    have H1 := hide h1
    have G1 := hide g1
    clear h1 g1 CF
    go_wp2_with (refine wpList_store_box (by rfl) 63 (.tmp 4) (.tmp 31) (by rfl) w.heap.size 0 #[.int .i64 0, .string ⟨#[]⟩, .int .i64 0, .int .i64 0] (by rfl) (by rfl) 63 _ X1.out (by kernel_rfl) (by simp) (by simp [Value.oneCell']) ?_; intro w2 hx2 hg2)
    exact bodyPost_ret (results_cell_row Tryd.results25 _ _ w.heap.size 63 _ (0, 0) _ (by rfl) hx2 Tryd.underlying63 (by rfl) (by kernel_rfl)) rfl ⟨rfl, H1.out.own hg2 hg, FIN.out _ _ _ L0.out G1.out hg2⟩
  | false =>
    cases l with
    | nil =>
      have hn0 : n = 0 := by simpa using hn
      subst hn0
      have hq : tokP (someF k) ⟨[], false⟩ = noTok := rfl
      have hm : mustP (someF k) ⟨[], false⟩ = ⟨[], true⟩ := rfl
      rw [hq, hm]
      clear ht hb ha hn hnc hcm hq hm
      go_enter Tryd.func25, Tryd.ntmps25
      go_wp2_with (fail)
      have hw := HW0.out
      simp only [hw]
      clear hw
      refine CF.out.mono ?_
      rintro e w1 ⟨rfl, h1, g1⟩
      have X1 := hide ((g1.block w.heap.size (lt_of_block X0.out) (by intro e; have := Option.some.inj e; omega)).trans X0.out)
      have H1 := hide h1
      have G1 := hide g1
      clear h1 g1 CF
      go_wp2_with (refine wpList_store_box (by rfl) 63 (.tmp 4) (.tmp 31) (by rfl) w.heap.size 0 #[.int .i64 0, .string ⟨#[]⟩, .int .i64 0, .int .i64 0] (by rfl) (by rfl) 63 _ X1.out (by kernel_rfl) (by simp) (by simp [Value.oneCell']) ?_; intro w2 hx2 hg2)
      exact bodyPost_ret (results_cell_row Tryd.results25 _ _ w.heap.size 63 _ (0, 0) _ (by rfl) hx2 Tryd.underlying63 (by rfl) (by kernel_rfl)) rfl ⟨rfl, H1.out.own hg2 hg, FIN.out _ _ _ L0.out G1.out hg2⟩
    | cons t L =>
      obtain ⟨b, off, n', c', hv, hne, hnc', hcm', hbg, hbs, hr⟩ := RdRaw.head (L := L) ht
      obtain ⟨rfl, rfl, rfl⟩ : A = some ⟨b, off, none⟩ ∧ n = n' ∧ c = c' := by injection hv with e1 e2 e3; exact ⟨e1, e2, e3⟩
      obtain ⟨d0, d1, d2, d3⟩ := range4 hr
      have hn1 : ((n : Int) == 0) = false := by simp; omega
      have hn2 : 0 < n := by omega
      have hn3 : ¬ n = 0 := by omega
      by_cases hk : t.k = k
      · have hkk : (t.k == k) = true := by simpa using hk
        have hi : isP (someF k) ⟨t :: L, false⟩ = true := by simp [isP, someF, hk]
        have hq : tokP (someF k) ⟨t :: L, false⟩ = t := by unfold tokP; rw [hi]; rfl
        have hm : mustP (someF k) ⟨t :: L, false⟩ = ⟨L, false⟩ := by unfold mustP; rw [hi]; rfl
        rw [hq, hm]
        subst hk
        obtain ⟨vs, hvs⟩ : ∃ vs, sliced (some ⟨b, off, none⟩) 1 n c 4 = vs := ⟨_, rfl⟩
        have htl : FlatAt (· < g) w 4 vs L.length (L.flatMap Tok.cells) := by
          subst hne
          have := Sd.FlatAt.tail ht (lo := 1) (by simp)
          rw [hvs] at this
          simpa [List.drop_append, Tok.cells] using this
        obtain ⟨A1, k1, rfl, hk1, hk2, _⟩ := FlatAt.shape htl
        have GS : Hid (w.grownBy (w.setCell ⟨g, 0, none⟩ (.slice A1 L.length k1)) (some g)) := grown_cell w ⟨g, 0, none⟩ _
        have HS : Hid (RRd g z ⟨L, false⟩ (w.setCell ⟨g, 0, none⟩ (.slice A1 L.length k1))) := RRd.set GS.out (r' := ⟨L, false⟩) (a := a) (by simpa using heap_setCell_same w g 0 _ _ (.slice A1 L.length k1) hb) htl (fun h => by cases h)
        have LL : Hid (Later (w.setCell ⟨g, 0, none⟩ (.slice A1 L.length k1)) (((w.setCell ⟨g, 0, none⟩ (.slice A1 L.length k1)).alloc (.cells t.cells.toArray 63 (0, 0))).alloc (.cells t.cells.toArray 63 (0, 0)))) := ((Below.refl _ _).alloc (Nat.le_refl _) _).alloc (by simp) _
        have HXX : Hid ((((w.setCell ⟨g, 0, none⟩ (.slice A1 L.length k1)).alloc (.cells t.cells.toArray 63 (0, 0))).alloc (.cells t.cells.toArray 63 (0, 0))).heap[w.heap.size]? = some (.cells t.cells.toArray 63 (0, 0))) := by
          have hss : (w.setCell ⟨g, 0, none⟩ (.slice A1 L.length k1)).heap.size = w.heap.size := by simp [World.setCell]
          show _ = _
          rw [← hss]
          exact heap_alloc2_old _ _ _
        have HVS := hide hvs
        unfold Tok.cells at LL HXX ⊢
        clear ht hb ha hn hnc hcm hv hne hnc' hcm' hr hvs htl hk1 hk2 hi hq hm X0 L0 H0 CF HW0 FIN
        go_enter Tryd.func25, Tryd.ntmps25
        go_wp2_with (refine wpList_val rfl (by rfl) (rtoks_from (.tmp 42) (.const (.int .i64 1)) (by rfl) (some ⟨b, off, none⟩) n c 1 (.slice A1 L.length k1) HVS.out (by rfl) (by rfl) hn2) ?_)
        exact bodyPost_ret (results_cell_row Tryd.results25 _ _ w.heap.size 63 _ (0, 0) _ (by rfl) HXX.out Tryd.underlying63 (by rfl) (by kernel_rfl)) rfl ⟨rfl, HS.out.later LL.out, GS.out.trans (grown_of_later LL.out _)⟩
      · have hkk : (t.k == k) = false := by simpa using hk
        have hi : isP (someF k) ⟨t :: L, false⟩ = false := by simp [isP, someF, hk]
        have hq : tokP (someF k) ⟨t :: L, false⟩ = noTok := by unfold tokP; rw [hi]; rfl
        have hm : mustP (someF k) ⟨t :: L, false⟩ = ⟨t :: L, true⟩ := by unfold mustP; rw [hi]; rfl
        rw [hq, hm]
        clear ht hb ha hn hnc hcm hv hne hnc' hcm' hr hi hq hm
        go_enter Tryd.func25, Tryd.ntmps25
        go_wp2_with (fail)
        have hw := HW0.out
        simp only [hw]
        clear hw
        refine CF.out.mono ?_
        rintro e w1 ⟨rfl, h1, g1⟩
        have X1 := hide ((g1.block w.heap.size (lt_of_block X0.out) (by intro e; have := Option.some.inj e; omega)).trans X0.out)
        have H1 := hide h1
        have G1 := hide g1
        clear h1 g1 CF
        go_wp2_with (refine wpList_store_box (by rfl) 63 (.tmp 4) (.tmp 31) (by rfl) w.heap.size 0 #[.int .i64 0, .string ⟨#[]⟩, .int .i64 0, .int .i64 0] (by rfl) (by rfl) 63 _ X1.out (by kernel_rfl) (by simp) (by simp [Value.oneCell']) ?_; intro w2 hx2 hg2)
        exact bodyPost_ret (results_cell_row Tryd.results25 _ _ w.heap.size 63 _ (0, 0) _ (by rfl) hx2 Tryd.underlying63 (by rfl) (by kernel_rfl)) rfl ⟨rfl, H1.out.own hg2 hg, FIN.out _ _ _ L0.out G1.out hg2⟩
end
end Go.Proofs.YtdahnjcoflifbaaDoor
/- The document's Check. -/
namespace Go.Proofs.YtdahnjcoflifbaaDoor
open Go.RowKit

section
variable {w : World}
theorem decide_gt (a b : Int) : decide (a > b) = decide (b < a) := rfl
set_option maxHeartbeats 16000000 in
set_option maxRecDepth 100000 in
theorem rcheck_any {F : Nat → Prop} {name : ByteArray} {v : Value} {steps : List StepD} (h : StepsAt F w v steps) :
    Calls Tryd.prog 15 #[.agg #[.string name, v]] w fun e w' => e = .returned (.tuple #[.int .i64 (((checkF name steps).1 : Nat) : Int), .int .i64 (((checkF name steps).2 : Nat) : Int)]) ∧ Later w w' := by
  obtain ⟨A, cap, rfl, hc1, hc2, _⟩ := FlatAt.shape h
  obtain ⟨n, hn⟩ : ∃ n, steps.length = n := ⟨_, rfl⟩
  rw [hn] at h hc1 ⊢
  obtain ⟨c1, hc1'⟩ : ∃ c, (checkF name steps).1 = c := ⟨_, rfl⟩
  obtain ⟨c2, hc2'⟩ : ∃ c, (checkF name steps).2 = c := ⟨_, rfl⟩
  rw [hc1', hc2']
  have HC1 := hide hc1'
  have HC2 := hide hc2'
  obtain ⟨W1, hW1⟩ : ∃ W1, W1 = w.alloc (.cells #[.string name, .slice A n cap] 25 (0, 0)) := ⟨_, rfl⟩
  obtain ⟨y, hy⟩ : ∃ y, y = w.heap.size := ⟨_, rfl⟩
  have B1 : Hid (W1.heap[y]? = some (.cells #[.string name, .slice A n cap] 25 (0, 0))) := by rw [hW1, hy]; exact heap_alloc_new w _
  have L1 : Hid (Later w W1) := by rw [hW1]; exact (Below.refl _ _).alloc (Nat.le_refl _) _
  have CN := hide (refName_any (w := W1) name)
  obtain ⟨q0, hq0⟩ : ∃ q, nameF name.data.toList = q := ⟨_, rfl⟩
  rw [hq0] at CN
  have HBAD : Hid ((!nameF name.data.toList || (decide (steps.length < 1) || decide (8 < steps.length))) = (!q0 || (decide (n < 1) || decide (8 < n)))) := by show _ = _; rw [hq0, hn]
  have H := hide h
  have HN := hide hn
  have HW1 := hide hW1.symm
  have HY := hide hy.symm
  clear h hn hW1 hy hc1' hc2' hq0
  go_enter Tryd.func15, Tryd.ntmps15
  go_wp2_with (fail)
  have hw := HW1.out
  have hyy := HY.out
  simp only [hw, hyy]
  clear hw hyy
  have c0 : W1.cell? ⟨y, 0, none⟩ = some (.string name) := (cell_of_row W1 y 0 _ _ _ B1.out).trans rfl
  have hy1 : y < W1.heap.size := lt_of_block B1.out
  go_wp2_with (fail)
  refine CN.out.mono ?_
  rintro e w2 ⟨rfl, hl2⟩
  have L2 := hide (L1.out.trans hl2)
  have B2 : Hid (w2.heap[y]? = some (.cells #[.string name, .slice A n cap] 25 (0, 0))) := (Below.block hl2 y (lt_of_block B1.out)).trans B1.out
  have c1' : w2.cell? ⟨y, 1, none⟩ = some (.slice A n cap) := (cell_of_row w2 y 1 _ _ _ B2.out).trans rfl
  have hy2 : y < w2.heap.size := lt_of_block B2.out
  clear CN hl2 L1 c0 hy1
  by_cases hbad : (!q0 || (decide (n < 1) || decide (8 < n))) = true
  · have HF : Hid (checkF name steps = (0, 2)) := by show _ = _; unfold checkF; rw [HBAD.out, hbad]; rfl
    have e1 : c1 = 0 := by rw [← HC1.out, HF.out]
    have e2 : c2 = 2 := by rw [← HC2.out, HF.out]
    have E1 := hide e1
    have E2 := hide e2
    clear e1 e2
    cases q0 with
    | false =>
      clear hbad HBAD
      go_wp2
      go_ret2
      exact ⟨by rw [E1.out, E2.out]; rfl, L2.out⟩
    | true =>
      by_cases h1 : n < 1
      · have k1 : decide ((n : Int) < 1) = true := decide_eq_true (by omega)
        clear hbad HBAD
        go_wp2
        go_ret2
        exact ⟨by rw [E1.out, E2.out]; rfl, L2.out⟩
      · have k1 : decide ((n : Int) < 1) = false := decide_eq_false (by omega)
        have h8 : 8 < n := by simp at hbad; omega
        have k2 : decide ((n : Int) > 8) = true := decide_eq_true (by omega)
        clear hbad HBAD
        go_wp2
        go_ret2
        exact ⟨by rw [E1.out, E2.out]; rfl, L2.out⟩
  · obtain rfl : q0 = true := by cases q0 <;> simp_all
    have h1 : ¬ n < 1 := by simp at hbad; omega
    have h8 : ¬ 8 < n := by simp at hbad; omega
    have HF : Hid (checkF name steps = firstBad (steps.take 0) (steps.drop 0)) := by show _ = _; unfold checkF; rw [HBAD.out, if_neg hbad]; rfl
    have k1 : decide ((n : Int) < 1) = false := decide_eq_false (by omega)
    have k2 : decide ((n : Int) > 8) = false := decide_eq_false (by omega)
    clear hbad HBAD
    go_wp2_with (fail)
    go_loopw [4, 28] (fun t4 v wr => ∃ i : Nat, v = .int .i64 (i : Int) ∧ i ≤ n ∧ t4 = .bool (pivotB (steps.take i)) ∧ checkF name steps = firstBad (steps.take i) (steps.drop i) ∧ Later w2 wr) (fun _ v _ => n - (intOf v).toNat)
    case atStart => exact ⟨0, rfl, by omega, rfl, HF.out, Later.refl _⟩
    case round =>
      obtain ⟨i, rfl, hi, rfl, hsum, hlat⟩ := hrel
      clear k1 k2
      have HS := hide hsum
      have HL := hide hlat
      have BR : Hid (wr.heap[y]? = some (.cells #[.string name, .slice A n cap] 25 (0, 0))) := (Below.block hlat y (lt_of_block B2.out)).trans B2.out
      clear hsum hlat
      obtain ⟨pb, hpb⟩ : ∃ pb, pivotB (steps.take i) = pb := ⟨_, rfl⟩
      rw [hpb]
      by_cases hlt : i < n
      · have HR := hide (StepsAt.kept H.out (Kept.of_below (L2.out.trans HL.out) F))
        obtain ⟨s, b, off, c', hs', hvv, _, _, _, hr⟩ := StepsAt.at_ HR.out (i := i) (by rw [HN.out]; exact hlt)
        rw [HN.out] at hvv
        obtain ⟨rfl, rfl⟩ : A = some ⟨b, off, none⟩ ∧ cap = c' := by injection hvv with e1 _ e3; exact ⟨e1, e3⟩
        obtain ⟨r0, r1, r2, r3, r4, r5⟩ := range_step hr
        have HSI := hide hs'
        have HPB := hide hpb
        obtain ⟨W5, hW5⟩ : ∃ W5, W5 = wr.alloc (.cells s.cells.toArray 41 (0, 0)) := ⟨_, rfl⟩
        obtain ⟨x, hx⟩ : ∃ x, x = wr.heap.size := ⟨_, rfl⟩
        have B5 : Hid (StepBox x s W5) := by rw [hW5, hx]; exact heap_alloc_new wr _
        have L5 : Hid (Later wr W5) := by rw [hW5]; exact (Below.refl _ _).alloc (Nat.le_refl _) _
        have BR5 : Hid (W5.heap[y]? = some (.cells #[.string name, .slice (some ⟨b, off, none⟩) n cap] 25 (0, 0))) := (Below.block L5.out y (lt_of_block BR.out)).trans BR.out
        have CS := hide (refName_any (w := W5) s.name)
        obtain ⟨q1, hq1⟩ : ∃ q, nameF s.name.data.toList = q := ⟨_, rfl⟩
        rw [hq1] at CS
        obtain ⟨E, hE⟩ : ∃ E, stepErr (steps.take i) s = E := ⟨_, rfl⟩
        have HE := hide hE
        have HQ1 := hide hq1
        have hx5 : x < W5.heap.size := lt_of_block B5.out
        obtain ⟨b0, b1, b2, b3, b4, b5, bf⟩ := B5.out.cells
        unfold StepD.cells at hW5
        have HW5 := hide hW5.symm
        have HX := hide hx.symm
        have cR : wr.cell? ⟨y, 1, none⟩ = some (.slice (some ⟨b, off, none⟩) n cap) := (cell_of_row wr y 1 _ _ _ BR.out).trans rfl
        clear hs' hvv hr hW5 hx hE hq1 hpb bf b1 b2 b3 b4 b5
        go_wp2_with (fail)
        have hw := HW5.out
        have hxx := HX.out
        simp only [hw, hxx]
        clear hw hxx r0 r1 r2 r3 r4 r5 cR
        go_wp2_with (fail)
        refine CS.out.mono ?_
        rintro e w6 ⟨rfl, hl6⟩
        have HL6 : Hid (Later w2 w6) := HL.out.trans (L5.out.trans hl6)
        have B6 : Hid (StepBox x s w6) := (Below.block hl6 x (lt_of_block B5.out)).trans B5.out
        have BR6 : Hid (w6.heap[y]? = some (.cells #[.string name, .slice (some ⟨b, off, none⟩) n cap] 25 (0, 0))) := (Below.block hl6 y (lt_of_block BR5.out)).trans BR5.out
        have hx6 : x < w6.heap.size := lt_of_block B6.out
        obtain ⟨b0', b1, b2, b3, b4, b5, bf⟩ := B6.out.cells
        clear CS hl6 hx5 b0 bf
        have HDONE : ∀ k : Nat, k ≠ 0 → E = k → c1 = i + 1 ∧ c2 = k := fun k hk hEk => by
          have hres : checkF name steps = (i + 1, E) := by rw [HS.out, firstBad_at HSI.out, HE.out, if_neg (by omega)]
          exact ⟨by rw [← HC1.out, hres], by rw [← HC2.out, hres, hEk]⟩
        have HDN := hide HDONE
        clear HDONE
        by_cases hbad : stepBad s = true
        · have hE2 : E = 2 := by rw [← HE.out]; exact err_bad hbad
          obtain ⟨e1, e2⟩ := HDN.out 2 (by omega) hE2
          have E1 := hide e1
          have E2 := hide e2
          have LR := hide (L2.out.trans HL6.out)
          clear hE2 e1 e2 HDN
          unfold stepBad outB at hbad
          rw [HQ1.out] at hbad
          cases q1 with
          | false =>
            clear hbad
            go_wp2
            go_ret2
            exact ⟨by rw [E1.out, E2.out]; rfl, LR.out⟩
          | true =>
            by_cases g0 : s.stub < 1
            · have f0 : decide (s.stub < 1) = true := decide_eq_true g0
              clear hbad
              go_wp2
              go_ret2
              exact ⟨by rw [E1.out, E2.out]; rfl, LR.out⟩
            · have f0 : decide (s.stub < 1) = false := decide_eq_false g0
              by_cases g1 : s.stub > 4
              · have f1 : decide (s.stub > 4) = true := decide_eq_true g1
                clear hbad
                go_wp2
                go_ret2
                exact ⟨by rw [E1.out, E2.out]; rfl, LR.out⟩
              · have f1 : decide (s.stub > 4) = false := decide_eq_false g1
                by_cases g2 : s.retry < 0
                · have f2 : decide (s.retry < 0) = true := decide_eq_true g2
                  clear hbad
                  go_wp2
                  go_ret2
                  exact ⟨by rw [E1.out, E2.out]; rfl, LR.out⟩
                · have f2 : decide (s.retry < 0) = false := decide_eq_false g2
                  by_cases g3 : s.retry > 9
                  · have f3 : decide (s.retry > 9) = true := decide_eq_true g3
                    clear hbad
                    go_wp2
                    go_ret2
                    exact ⟨by rw [E1.out, E2.out]; rfl, LR.out⟩
                  · have f3 : decide (s.retry > 9) = false := decide_eq_false g3
                    by_cases g4 : s.wait < 1
                    · have f4 : decide (s.wait < 1) = true := decide_eq_true g4
                      clear hbad
                      go_wp2
                      go_ret2
                      exact ⟨by rw [E1.out, E2.out]; rfl, LR.out⟩
                    · have f4 : decide (s.wait < 1) = false := decide_eq_false g4
                      have g5 : s.wait > 99 := by
                        simp at hbad
                        omega
                      have f5 : decide (s.wait > 99) = true := decide_eq_true g5
                      clear hbad
                      go_wp2
                      go_ret2
                      exact ⟨by rw [E1.out, E2.out]; rfl, LR.out⟩
        · have HB0 : Hid (stepBad s = false) := by show _ = _; simpa using hbad
          unfold stepBad outB at hbad
          rw [HQ1.out] at hbad
          simp only [Bool.or_eq_true, Bool.not_eq_true', decide_eq_true_eq, not_or, Bool.not_eq_false] at hbad
          obtain ⟨rfl, ⟨g1, g2⟩, ⟨g3, g4⟩, g5, g6⟩ := hbad
          have f1 : decide (s.stub < 1) = false := decide_eq_false g1
          have f2 : decide (s.stub > 4) = false := decide_eq_false g2
          have f3 : decide (s.retry < 0) = false := decide_eq_false g3
          have f4 : decide (s.retry > 9) = false := decide_eq_false g4
          have f5 : decide (s.wait < 1) = false := decide_eq_false g5
          have f6 : decide (s.wait > 99) = false := decide_eq_false g6
          have d1 : w6.cell? ⟨y, 1, none⟩ = some (.slice (some ⟨b, off, none⟩) n cap) := (cell_of_row w6 y 1 _ _ _ BR6.out).trans rfl
          have hy6 : y < w6.heap.size := lt_of_block BR6.out
          clear g1 g2 g3 g4 g5 g6 b4 b5
          go_wp2_with (fail)
          clear f1 f2 f3 f4 f5 f6 b1 b2 b3
          go_loopw [74] (fun v wr' => ∃ j : Nat, v = .int .i64 (j : Int) ∧ j ≤ i ∧ namedB (steps.take j) s = false ∧ Later w6 wr') (fun v _ => i - (intOf v).toNat)
          case atStart => exact ⟨0, rfl, by omega, rfl, Later.refl _⟩
          case round =>
            obtain ⟨j, rfl, hj, hnm, hlat⟩ := hrel
            have HNM := hide hnm
            have HLJ := hide hlat
            clear hnm hlat
            have BJ : Hid (StepBox x s wr) := (Below.block HLJ.out x (lt_of_block B6.out)).trans B6.out
            by_cases hlj : j < i
            · have HRJ := hide (StepsAt.kept H.out (Kept.of_below (L2.out.trans (HL6.out.trans HLJ.out)) F))
              obtain ⟨sj, b', off', c'', hs', hvv, _, _, _, hr⟩ := StepsAt.at_ HRJ.out (i := j) (by rw [HN.out]; omega)
              rw [HN.out] at hvv
              obtain ⟨e1, rfl⟩ : (some ⟨b, off, none⟩ : Option Addr) = some ⟨b', off', none⟩ ∧ cap = c'' := by injection hvv with e1 _ e3; exact ⟨e1, e3⟩
              obtain ⟨rfl, rfl⟩ : b = b' ∧ off = off' := by injection e1 with e1; injection e1 with e1 e2; exact ⟨e1, e2⟩
              obtain ⟨r0, r1, r2, r3, r4, r5⟩ := range_step hr
              have HSJ := hide hs'
              have LJ : Hid (Later w2 wr) := HL6.out.trans HLJ.out
              obtain ⟨W8, hW8⟩ : ∃ W8, W8 = wr.alloc (.cells sj.cells.toArray 41 (0, 0)) := ⟨_, rfl⟩
              obtain ⟨z, hz⟩ : ∃ z, z = wr.heap.size := ⟨_, rfl⟩
              have B8 : Hid (StepBox z sj W8) := by rw [hW8, hz]; exact heap_alloc_new wr _
              have L8 : Hid (Later wr W8) := by rw [hW8]; exact (Below.refl _ _).alloc (Nat.le_refl _) _
              have BX8 : Hid (StepBox x s W8) := (Below.block L8.out x (lt_of_block BJ.out)).trans BJ.out
              have a0 := B8.out.cells.1
              have a1 := BX8.out.cells.1
              have hz8 : z < W8.heap.size := lt_of_block B8.out
              have hx8 : x < W8.heap.size := lt_of_block BX8.out
              unfold StepD.cells at hW8
              have HW8 := hide hW8.symm
              have HZ := hide hz.symm
              have aJ := BJ.out.cells.1
              have hxj : x < wr.heap.size := lt_of_block BJ.out
              have a1r := a1
              have hx8r := hx8
              rw [hW8] at a1r hx8r
              clear hs' hvv hr hW8 hz e1 a0 hz8
              by_cases hnn : sj.name = s.name
              · have hE9 : E = 9 := by
                  rw [← HE.out]
                  refine err_late HB0.out ?_
                  have : namedB (steps.take i) s = true := by
                    unfold namedB
                    rw [List.any_eq_true]
                    refine ⟨sj, ?_, by simp [hnn]⟩
                    refine List.mem_of_getElem? (i := j) ?_
                    rw [List.getElem?_take_of_lt hlj]
                    exact HSJ.out
                  rw [this]; rfl
                obtain ⟨e1, e2⟩ := HDN.out 9 (by omega) hE9
                have E1 := hide e1
                have E2 := hide e2
                have LR : Hid (Later w W8) := L2.out.trans (LJ.out.trans L8.out)
                have hb : (sj.name.toList == s.name.toList) = true := by rw [hnn]; simp
                clear hE9 e1 e2 HDN hnn
                go_wp2_with (fail)
                have hw := HW8.out
                try simp only [hw]
                clear hw r0 r1 r2 r3 r4 r5
                go_ret2
                exact ⟨by rw [E1.out, E2.out]; rfl, LR.out⟩
              · have hb : (sj.name.toList == s.name.toList) = false := by rw [Sd.str_eq]; simpa using hnn
                have HNJ : Hid (namedB (steps.take (j + 1)) s = false) := by
                  show _ = _
                  have h0 := HNM.out
                  unfold namedB at h0 ⊢
                  rw [List.take_add_one, HSJ.out, List.any_append, h0]
                  simp [hnn]
                have LR : Hid (Later w6 W8) := HLJ.out.trans L8.out
                clear hnn
                go_wp2_with (fail)
                have hw := HW8.out
                try simp only [hw]
                clear hw r0 r1 r2 r3 r4 r5
                go_roundw
                case rel => exact ⟨j + 1, by go_num, by omega, HNJ.out, LR.out⟩
                case measure => simp [intOf]; omega
            · obtain rfl : j = i := by omega
              obtain ⟨_, b1, b2, b3, b4, b5, bf⟩ := BJ.out.cells
              have hxj : x < wr.heap.size := lt_of_block BJ.out
              have LR : Hid (Later w wr) := L2.out.trans (HL6.out.trans HLJ.out)
              have LQ : Hid (Later w2 wr) := HL6.out.trans HLJ.out
              obtain ⟨un, hun⟩ : ∃ un, s.undo = un := ⟨_, rfl⟩
              obtain ⟨pv, hpv⟩ : ∃ pv, s.pivot = pv := ⟨_, rfl⟩
              rw [hun] at b4
              rw [hpv] at b5
              have HUN := hide hun
              have HPV := hide hpv
              have HPP : Hid (pivotB (steps.take (j + 1)) = (pb || pv)) := by
                show _ = _
                have h0 := HPB.out
                unfold pivotB at h0 ⊢
                rw [List.take_add_one, HSI.out, List.any_append, h0, ← hpv]
                simp
              clear hun hpv b1 b2 b3 bf d1
              have HFB := firstBad_at HSI.out
              rw [HE.out] at HFB
              have HFB' := hide HFB
              clear HFB
              cases pb <;> cases pv <;> cases un <;> first
                | (have hEv : E = 9 := by rw [← HE.out]; exact err_late HB0.out (by rw [HNM.out, HPB.out, HPV.out]; rfl)
                   obtain ⟨e1, e2⟩ := HDN.out 9 (by omega) hEv
                   have E1 := hide e1
                   have E2 := hide e2
                   clear hEv e1 e2 HDN
                   go_wp2_with (fail)
                   go_ret2
                   exact ⟨by rw [E1.out, E2.out]; rfl, LR.out⟩)
                | (have hEv : E = 10 := by rw [← HE.out]; exact err_undo HB0.out (by rw [HNM.out, HPB.out, HPV.out]; rfl) (by rw [HPB.out, HPV.out, HUN.out]; rfl)
                   obtain ⟨e1, e2⟩ := HDN.out 10 (by omega) hEv
                   have E1 := hide e1
                   have E2 := hide e2
                   clear hEv e1 e2 HDN
                   go_wp2_with (fail)
                   go_ret2
                   exact ⟨by rw [E1.out, E2.out]; rfl, LR.out⟩)
                | (have hEv : Hid (E = 0) := by show _ = _; rw [← HE.out]; exact err_none HB0.out (by rw [HNM.out, HPB.out, HPV.out]; rfl) (by rw [HPB.out, HPV.out, HUN.out]; rfl)
                   clear HDN
                   go_wp2_with (fail)
                   go_roundw
                   case rel => exact ⟨j + 1, by go_num, by omega, by rw [HPP.out]; rfl, by rw [HS.out, HFB'.out, if_pos hEv.out], LQ.out⟩
                   case measure => simp [intOf]; omega)
      · have hie : i = n := by omega
        have hres : checkF name steps = (0, 0) := by rw [HS.out, hie, ← HN.out, firstBad_end]
        have e1 : c1 = 0 := by rw [← HC1.out, hres]
        have e2 : c2 = 0 := by rw [← HC2.out, hres]
        have E1 := hide e1
        have E2 := hide e2
        have cR : wr.cell? ⟨y, 1, none⟩ = some (.slice A n cap) := (cell_of_row wr y 1 _ _ _ BR.out).trans rfl
        clear hres e1 e2 hie
        go_wp2_with (fail)
        go_ret2
        exact ⟨by rw [E1.out, E2.out]; rfl, L2.out.trans HL.out⟩
end
end Go.Proofs.YtdahnjcoflifbaaDoor
/- The document's Parse. -/
namespace Go.Proofs.YtdahnjcoflifbaaDoor
open Go.RowKit

/-- What the document's Parse has made so far. -/
structure PRel (W : World) (g z x y : Nat) (wr : World) (r : Rd) (nm : ByteArray) (v : Value) (st : List StepD) (pv : Value) (ps : List Nat) : Prop where
  rd : RRd g z r wr
  res : DefBox x ⟨#[]⟩ (.slice none 0 0) wr
  box : DefBox y nm v wr
  row : StepRow (g + 1) wr v st
  plr : wr.ownsRow (g + 1) 3 1 pv ps.length (plc ps)
  lat : Later W wr
theorem later_on {w w1 w2 : World} {k : Nat} (h : Later w w1) (hg : w1.grownBy w2 (some k)) (hk : w.heap.size ≤ k) : Later w w2 :=
  Below.grown h hg (Below.size h) fun j e => by have := Option.some.inj e; omega
section
variable {W wr w' : World} {g z x y q : Nat} {r : Rd} {nm : ByteArray} {v pv : Value} {st : List StepD} {ps : List Nat}
theorem PRel.later (h : PRel W g z x y wr r nm v st pv ps) (hl : Later wr w') : PRel W g z x y w' r nm v st pv ps :=
  ⟨h.rd.later hl, (Below.block hl x (lt_of_block h.res)).trans h.res, (Below.block hl y (lt_of_block h.box)).trans h.box, own_later h.row hl, own_later h.plr hl, h.lat.trans hl⟩
theorem PRel.turn {r' : Rd} (h : PRel W g z x y wr r nm v st pv ps) (hx : W.heap.size ≤ x) (hxg : x < g) (hgy : g < y) (hw : wr.grownBy w' (some g)) (hr : RRd g z r' w') : PRel W g z x y w' r' nm v st pv ps := by
  obtain ⟨A, n, c, a, _, _, _, _, _, _, _, _, _, _, _, hb, _⟩ := h.rd.cells
  refine ⟨hr, (hw.block x (lt_of_block h.res) (by intro e; have := Option.some.inj e; omega)).trans h.res, (hw.block y (lt_of_block h.box) (by intro e; have := Option.some.inj e; omega)).trans h.box, ?_, ?_, later_on h.lat hw (by omega)⟩
  · exact own_apart h.row hb (by decide) hw
  · exact own_apart h.plr hb (by decide) hw
theorem PRel.name (h : PRel W g z x y wr r nm v st pv ps) (hx : W.heap.size ≤ x) (hxg : x < g) (hgy : g < y) (nm' : ByteArray) : PRel W g z x y (wr.setCell ⟨y, 0, none⟩ (.string nm')) r nm' v st pv ps := by
  have hw : wr.grownBy (wr.setCell ⟨y, 0, none⟩ (.string nm')) (some y) := grown_cell wr ⟨y, 0, none⟩ _
  refine ⟨h.rd.own hw hgy, (hw.block x (lt_of_block h.res) (by intro e; have := Option.some.inj e; omega)).trans h.res, heap_setCell_same wr y 0 _ _ _ h.box, own_apart h.row h.box (by decide) hw, own_apart h.plr h.box (by decide) hw, later_on h.lat hw (by omega)⟩
/-- Another block is turned: one behind, and no row's. -/
theorem PRel.other (h : PRel W g z x y wr r nm v st pv ps) (hx : W.heap.size ≤ x) (hxg : x < g) (hgy : g < y) (hw : wr.grownBy w' (some q)) (hq : y < q) (hv : v.ownBlock ≠ some q) (hp : pv.ownBlock ≠ some q) : PRel W g z x y w' r nm v st pv ps :=
  ⟨h.rd.own hw (by omega), (hw.block x (lt_of_block h.res) (by intro e; have := Option.some.inj e; omega)).trans h.res, (hw.block y (lt_of_block h.box) (by intro e; have := Option.some.inj e; omega)).trans h.box,
    own_stays h.row fun j hj => hw.block j (h.row.lt j hj).2 (by intro e; rw [e] at hj; exact hv hj), own_stays h.plr fun j hj => hw.block j (h.plr.lt j hj).2 (by intro e; rw [e] at hj; exact hp hj), later_on h.lat hw (by omega)⟩
/-- The row of places is turned into a longer one. -/
theorem PRel.more (h : PRel W g z x y wr r nm v st pv ps) (hx : W.heap.size ≤ x) (hxg : x < g) (hw : wr.grownBy w' pv.ownBlock) {pv' : Value} {ps' : List Nat} (hr : w'.ownsRow (g + 1) 3 1 pv' ps'.length (plc ps')) : PRel W g z x y w' r nm v st pv' ps' := by
  obtain ⟨A, n, c, a, _, _, _, _, _, _, _, _, _, _, ht, hb, ha⟩ := h.rd.cells
  have nb : ∀ {k t : Nat} {cs : Array Value}, wr.heap[k]? = some (.cells cs t (0, 0)) → 3 ≠ t → w'.heap[k]? = wr.heap[k]? := fun {k t cs} hk hne => hw.block k (lt_of_block hk) (apart_own h.plr hk hne)
  refine ⟨⟨.slice A n c, a, (nb hb (by decide)).trans hb, ht.kept ⟨hw.size, fun i hi hg => hw.block i hi (fun e => by have := (h.plr.lt i e.symm).1; simp only at hg; omega)⟩, ha⟩, (nb h.res (by decide)).trans h.res, (nb h.box (by decide)).trans h.box, ?_, hr, ?_⟩
  · exact own_stays h.row fun j hj => by obtain ⟨cs, hc⟩ := own_type h.row hj; exact nb hc (by decide)
  · exact Below.grown h.lat hw (Below.size h.lat) fun j e => by have := (h.plr.lt j e).1; omega
/-- The row of steps is turned into a longer one, and laid into the definition. -/
theorem PRel.grow (h : PRel W g z x y wr r nm v st pv ps) (hx : W.heap.size ≤ x) (hxg : x < g) (hgy : g < y) (hw : wr.grownBy w' v.ownBlock) {v' : Value} {st' : List StepD} (hr : StepRow (g + 1) w' v' st') : PRel W g z x y (w'.setCell ⟨y, 1, none⟩ v') r nm v' st' pv ps := by
  obtain ⟨A, n, c, a, _, _, _, _, _, _, _, _, _, _, ht, hb, ha⟩ := h.rd.cells
  have nb : ∀ {k t : Nat} {cs : Array Value}, wr.heap[k]? = some (.cells cs t (0, 0)) → 41 ≠ t → w'.heap[k]? = wr.heap[k]? := fun {k t cs} hk hne => hw.block k (lt_of_block hk) (apart_own h.row hk hne)
  have hB := (nb h.box (by decide)).trans h.box
  have h2 : w'.grownBy (w'.setCell ⟨y, 1, none⟩ v') (some y) := grown_cell w' ⟨y, 1, none⟩ _
  have hrd : RRd g z r w' := ⟨.slice A n c, a, (nb hb (by decide)).trans hb, ht.kept ⟨hw.size, fun i hi hg => hw.block i hi (fun e => by have := (h.row.lt i e.symm).1; simp only at hg; omega)⟩, ha⟩
  have hres := (nb h.res (by decide)).trans h.res
  refine ⟨hrd.own h2 hgy, (h2.block x (lt_of_block hres) (by intro e; have := Option.some.inj e; omega)).trans hres, heap_setCell_same w' y 1 _ _ _ hB, own_apart hr hB (by decide) h2, ?_, ?_⟩
  · exact own_apart (own_stays h.plr fun j hj => by obtain ⟨cs, hc⟩ := own_type h.plr hj; exact nb hc (by decide)) hB (by decide) h2
  · exact later_on (Below.grown h.lat hw (Below.size h.lat) fun j e => by have := (h.row.lt j e).1; omega) h2 (by omega)
theorem field_n12 (a b c d : Value) (W : World) : (Instr.field 63 (.agg #[a, b, c, d]) 2).run Tryd.prog W = .ok c W := by kernel_rfl
theorem left_rrd {g z : Nat} {r : Rd} {w : World} (h : RRd g z r w) : leftOf g w = r.l.length := by
  obtain ⟨A, n, c, a, c0, _, _, _, _, _, _, hn, _⟩ := h.cells
  unfold leftOf
  rw [c0]
  exact hn
/-- A step in the making, in block q. -/
structure PSt (W : World) (g z x y q : Nat) (wr : World) (r : Rd) (nm : ByteArray) (v : Value) (st : List StepD) (pv : Value) (ps : List Nat) (t : StepD) : Prop where
  p : PRel W g z x y wr r nm v st pv ps
  b : StepBox q t wr
  yq : y < q
  nv : v.ownBlock ≠ some q
  np : pv.ownBlock ≠ some q
theorem PSt.turn {r' : Rd} {t : StepD} (h : PSt W g z x y q wr r nm v st pv ps t) (hx : W.heap.size ≤ x) (hxg : x < g) (hgy : g < y) (hw : wr.grownBy w' (some g)) (hr : RRd g z r' w') : PSt W g z x y q w' r' nm v st pv ps t :=
  ⟨h.p.turn hx hxg hgy hw hr, (hw.block q (lt_of_block h.b) (by intro e; have := Option.some.inj e; have := h.yq; omega)).trans h.b, h.yq, h.nv, h.np⟩
theorem PSt.set {i : Nat} {t t' : StepD} {u : Value} (h : PSt W g z x y q wr r nm v st pv ps t) (hx : W.heap.size ≤ x) (hxg : x < g) (hgy : g < y) (hs : t'.cells.toArray = t.cells.toArray.setIfInBounds i u) : PSt W g z x y q (wr.setCell ⟨q, i, none⟩ u) r nm v st pv ps t' :=
  ⟨h.p.other hx hxg hgy (grown_cell wr ⟨q, i, none⟩ u) h.yq h.nv h.np, h.b.set hs, h.yq, h.nv, h.np⟩
end

section
variable {w : World}
set_option maxHeartbeats 8000000 in
set_option maxRecDepth 100000 in
theorem rparse_any (s : ByteArray) (hs : s.size ≤ 140737488355328) : Calls Tryd.prog 11 #[.string s] w (Parsed w s.data.toList) := by
  obtain ⟨L, hL⟩ : ∃ L, L = s.data.toList := ⟨_, rfl⟩
  have hlen : L.length = s.size := by rw [hL, Array.length_toList]; rfl
  have HLEN := hide hlen
  obtain ⟨x, hx⟩ : ∃ x, x = w.heap.size := ⟨_, rfl⟩
  obtain ⟨W0, hW0⟩ : ∃ W0, W0 = w.alloc (.cells #[.string ⟨#[]⟩, .slice none 0 0] 25 (0, 0)) := ⟨_, rfl⟩
  have BX0 : Hid (DefBox x ⟨#[]⟩ (.slice none 0 0) W0) := by rw [hW0, hx]; exact heap_alloc_new w _
  have L0 : Hid (Later w W0) := by rw [hW0]; exact (Below.refl _ _).alloc (Nat.le_refl _) _
  have CT := hide (reftokens_any (w := W0) s hs)
  rw [← hL] at CT ⊢
  have HW0 := hide hW0.symm
  have HX := hide hx.symm
  have hx0 : x < W0.heap.size := lt_of_block BX0.out
  obtain ⟨TS, hTS⟩ : ∃ TS, (answer L).1 = TS := ⟨_, rfl⟩
  obtain ⟨AT, hAT⟩ : ∃ AT, (answer L).2.1 = AT := ⟨_, rfl⟩
  obtain ⟨ER, hER⟩ : ∃ ER, (answer L).2.2 = ER := ⟨_, rfl⟩
  have hok : ER = 0 → TS.length ≤ 400 ∧ ∀ t ∈ TS, t.k ≠ 0 := fun h => by rw [← hTS]; exact answer_ok (hER.trans h)
  have hparse : parseF L = if ER ≠ 0 then (⟨#[]⟩, [], AT, ER) else if (d6 TS).bad then (⟨#[]⟩, [], ((d6 TS).l.head?.map (·.at_)).getD L.length, 11)
      else if (checkF (dName TS) (dSteps TS)).2 ≠ 0 then (⟨#[]⟩, [], (dPlaces TS).getD (checkF (dName TS) (dSteps TS)).1 0, (checkF (dName TS) (dSteps TS)).2) else (dName TS, dSteps TS, 0, 0) := by
    rw [← hTS, ← hAT, ← hER]; rfl
  unfold RTold at CT
  rw [hTS, hAT, hER] at CT
  have HOK := hide hok
  have HPA := hide hparse
  obtain ⟨i0, hi, hz0, hz1, hz2⟩ := info_parts info_step
  have HI := hide hi
  have HZ0 := hide hz0
  have HZ1 := hide hz1
  have HZ2 := hide hz2
  obtain ⟨j0, hj, hjz0, hjz1, hjz2⟩ := info_parts (show (Tryd.prog.info? 3).map (fun i => (i.zero, i.size, i.bytes)) = some (some (.int .i64 0), 1, 8) from by kernel_rfl)
  have HJ := hide hj
  have HJ0 := hide hjz0
  have HJ1 := hide hjz1
  have HJ2 := hide hjz2
  clear hL hlen hW0 hx hok hparse hTS hAT hER hs hi hz0 hz1 hz2 hj hjz0 hjz1 hjz2
  go_enter Tryd.func11, Tryd.ntmps11
  go_wp2_with (fail)
  have hw := HW0.out
  have hxx := HX.out
  simp only [hw, hxx]
  clear hw hxx
  refine CT.out.mono ?_
  rintro e w1 ⟨v1, rfl, hrow, hl1⟩
  have HROW := hide hrow
  have L1 := hide (L0.out.trans hl1)
  have BX1 : Hid (DefBox x ⟨#[]⟩ (.slice none 0 0) w1) := (Below.block hl1 x hx0).trans BX0.out
  have hs1 : W0.heap.size ≤ w1.heap.size := Below.size hl1
  have hxs : w.heap.size = x := HX.out
  clear CT hrow hl1
  by_cases hE : ER = 0
  · have hb : ((ER : Int) != 0) = false := by rw [hE]; rfl
    obtain ⟨hlen, hkind⟩ := HOK.out hE
    have hPA2 := HPA.out
    rw [if_neg (by simp [hE])] at hPA2
    have HPA2 := hide hPA2
    have HLT := hide hlen
    obtain ⟨A1, c1, rfl, hc1, hc2, _⟩ := FlatAt.shape (RTokRow.flat HROW.out)
    obtain ⟨g, hg⟩ : ∃ g, g = w1.heap.size := ⟨_, rfl⟩
    obtain ⟨y, hy⟩ : ∃ y, y = g + 1 := ⟨_, rfl⟩
    have hzl : (L.length : Int) = (s.size : Int) := by have := HLEN.out; omega
    obtain ⟨W2, hW2⟩ : ∃ W2, W2 = (w1.alloc (.cells #[.slice A1 TS.length c1, .int .i64 (s.size : Int), .bool false, .int .i64 0] 60 (0, 0))).alloc (.cells #[.string ⟨#[]⟩, .slice none 0 0] 25 (0, 0)) := ⟨_, rfl⟩
    have L2 : Hid (Later w1 W2) := by rw [hW2]; exact ((Below.refl _ _).alloc (Nat.le_refl _) _).alloc (by simp) _
    have PR2 : Hid (PRel w g L.length x y W2 ⟨TS, false⟩ ⟨#[]⟩ (.slice none 0 0) [] (.slice none 0 0) []) := by
      refine ⟨⟨.slice A1 TS.length c1, 0, ?_, ?_, fun h => by cases h⟩, (Below.block L2.out x (lt_of_block BX1.out)).trans BX1.out, ?_, World.ownsRow_nil _ _ _ 6, World.ownsRow_nil _ _ _ 1, L1.out.trans L2.out⟩
      · rw [hW2, hg, hzl]; exact heap_alloc2_old _ _ _
      · exact ((RTokRow.flat HROW.out).mono (G := (· < g)) fun i hi _ => by rw [hg]; exact hi).kept (Kept.of_below L2.out _)
      · rw [hW2, hy, hg]; exact heap_alloc2_new _ _ _
    have hgs : W0.heap.size ≤ g := by omega
    have hxg : x < g := by omega
    have hgy : g < y := by omega
    have hWx : w.heap.size ≤ x := by omega
    have HG := hide hg.symm
    have HY := hide hy.symm
    have HW2 := hide hW2.symm
    clear hE hPA2 hlen hkind HPA HOK hc1 hc2 hg hy hW2 hzl BX1
    go_wp2_with (fail)
    have hw := HW2.out
    have hgg := HG.out
    have hyy := HY.out
    simp only [hw, hgg, hyy]
    clear hw hgg hyy
    have C3 := hide (rwant_any wSaga PR2.out.rd)
    refine C3.out.mono ?_
    rintro e w3 ⟨rfl, h3, g3⟩
    have PR3 : Hid (PRel w g L.length x y w3 (d1 TS) ⟨#[]⟩ (.slice none 0 0) [] (.slice none 0 0) []) := PR2.out.turn hWx hxg hgy g3 h3
    have C4 : Hid (Calls Tryd.prog 25 #[.pointer (some ⟨g, 0, none⟩), .int .i64 1] w3 fun e w' => e = .returned (.agg (tokP (someF 1) (d1 TS)).cells.toArray) ∧ RRd g L.length (d2 TS) w' ∧ w3.grownBy w' (some g)) := rone_any (k := 1) PR3.out.rd
    obtain ⟨T, hT⟩ : ∃ T, tokP (someF 1) (d1 TS) = T := ⟨_, rfl⟩
    rw [hT] at C4
    have HT := hide hT
    unfold Tok.cells at C4
    clear C3 h3 g3 PR2 hT
    go_wp2_with (fail)
    refine C4.out.mono ?_
    rintro e w4 ⟨rfl, h4, g4⟩
    have PR4 := hide (PR3.out.turn hWx hxg hgy g4 h4)
    obtain ⟨b0, b1, bf1⟩ := PR4.out.box.cells
    have bf0 := frozen_of_row w4 y 0 _ _ PR4.out.box
    have hy4 : y < w4.heap.size := lt_of_block PR4.out.box
    clear C4 h4 g4 PR3
    go_wp2_with (refine wpList_buildSlice_one (by rfl) 51 3 _ (by rfl) j0 _ 1 Tryd.underlying51 HJ.out HJ0.out HJ1.out (by omega) (by omega) #[.int .i64 (T.at_ : Int)] (by rfl) (by rfl) ?_)
    obtain ⟨W5, hW5⟩ : ∃ W5, W5 = ((w4.setCell ⟨y, 0, none⟩ (.string ⟨T.s.toArray⟩)).alloc (.cells #[.int .i64 (T.k : Int), .string ⟨T.s.toArray⟩, .int .i64 (T.n : Int), .int .i64 (T.at_ : Int)] 63 (0, 0))).alloc (.cells #[.int .i64 (T.at_ : Int)] 3 (0, 0)) := ⟨_, rfl⟩
    have hs4 : (w4.setCell ⟨y, 0, none⟩ (.string ⟨T.s.toArray⟩)).heap.size = w4.heap.size := by simp [World.setCell]
    have PR5 : Hid (PRel w g L.length x y W5 (d2 TS) ⟨T.s.toArray⟩ (.slice none 0 0) [] (.slice (some ⟨w4.heap.size + 1, 0, none⟩) 1 1) [T.at_]) := by
      have p1 := PR4.out.name hWx hxg hgy ⟨T.s.toArray⟩
      have p2 := p1.later (show Later _ W5 by rw [hW5]; exact ((Below.refl _ _).alloc (Nat.le_refl _) _).alloc (by simp) _)
      refine ⟨p2.rd, p2.res, p2.box, p2.row, ⟨by simp [plc], .inr ⟨w4.heap.size + 1, 1, #[.int .i64 (T.at_ : Int)], rfl, ?_, ?_, by simp, by unfold maxLen; omega, by simp, by simp [plc]⟩⟩, p2.lat⟩
      · have := lt_of_block PR4.out.box
        omega
      · rw [hW5, ← hs4]
        exact heap_alloc2_new _ _ _
    have hp5 := lt_of_block PR4.out.res
    have HW5 := hide hW5.symm
    have C6 : Hid (Calls Tryd.prog 24 #[.pointer (some ⟨g, 0, none⟩), .string ⟨#[123]⟩] W5 fun e w' => e = .returned (.tuple #[]) ∧ RRd g L.length (d3 TS) w' ∧ W5.grownBy w' (some g)) := rwant_any [123] PR5.out.rd
    obtain ⟨p5, hp5e⟩ : ∃ p, w4.heap.size + 1 = p := ⟨_, rfl⟩
    rw [hp5e] at PR5
    have HP5 := hide hp5e
    clear hW5 hs4 b0 b1 bf1 bf0 hy4 PR4 hp5e
    have hw := HW5.out
    have hpp := HP5.out
    simp only [hw, hpp]
    clear hw hpp
    refine C6.out.mono ?_
    rintro e w6 ⟨rfl, h6, g6⟩
    have PR6 := hide (PR5.out.turn hWx hxg hgy g6 h6)
    have FEW6 : Hid (([] : List (StepD × Nat)).length + (d3 TS).l.length ≤ 400) := by have := d3_len TS; have := HLT.out; show _ ≤ _; simp; omega
    clear C6 h6 g6 PR5
    go_wp2_with (fail)
    go_loopw [11] (fun pv wr => ∃ r acc v, PRel w g L.length x y wr r ⟨T.s.toArray⟩ v (acc.map (·.1)) pv (T.at_ :: acc.map (·.2)) ∧ stepsP (d3 TS) = (acc ++ (stepsP r).1, (stepsP r).2) ∧ acc.length + r.l.length ≤ 400) (fun _ wr => leftOf g wr)
    case atStart => exact ⟨_, [], _, PR6.out, by simp, FEW6.out⟩
    case round =>
      obtain ⟨r, acc, v, hrel, hsum, hfew⟩ := hrel
      have PR := hide hrel
      have HSUM := hide hsum
      have HFEW := hide hfew
      have HLF : Hid (leftOf g wr = r.l.length) := by
        obtain ⟨A, n, c, a, c0, _, _, _, _, _, _, hn, _⟩ := hrel.rd.cells
        show _ = _
        unfold leftOf
        rw [c0]
        exact hn
      have C7 := hide (ris_any wStep hrel.rd)
      obtain ⟨Ap, cp, rfl, _, _, _⟩ := FlatAt.shape (FlatAt.of_own hrel.plr fun u hu => by obtain ⟨k, _, rfl⟩ := List.mem_map.1 hu; rfl)
      obtain ⟨Av, cv, rfl, _, _, _⟩ := FlatAt.shape (StepRow.flat hrel.row)
      obtain ⟨np, hnp⟩ : ∃ np, (T.at_ :: acc.map (·.2)).length = np := ⟨_, rfl⟩
      rw [hnp] at PR ⊢
      have hnp4 : np ≤ 500 := by rw [← hnp]; simp; omega
      have HNP := hide hnp
      clear hrel hsum hfew PR6 FEW6 hnp
      obtain ⟨qq, hq⟩ : ∃ q, isP (justF wStep) r = q := ⟨_, rfl⟩
      rw [hq] at C7
      have HQ := hide hq
      clear hq
      go_wp2_with (fail)
      refine C7.out.mono ?_
      rintro e w7 ⟨rfl, h7, g7⟩
      cases qq with
      | true =>
        have hgo1 : mayP (justF wStep) r = r.go := by unfold mayP; rw [HQ.out]; rfl
        rw [hgo1] at h7
        have PR7 := hide (PR.out.turn hWx hxg hgy g7 h7)
        have C8 : Hid (Calls Tryd.prog 25 #[.pointer (some ⟨g, 0, none⟩), .int .i64 1] w7 fun e w' => e = .returned (.agg (tokP (someF 1) r.go).cells.toArray) ∧ RRd g L.length (s1 r.go) w' ∧ w7.grownBy w' (some g)) := rone_any (k := 1) PR7.out.rd
        obtain ⟨U, hU⟩ : ∃ U, tokP (someF 1) r.go = U := ⟨_, rfl⟩
        rw [hU] at C8
        have HU := hide hU
        unfold Tok.cells at C8
        clear C7 h7 g7 hgo1 hU PR
        go_wp2_with (fail)
        refine C8.out.mono ?_
        rintro e w8 ⟨rfl, h8, g8⟩
        have PR8 := hide (PR7.out.turn hWx hxg hgy g8 h8)
        clear C8 h8 g8 PR7
        obtain ⟨W8, hW8⟩ : ∃ W8, W8 = ((w8.alloc (.cells #[.int .i64 (U.k : Int), .string ⟨U.s.toArray⟩, .int .i64 (U.n : Int), .int .i64 (U.at_ : Int)] 63 (0, 0))).alloc (.cells #[.string ⟨U.s.toArray⟩, .int .i64 0, .int .i64 0, .int .i64 10, .bool false, .bool false] 41 (0, 0))).alloc (.cells #[.int .i64 (U.at_ : Int)] 3 (0, 0)) := ⟨_, rfl⟩
        have hl8 : Later w8 W8 := by rw [hW8]; exact (((Below.refl _ _).alloc (Nat.le_refl _) _).alloc (by simp) _).alloc (by simp; omega) _
        have PW8 := hide (PR8.out.later hl8)
        obtain ⟨q, hq⟩ : ∃ q, w8.heap.size + 1 = q := ⟨_, rfl⟩
        have hyq : y < q := by have := lt_of_block PR8.out.box; omega
        have QB8 : Hid (StepBox q ⟨⟨U.s.toArray⟩, 0, 0, 10, false, false⟩ W8) := by
          rw [hW8, ← hq]
          have e1 := heap_alloc2_new w8 (.cells #[.int .i64 (U.k : Int), .string ⟨U.s.toArray⟩, .int .i64 (U.n : Int), .int .i64 (U.at_ : Int)] 63 (0, 0)) (.cells #[.string ⟨U.s.toArray⟩, .int .i64 0, .int .i64 0, .int .i64 10, .bool false, .bool false] 41 (0, 0))
          exact (Below.block ((Below.refl _ _).alloc (Nat.le_refl _) _) (w8.heap.size + 1) (by simp)).trans e1
        have NV8 : Hid ((Value.slice Av (acc.map (·.1)).length cv).ownBlock ≠ some q) := fun e => by have := (PR8.out.row.lt q e).2; omega
        have FLp : Hid (FlatAt (fun _ => True) W8 1 (.slice (some ⟨w8.heap.size + 1 + 1, 0, none⟩) 1 1) 1 (plc [U.at_])) := by
          rw [hW8]
          have e1 := flat_one ((w8.alloc (.cells #[.int .i64 (U.k : Int), .string ⟨U.s.toArray⟩, .int .i64 (U.n : Int), .int .i64 (U.at_ : Int)] 63 (0, 0))).alloc (.cells #[.string ⟨U.s.toArray⟩, .int .i64 0, .int .i64 0, .int .i64 10, .bool false, .bool false] 41 (0, 0))) 3 1 #[.int .i64 (U.at_ : Int)] (by rfl) (by simp [Value.oneCell']) (fun _ => True) trivial
          have e2 : ((w8.alloc (.cells #[.int .i64 (U.k : Int), .string ⟨U.s.toArray⟩, .int .i64 (U.n : Int), .int .i64 (U.at_ : Int)] 63 (0, 0))).alloc (.cells #[.string ⟨U.s.toArray⟩, .int .i64 0, .int .i64 0, .int .i64 10, .bool false, .bool false] 41 (0, 0))).heap.size = w8.heap.size + 1 + 1 := by simp
          rw [e2] at e1
          exact e1
        have hb8 : g + 1 ≤ W8.heap.size := by have := lt_of_block PW8.out.box; omega
        have OWp : Hid (W8.ownsRow (g + 1) 3 1 (.slice Ap np cp) np (plc (T.at_ :: acc.map (·.2)))) := by have := PW8.out.plr; rw [HNP.out] at this; exact this
        have HQQ := hide hq
        have HW8 := hide hW8.symm
        have HRW := HW8.out
        clear hW8 hl8 PR8 hq HRW
        have hap : ∀ u ∈ plc (T.at_ :: acc.map (·.2)) ++ plc [U.at_], u.oneCell' = true := fun u hu => by
          rcases List.mem_append.1 hu with hu | hu <;> (obtain ⟨k, _, rfl⟩ := List.mem_map.1 hu; rfl)
        have HAP := hide hap
        clear hap
        go_wp2_with (first
          | (refine wpList_buildSlice_one (by rfl) 51 3 _ (by rfl) j0 _ 1 Tryd.underlying51 HJ.out HJ0.out HJ1.out (by omega) (by omega) #[.int .i64 (U.at_ : Int)] (by rfl) (by rfl) ?_)
          | (at_builtin; rw [HW8.out]; refine wpList_append_flat _ (by rfl) (.tmp 51) (.tmp 54) 51 (by rfl) (g + 1) 3 j0 _ 1 8 Tryd.underlying51 HJ.out HJ0.out HJ1.out HJ2.out (by rfl) (by omega) (.slice Ap np cp) np (plc (T.at_ :: acc.map (·.2))) (by rfl) OWp.out (fun _ => True) _ 1 1 (plc [U.at_]) (by rfl) FLp.out (by unfold maxLen; omega) (by omega) hb8 ?_; intro v9 w9 o9 g9; have HO9 := hide o9; have HG9 := hide g9; clear o9 g9))
        have hqq := HQQ.out
        try simp only [hqq]
        clear hqq
        have PS9 : Hid (PSt w g L.length x y q w9 (s1 r.go) ⟨T.s.toArray⟩ (.slice Av (acc.map (·.1)).length cv) (acc.map (·.1)) v9 (T.at_ :: acc.map (·.2) ++ [U.at_]) ⟨⟨U.s.toArray⟩, 0, 0, 10, false, false⟩) := by
          have o : w9.ownsRow (g + 1) 3 1 v9 (T.at_ :: acc.map (·.2) ++ [U.at_]).length (plc (T.at_ :: acc.map (·.2) ++ [U.at_])) := by
            have := HO9.out
            rw [← HNP.out] at this
            simpa [plc] using this
          have hqb : StepBox q ⟨⟨U.s.toArray⟩, 0, 0, 10, false, false⟩ w9 := (HG9.out.block q (lt_of_block QB8.out) (apart_own OWp.out QB8.out (by decide))).trans QB8.out
          exact ⟨PW8.out.more hWx hxg HG9.out o, hqb, hyq, NV8.out, fun e => apart_own o hqb (by decide) e.symm⟩
        clear PW8 OWp FLp QB8 NV8 HO9 HG9 HAP HW8
        have C10 : Hid (Calls Tryd.prog 24 #[.pointer (some ⟨g, 0, none⟩), .string ⟨#[115, 116, 117, 98]⟩] w9 fun e w' => e = .returned (.tuple #[]) ∧ RRd g L.length (s2 r.go) w' ∧ w9.grownBy w' (some g)) := rwant_any wStub PS9.out.p.rd
        refine C10.out.mono ?_
        rintro e w10 ⟨rfl, h10, g10⟩
        have PS10 := hide (PS9.out.turn hWx hxg hgy g10 h10)
        have C11 : Hid (Calls Tryd.prog 25 #[.pointer (some ⟨g, 0, none⟩), .int .i64 2] w10 fun e w' => e = .returned (.agg (tokP (someF 2) (s2 r.go)).cells.toArray) ∧ RRd g L.length (s3 r.go) w' ∧ w10.grownBy w' (some g)) := rone_any (k := 2) PS10.out.p.rd
        obtain ⟨N, hN⟩ : ∃ N, tokP (someF 2) (s2 r.go) = N := ⟨_, rfl⟩
        rw [hN] at C11
        have HN := hide hN
        unfold Tok.cells at C11
        clear C10 h10 g10 PS9 hN
        go_wp2_with (fail)
        refine C11.out.mono ?_
        rintro e w11 ⟨rfl, h11, g11⟩
        have PS11 := hide (PS10.out.turn hWx hxg hgy g11 h11)
        have PS12 : Hid (PSt w g L.length x y q (w11.setCell ⟨q, 1, none⟩ (.int .i64 (N.n : Int))) (s3 r.go) ⟨T.s.toArray⟩ (.slice Av (acc.map (·.1)).length cv) (acc.map (·.1)) v9 (T.at_ :: acc.map (·.2) ++ [U.at_]) ⟨⟨U.s.toArray⟩, (N.n : Int), 0, 10, false, false⟩) := PS11.out.set hWx hxg hgy (by simp [StepD.cells])
        obtain ⟨b0, b1, b2, b3, b4, b5, bf⟩ := PS11.out.b.cells
        have bf1 := bf 1
        have hq11 : q < w11.heap.size := lt_of_block PS11.out.b
        have fN := fun W => field_n12 (.int .i64 (N.k : Int)) (.string ⟨N.s.toArray⟩) (.int .i64 (N.n : Int)) (.int .i64 (N.at_ : Int)) W
        have C13 := hide (ris_any wRetry PS12.out.p.rd)
        obtain ⟨qr, hqr⟩ : ∃ qr, isP (justF wRetry) (s3 r.go) = qr := ⟨_, rfl⟩
        rw [hqr] at C13
        have HQR := hide hqr
        clear C11 h11 g11 PS10 bf hqr PS11
        go_wp2_with (fail)
        clear b0 b1 b2 b3 b4 b5 bf1 hq11 fN
        refine C13.out.mono ?_
        rintro e w13 ⟨rfl, h13, g13⟩
        have PS13 := hide (PS12.out.turn hWx hxg hgy g13 h13)
        clear h13 g13 C13 PS12
        cases qr with
        | true =>
          have hm : mayP (justF wRetry) (s3 r.go) = (s3 r.go).go := by unfold mayP; rw [HQR.out]; rfl
          have PT13 : Hid (PSt w g L.length x y q w13 (s3 r.go).go ⟨T.s.toArray⟩ (.slice Av (acc.map (·.1)).length cv) (acc.map (·.1)) v9 (T.at_ :: acc.map (·.2) ++ [U.at_]) ⟨⟨U.s.toArray⟩, (N.n : Int), 0, 10, false, false⟩) := by have := PS13.out; rw [hm] at this; exact this
          have D13 : Hid (Calls Tryd.prog 25 #[.pointer (some ⟨g, 0, none⟩), .int .i64 2] w13 fun e w' => e = .returned (.agg (tokP (someF 2) (s3 r.go).go).cells.toArray) ∧ RRd g L.length (mustP (someF 2) (s3 r.go).go) w' ∧ w13.grownBy w' (some g)) := rone_any (k := 2) PT13.out.p.rd
          obtain ⟨M13, hM⟩ : ∃ M, tokP (someF 2) (s3 r.go).go = M := ⟨_, rfl⟩
          rw [hM] at D13
          have HV13 : Hid ((M13.n : Int) = (numP wRetry 0 (s3 r.go) : Nat)) := by show _ = _; unfold numP; rw [HQR.out, ← hM]; rfl
          have HS13 : Hid (mustP (someF 2) (s3 r.go).go = s4 r.go) := by show _ = _; unfold s4 numR; rw [HQR.out]; rfl
          rw [HS13.out] at D13
          unfold Tok.cells at D13
          clear PS13 hm hM HS13
          go_wp2_with (fail)
          refine D13.out.mono ?_
          rintro e w14 ⟨rfl, h14, g14⟩
          have PU13 := hide (PT13.out.turn hWx hxg hgy g14 h14)
          have PV13 : Hid (PSt w g L.length x y q (w14.setCell ⟨q, 2, none⟩ (.int .i64 (M13.n : Int))) (s4 r.go) ⟨T.s.toArray⟩ (.slice Av (acc.map (·.1)).length cv) (acc.map (·.1)) v9 (T.at_ :: acc.map (·.2) ++ [U.at_]) ⟨⟨U.s.toArray⟩, (N.n : Int), (M13.n : Int), 10, false, false⟩) := PU13.out.set hWx hxg hgy (by simp [StepD.cells])
          obtain ⟨b0, b1, b2, b3, b4, b5, bf⟩ := PU13.out.b.cells
          have bf1 := bf 2
          have hqz : q < w14.heap.size := lt_of_block PU13.out.b
          have fM := fun W => field_n12 (.int .i64 (M13.k : Int)) (.string ⟨M13.s.toArray⟩) (.int .i64 (M13.n : Int)) (.int .i64 (M13.at_ : Int)) W
          clear D13 h14 g14 PT13 bf PU13
          go_wp2_with (fail)
          clear b0 b1 b2 b3 b4 b5 bf1 hqz fM
          have C15 := hide (ris_any wWait PV13.out.p.rd)
          obtain ⟨qw, hqw⟩ : ∃ qw, isP (justF wWait) (s4 r.go) = qw := ⟨_, rfl⟩
          rw [hqw] at C15
          have HQW := hide hqw
          clear hqw
          refine C15.out.mono ?_
          rintro e w15 ⟨rfl, h15, g15⟩
          have PS15 := hide (PV13.out.turn hWx hxg hgy g15 h15)
          clear h15 g15 C15 PV13
          cases qw with
          | true =>
            have hm : mayP (justF wWait) (s4 r.go) = (s4 r.go).go := by unfold mayP; rw [HQW.out]; rfl
            have PT15 : Hid (PSt w g L.length x y q w15 (s4 r.go).go ⟨T.s.toArray⟩ (.slice Av (acc.map (·.1)).length cv) (acc.map (·.1)) v9 (T.at_ :: acc.map (·.2) ++ [U.at_]) ⟨⟨U.s.toArray⟩, (N.n : Int), (M13.n : Int), 10, false, false⟩) := by have := PS15.out; rw [hm] at this; exact this
            have D15 : Hid (Calls Tryd.prog 25 #[.pointer (some ⟨g, 0, none⟩), .int .i64 2] w15 fun e w' => e = .returned (.agg (tokP (someF 2) (s4 r.go).go).cells.toArray) ∧ RRd g L.length (mustP (someF 2) (s4 r.go).go) w' ∧ w15.grownBy w' (some g)) := rone_any (k := 2) PT15.out.p.rd
            obtain ⟨M15, hM⟩ : ∃ M, tokP (someF 2) (s4 r.go).go = M := ⟨_, rfl⟩
            rw [hM] at D15
            have HV15 : Hid ((M15.n : Int) = (numP wWait 10 (s4 r.go) : Nat)) := by show _ = _; unfold numP; rw [HQW.out, ← hM]; rfl
            have HS15 : Hid (mustP (someF 2) (s4 r.go).go = s5 r.go) := by show _ = _; unfold s5 numR; rw [HQW.out]; rfl
            rw [HS15.out] at D15
            unfold Tok.cells at D15
            clear PS15 hm hM HS15
            go_wp2_with (fail)
            refine D15.out.mono ?_
            rintro e w16 ⟨rfl, h16, g16⟩
            have PU15 := hide (PT15.out.turn hWx hxg hgy g16 h16)
            have PV15 : Hid (PSt w g L.length x y q (w16.setCell ⟨q, 3, none⟩ (.int .i64 (M15.n : Int))) (s5 r.go) ⟨T.s.toArray⟩ (.slice Av (acc.map (·.1)).length cv) (acc.map (·.1)) v9 (T.at_ :: acc.map (·.2) ++ [U.at_]) ⟨⟨U.s.toArray⟩, (N.n : Int), (M13.n : Int), (M15.n : Int), false, false⟩) := PU15.out.set hWx hxg hgy (by simp [StepD.cells])
            obtain ⟨b0, b1, b2, b3, b4, b5, bf⟩ := PU15.out.b.cells
            have bf1 := bf 3
            have hqz : q < w16.heap.size := lt_of_block PU15.out.b
            have fM := fun W => field_n12 (.int .i64 (M15.k : Int)) (.string ⟨M15.s.toArray⟩) (.int .i64 (M15.n : Int)) (.int .i64 (M15.at_ : Int)) W
            clear D15 h16 g16 PT15 bf PU15
            go_wp2_with (fail)
            clear b0 b1 b2 b3 b4 b5 bf1 hqz fM
            have C17 := hide (ris_any wUndo PV15.out.p.rd)
            obtain ⟨ub, hub⟩ : ∃ ub, isP (justF wUndo) (s5 r.go) = ub := ⟨_, rfl⟩
            rw [hub] at C17
            have HUB := hide hub
            clear hub
            refine C17.out.mono ?_
            rintro e w17 ⟨rfl, h17, g17⟩
            have PS17 : Hid (PSt w g L.length x y q w17 (s6 r.go) ⟨T.s.toArray⟩ (.slice Av (acc.map (·.1)).length cv) (acc.map (·.1)) v9 (T.at_ :: acc.map (·.2) ++ [U.at_]) ⟨⟨U.s.toArray⟩, (N.n : Int), (M13.n : Int), (M15.n : Int), false, false⟩) := PV15.out.turn hWx hxg hgy g17 h17
            have PS18 : Hid (PSt w g L.length x y q (w17.setCell ⟨q, 4, none⟩ (.bool ub)) (s6 r.go) ⟨T.s.toArray⟩ (.slice Av (acc.map (·.1)).length cv) (acc.map (·.1)) v9 (T.at_ :: acc.map (·.2) ++ [U.at_]) ⟨⟨U.s.toArray⟩, (N.n : Int), (M13.n : Int), (M15.n : Int), ub, false⟩) := PS17.out.set hWx hxg hgy (by simp [StepD.cells])
            obtain ⟨b0, b1, b2, b3, b4, b5, bf⟩ := PS17.out.b.cells
            have bf1 := bf 4
            have hqz : q < w17.heap.size := lt_of_block PS17.out.b
            have C18 := hide (ris_any wPivot PS18.out.p.rd)
            obtain ⟨pb, hpb⟩ : ∃ pb, isP (justF wPivot) (s6 r.go) = pb := ⟨_, rfl⟩
            rw [hpb] at C18
            have HPB := hide hpb
            clear hpb C17 h17 g17 PS17 PV15 bf
            go_wp2_with (fail)
            clear b0 b1 b2 b3 b4 b5 bf1 hqz
            refine C18.out.mono ?_
            rintro e w18 ⟨rfl, h18, g18⟩
            have PS19 : Hid (PSt w g L.length x y q w18 (s7 r.go) ⟨T.s.toArray⟩ (.slice Av (acc.map (·.1)).length cv) (acc.map (·.1)) v9 (T.at_ :: acc.map (·.2) ++ [U.at_]) ⟨⟨U.s.toArray⟩, (N.n : Int), (M13.n : Int), (M15.n : Int), ub, false⟩) := PS18.out.turn hWx hxg hgy g18 h18
            have PS20 : Hid (PSt w g L.length x y q (w18.setCell ⟨q, 5, none⟩ (.bool pb)) (s7 r.go) ⟨T.s.toArray⟩ (.slice Av (acc.map (·.1)).length cv) (acc.map (·.1)) v9 (T.at_ :: acc.map (·.2) ++ [U.at_]) ⟨⟨U.s.toArray⟩, (N.n : Int), (M13.n : Int), (M15.n : Int), ub, pb⟩) := PS19.out.set hWx hxg hgy (by simp [StepD.cells])
            obtain ⟨b0, b1, b2, b3, b4, b5, bf⟩ := PS19.out.b.cells
            have bf1 := bf 5
            have hqz : q < w18.heap.size := lt_of_block PS19.out.b
            have C20 : Hid (Calls Tryd.prog 24 #[.pointer (some ⟨g, 0, none⟩), .string ⟨#[59]⟩] (w18.setCell ⟨q, 5, none⟩ (.bool pb)) fun e w' => e = .returned (.tuple #[]) ∧ RRd g L.length (s8 r.go) w' ∧ (w18.setCell ⟨q, 5, none⟩ (.bool pb)).grownBy w' (some g)) := rwant_any [59] PS20.out.p.rd
            clear C18 h18 g18 PS18 PS19 bf
            go_wp2_with (fail)
            clear b0 b1 b2 b3 b4 b5 bf1 hqz
            refine C20.out.mono ?_
            rintro e w20 ⟨rfl, h20, g20⟩
            have PS21 := hide (PS20.out.turn hWx hxg hgy g20 h20)
            have SP : Hid ((⟨⟨U.s.toArray⟩, (N.n : Int), (M13.n : Int), (M15.n : Int), ub, pb⟩ : StepD) = stepP r.go) := by
              show _ = _
              unfold stepP
              rw [HU.out, HN.out, HUB.out, HPB.out, HV13.out, HV15.out]
            obtain ⟨st, hst⟩ : ∃ st, stepP r.go = st := ⟨_, rfl⟩
            obtain ⟨W21, hW21⟩ : ∃ W21, W21 = w20.alloc (.cells #[.string ⟨U.s.toArray⟩, .int .i64 (N.n : Int), .int .i64 (M13.n : Int), .int .i64 (M15.n : Int), .bool ub, .bool pb] 41 (0, 0)) := ⟨_, rfl⟩
            have hl21 : Later w20 W21 := by rw [hW21]; exact (Below.refl _ _).alloc (Nat.le_refl _) _
            have PW21 := hide (PS21.out.p.later hl21)
            have FLs : Hid (FlatAt (fun _ => True) W21 6 (.slice (some ⟨w20.heap.size, 0, none⟩) 1 1) 1 (stepP r.go).cells) := by
              rw [hW21, ← SP.out]
              exact flat_one w20 41 6 #[.string ⟨U.s.toArray⟩, .int .i64 (N.n : Int), .int .i64 (M13.n : Int), .int .i64 (M15.n : Int), .bool ub, .bool pb] (by rfl) (by simp [Value.oneCell']) (fun _ => True) trivial
            have QB21 := PS21.out.b
            obtain ⟨b0, b1, b2, b3, b4, b5, bf⟩ := QB21.cells
            obtain ⟨y0, y1, yf⟩ := PS21.out.p.box.cells
            have hyz : y < w20.heap.size := lt_of_block PS21.out.p.box
            have hqz : q < w20.heap.size := lt_of_block QB21
            have HW21 := hide hW21.symm
            have hbz : g + 1 ≤ W21.heap.size := by have := lt_of_block PW21.out.box; omega
            obtain ⟨na, hna⟩ : ∃ na, (acc.map (·.1)).length = na := ⟨_, rfl⟩
            rw [hna] at y1
            have hna4 : na ≤ 400 := by have := HFEW.out; rw [← hna, List.length_map]; omega
            have OWs : Hid (W21.ownsRow (g + 1) 41 6 (.slice Av na cv) na ((acc.map (·.1)).flatMap StepD.cells)) := by have := PW21.out.row; unfold StepRow at this; rw [hna] at this; exact this
            have HNA := hide hna
            have PRW : Hid (∀ w22 v22, W21.grownBy w22 (.slice Av na cv : Value).ownBlock → w22.ownsRow (g + 1) 41 6 v22 (na + 1) ((acc.map (·.1)).flatMap StepD.cells ++ (stepP r.go).cells) → PRel w g L.length x y (w22.setCell ⟨y, 1, none⟩ v22) (s8 r.go) ⟨T.s.toArray⟩ v22 ((acc ++ [(stepP r.go, U.at_)]).map (·.1)) v9 (T.at_ :: (acc ++ [(stepP r.go, U.at_)]).map (·.2))) := fun w22 v22 hg ho => by
              have hr : StepRow (g + 1) w22 v22 ((acc ++ [(stepP r.go, U.at_)]).map (·.1)) := by
                unfold StepRow
                rw [List.map_append, List.length_append, HNA.out, List.flatMap_append]
                simpa using ho
              have := PW21.out.grow hWx hxg hgy (v' := v22) (by rw [HNA.out]; exact hg) hr
              simpa using this
            have HONE : Hid (∀ u ∈ (acc.map (·.1)).flatMap StepD.cells ++ (stepP r.go).cells, u.oneCell' = true) := fun u hu => by
              rcases List.mem_append.1 hu with hu | hu
              · obtain ⟨t, _, ht⟩ := List.mem_flatMap.1 hu; exact t.one u ht
              · exact (stepP r.go).one u hu
            have HYF : Hid (∀ w22, W21.grownBy w22 (.slice Av na cv : Value).ownBlock → w22.cell? ⟨y, 1, none⟩ = some (.slice Av na cv) ∧ w22.frozen? ⟨y, 1, none⟩ = false ∧ y < w22.heap.size) := fun w22 hg => by
              have hb := (hg.block y (lt_of_block PW21.out.box) (apart_own OWs.out PW21.out.box (by decide))).trans PW21.out.box
              rw [HNA.out] at hb
              exact ⟨(DefBox.cells hb).2.1, (DefBox.cells hb).2.2, lt_of_block hb⟩
            clear C20 h20 g20 PS20 PS21 hW21 hl21 PW21 hna QB21 bf
            go_wp2_with (first
              | (refine wpList_buildSlice_one (by rfl) 23 41 _ (by rfl) i0 _ 6 Tryd.underlying23 HI.out HZ0.out HZ1.out (by omega) (by omega) #[.string ⟨U.s.toArray⟩, .int .i64 (N.n : Int), .int .i64 (M13.n : Int), .int .i64 (M15.n : Int), .bool ub, .bool pb] (by rfl) (by rfl) ?_)
              | (at_builtin; rw [HW21.out]; refine wpList_append_flat _ (by rfl) (.tmp 83) (.tmp 85) 23 (by rfl) (g + 1) 41 i0 _ 6 48 Tryd.underlying23 HI.out HZ0.out HZ1.out HZ2.out (by rfl) (by omega) (.slice Av na cv) na ((acc.map (·.1)).flatMap StepD.cells) (by rfl) OWs.out (fun _ => True) _ 1 1 (stepP r.go).cells (by rfl) FLs.out (by unfold maxLen; omega) (by omega) hbz ?_; intro v22 w22 o22 g22; obtain ⟨A22, c22, hv22, _, _, _⟩ := FlatAt.shape (FlatAt.of_own o22 HONE.out); subst hv22; have HPN := hide (PRW.out _ _ g22 o22); obtain ⟨yc2, yf2, hyz2⟩ := HYF.out _ g22; clear o22 g22))
            go_roundw
            case rel => exact ⟨_, _, _, HPN.out, by rw [HSUM.out, stepsP_yes HQ.out]; simp [placeP, HU.out], by have h1 := isP_len HQ.out; have h2 := s8_len r.go; have h3 := go_len r; have := HFEW.out; simp; omega⟩
            case measure =>
              rw [HLF.out, left_rrd HPN.out.rd]
              have h1 := isP_len HQ.out; have h2 := s8_len r.go; have h3 := go_len r
              omega
          | false =>
            have hm : mayP (justF wWait) (s4 r.go) = s5 r.go := by unfold mayP s5 numR; rw [HQW.out]; rfl
            have PV15 : Hid (PSt w g L.length x y q w15 (s5 r.go) ⟨T.s.toArray⟩ (.slice Av (acc.map (·.1)).length cv) (acc.map (·.1)) v9 (T.at_ :: acc.map (·.2) ++ [U.at_]) ⟨⟨U.s.toArray⟩, (N.n : Int), (M13.n : Int), 10, false, false⟩) := by have := PS15.out; rw [hm] at this; exact this
            have HV15 : Hid ((10 : Int) = (numP wWait 10 (s4 r.go) : Nat)) := by show _ = _; unfold numP; rw [HQW.out]; rfl
            clear PS15 hm
            go_wp2_with (fail)
            have C17 := hide (ris_any wUndo PV15.out.p.rd)
            obtain ⟨ub, hub⟩ : ∃ ub, isP (justF wUndo) (s5 r.go) = ub := ⟨_, rfl⟩
            rw [hub] at C17
            have HUB := hide hub
            clear hub
            refine C17.out.mono ?_
            rintro e w17 ⟨rfl, h17, g17⟩
            have PS17 : Hid (PSt w g L.length x y q w17 (s6 r.go) ⟨T.s.toArray⟩ (.slice Av (acc.map (·.1)).length cv) (acc.map (·.1)) v9 (T.at_ :: acc.map (·.2) ++ [U.at_]) ⟨⟨U.s.toArray⟩, (N.n : Int), (M13.n : Int), 10, false, false⟩) := PV15.out.turn hWx hxg hgy g17 h17
            have PS18 : Hid (PSt w g L.length x y q (w17.setCell ⟨q, 4, none⟩ (.bool ub)) (s6 r.go) ⟨T.s.toArray⟩ (.slice Av (acc.map (·.1)).length cv) (acc.map (·.1)) v9 (T.at_ :: acc.map (·.2) ++ [U.at_]) ⟨⟨U.s.toArray⟩, (N.n : Int), (M13.n : Int), 10, ub, false⟩) := PS17.out.set hWx hxg hgy (by simp [StepD.cells])
            obtain ⟨b0, b1, b2, b3, b4, b5, bf⟩ := PS17.out.b.cells
            have bf1 := bf 4
            have hqz : q < w17.heap.size := lt_of_block PS17.out.b
            have C18 := hide (ris_any wPivot PS18.out.p.rd)
            obtain ⟨pb, hpb⟩ : ∃ pb, isP (justF wPivot) (s6 r.go) = pb := ⟨_, rfl⟩
            rw [hpb] at C18
            have HPB := hide hpb
            clear hpb C17 h17 g17 PS17 PV15 bf
            go_wp2_with (fail)
            clear b0 b1 b2 b3 b4 b5 bf1 hqz
            refine C18.out.mono ?_
            rintro e w18 ⟨rfl, h18, g18⟩
            have PS19 : Hid (PSt w g L.length x y q w18 (s7 r.go) ⟨T.s.toArray⟩ (.slice Av (acc.map (·.1)).length cv) (acc.map (·.1)) v9 (T.at_ :: acc.map (·.2) ++ [U.at_]) ⟨⟨U.s.toArray⟩, (N.n : Int), (M13.n : Int), 10, ub, false⟩) := PS18.out.turn hWx hxg hgy g18 h18
            have PS20 : Hid (PSt w g L.length x y q (w18.setCell ⟨q, 5, none⟩ (.bool pb)) (s7 r.go) ⟨T.s.toArray⟩ (.slice Av (acc.map (·.1)).length cv) (acc.map (·.1)) v9 (T.at_ :: acc.map (·.2) ++ [U.at_]) ⟨⟨U.s.toArray⟩, (N.n : Int), (M13.n : Int), 10, ub, pb⟩) := PS19.out.set hWx hxg hgy (by simp [StepD.cells])
            obtain ⟨b0, b1, b2, b3, b4, b5, bf⟩ := PS19.out.b.cells
            have bf1 := bf 5
            have hqz : q < w18.heap.size := lt_of_block PS19.out.b
            have C20 : Hid (Calls Tryd.prog 24 #[.pointer (some ⟨g, 0, none⟩), .string ⟨#[59]⟩] (w18.setCell ⟨q, 5, none⟩ (.bool pb)) fun e w' => e = .returned (.tuple #[]) ∧ RRd g L.length (s8 r.go) w' ∧ (w18.setCell ⟨q, 5, none⟩ (.bool pb)).grownBy w' (some g)) := rwant_any [59] PS20.out.p.rd
            clear C18 h18 g18 PS18 PS19 bf
            go_wp2_with (fail)
            clear b0 b1 b2 b3 b4 b5 bf1 hqz
            refine C20.out.mono ?_
            rintro e w20 ⟨rfl, h20, g20⟩
            have PS21 := hide (PS20.out.turn hWx hxg hgy g20 h20)
            have SP : Hid ((⟨⟨U.s.toArray⟩, (N.n : Int), (M13.n : Int), 10, ub, pb⟩ : StepD) = stepP r.go) := by
              show _ = _
              unfold stepP
              rw [HU.out, HN.out, HUB.out, HPB.out, HV13.out, HV15.out]
            obtain ⟨st, hst⟩ : ∃ st, stepP r.go = st := ⟨_, rfl⟩
            obtain ⟨W21, hW21⟩ : ∃ W21, W21 = w20.alloc (.cells #[.string ⟨U.s.toArray⟩, .int .i64 (N.n : Int), .int .i64 (M13.n : Int), .int .i64 10, .bool ub, .bool pb] 41 (0, 0)) := ⟨_, rfl⟩
            have hl21 : Later w20 W21 := by rw [hW21]; exact (Below.refl _ _).alloc (Nat.le_refl _) _
            have PW21 := hide (PS21.out.p.later hl21)
            have FLs : Hid (FlatAt (fun _ => True) W21 6 (.slice (some ⟨w20.heap.size, 0, none⟩) 1 1) 1 (stepP r.go).cells) := by
              rw [hW21, ← SP.out]
              exact flat_one w20 41 6 #[.string ⟨U.s.toArray⟩, .int .i64 (N.n : Int), .int .i64 (M13.n : Int), .int .i64 10, .bool ub, .bool pb] (by rfl) (by simp [Value.oneCell']) (fun _ => True) trivial
            have QB21 := PS21.out.b
            obtain ⟨b0, b1, b2, b3, b4, b5, bf⟩ := QB21.cells
            obtain ⟨y0, y1, yf⟩ := PS21.out.p.box.cells
            have hyz : y < w20.heap.size := lt_of_block PS21.out.p.box
            have hqz : q < w20.heap.size := lt_of_block QB21
            have HW21 := hide hW21.symm
            have hbz : g + 1 ≤ W21.heap.size := by have := lt_of_block PW21.out.box; omega
            obtain ⟨na, hna⟩ : ∃ na, (acc.map (·.1)).length = na := ⟨_, rfl⟩
            rw [hna] at y1
            have hna4 : na ≤ 400 := by have := HFEW.out; rw [← hna, List.length_map]; omega
            have OWs : Hid (W21.ownsRow (g + 1) 41 6 (.slice Av na cv) na ((acc.map (·.1)).flatMap StepD.cells)) := by have := PW21.out.row; unfold StepRow at this; rw [hna] at this; exact this
            have HNA := hide hna
            have PRW : Hid (∀ w22 v22, W21.grownBy w22 (.slice Av na cv : Value).ownBlock → w22.ownsRow (g + 1) 41 6 v22 (na + 1) ((acc.map (·.1)).flatMap StepD.cells ++ (stepP r.go).cells) → PRel w g L.length x y (w22.setCell ⟨y, 1, none⟩ v22) (s8 r.go) ⟨T.s.toArray⟩ v22 ((acc ++ [(stepP r.go, U.at_)]).map (·.1)) v9 (T.at_ :: (acc ++ [(stepP r.go, U.at_)]).map (·.2))) := fun w22 v22 hg ho => by
              have hr : StepRow (g + 1) w22 v22 ((acc ++ [(stepP r.go, U.at_)]).map (·.1)) := by
                unfold StepRow
                rw [List.map_append, List.length_append, HNA.out, List.flatMap_append]
                simpa using ho
              have := PW21.out.grow hWx hxg hgy (v' := v22) (by rw [HNA.out]; exact hg) hr
              simpa using this
            have HONE : Hid (∀ u ∈ (acc.map (·.1)).flatMap StepD.cells ++ (stepP r.go).cells, u.oneCell' = true) := fun u hu => by
              rcases List.mem_append.1 hu with hu | hu
              · obtain ⟨t, _, ht⟩ := List.mem_flatMap.1 hu; exact t.one u ht
              · exact (stepP r.go).one u hu
            have HYF : Hid (∀ w22, W21.grownBy w22 (.slice Av na cv : Value).ownBlock → w22.cell? ⟨y, 1, none⟩ = some (.slice Av na cv) ∧ w22.frozen? ⟨y, 1, none⟩ = false ∧ y < w22.heap.size) := fun w22 hg => by
              have hb := (hg.block y (lt_of_block PW21.out.box) (apart_own OWs.out PW21.out.box (by decide))).trans PW21.out.box
              rw [HNA.out] at hb
              exact ⟨(DefBox.cells hb).2.1, (DefBox.cells hb).2.2, lt_of_block hb⟩
            clear C20 h20 g20 PS20 PS21 hW21 hl21 PW21 hna QB21 bf
            go_wp2_with (first
              | (refine wpList_buildSlice_one (by rfl) 23 41 _ (by rfl) i0 _ 6 Tryd.underlying23 HI.out HZ0.out HZ1.out (by omega) (by omega) #[.string ⟨U.s.toArray⟩, .int .i64 (N.n : Int), .int .i64 (M13.n : Int), .int .i64 10, .bool ub, .bool pb] (by rfl) (by rfl) ?_)
              | (at_builtin; rw [HW21.out]; refine wpList_append_flat _ (by rfl) (.tmp 83) (.tmp 85) 23 (by rfl) (g + 1) 41 i0 _ 6 48 Tryd.underlying23 HI.out HZ0.out HZ1.out HZ2.out (by rfl) (by omega) (.slice Av na cv) na ((acc.map (·.1)).flatMap StepD.cells) (by rfl) OWs.out (fun _ => True) _ 1 1 (stepP r.go).cells (by rfl) FLs.out (by unfold maxLen; omega) (by omega) hbz ?_; intro v22 w22 o22 g22; obtain ⟨A22, c22, hv22, _, _, _⟩ := FlatAt.shape (FlatAt.of_own o22 HONE.out); subst hv22; have HPN := hide (PRW.out _ _ g22 o22); obtain ⟨yc2, yf2, hyz2⟩ := HYF.out _ g22; clear o22 g22))
            go_roundw
            case rel => exact ⟨_, _, _, HPN.out, by rw [HSUM.out, stepsP_yes HQ.out]; simp [placeP, HU.out], by have h1 := isP_len HQ.out; have h2 := s8_len r.go; have h3 := go_len r; have := HFEW.out; simp; omega⟩
            case measure =>
              rw [HLF.out, left_rrd HPN.out.rd]
              have h1 := isP_len HQ.out; have h2 := s8_len r.go; have h3 := go_len r
              omega
        | false =>
          have hm : mayP (justF wRetry) (s3 r.go) = s4 r.go := by unfold mayP s4 numR; rw [HQR.out]; rfl
          have PV13 : Hid (PSt w g L.length x y q w13 (s4 r.go) ⟨T.s.toArray⟩ (.slice Av (acc.map (·.1)).length cv) (acc.map (·.1)) v9 (T.at_ :: acc.map (·.2) ++ [U.at_]) ⟨⟨U.s.toArray⟩, (N.n : Int), 0, 10, false, false⟩) := by have := PS13.out; rw [hm] at this; exact this
          have HV13 : Hid ((0 : Int) = (numP wRetry 0 (s3 r.go) : Nat)) := by show _ = _; unfold numP; rw [HQR.out]; rfl
          clear PS13 hm
          go_wp2_with (fail)
          have C15 := hide (ris_any wWait PV13.out.p.rd)
          obtain ⟨qw, hqw⟩ : ∃ qw, isP (justF wWait) (s4 r.go) = qw := ⟨_, rfl⟩
          rw [hqw] at C15
          have HQW := hide hqw
          clear hqw
          refine C15.out.mono ?_
          rintro e w15 ⟨rfl, h15, g15⟩
          have PS15 := hide (PV13.out.turn hWx hxg hgy g15 h15)
          clear h15 g15 C15 PV13
          cases qw with
          | true =>
            have hm : mayP (justF wWait) (s4 r.go) = (s4 r.go).go := by unfold mayP; rw [HQW.out]; rfl
            have PT15 : Hid (PSt w g L.length x y q w15 (s4 r.go).go ⟨T.s.toArray⟩ (.slice Av (acc.map (·.1)).length cv) (acc.map (·.1)) v9 (T.at_ :: acc.map (·.2) ++ [U.at_]) ⟨⟨U.s.toArray⟩, (N.n : Int), 0, 10, false, false⟩) := by have := PS15.out; rw [hm] at this; exact this
            have D15 : Hid (Calls Tryd.prog 25 #[.pointer (some ⟨g, 0, none⟩), .int .i64 2] w15 fun e w' => e = .returned (.agg (tokP (someF 2) (s4 r.go).go).cells.toArray) ∧ RRd g L.length (mustP (someF 2) (s4 r.go).go) w' ∧ w15.grownBy w' (some g)) := rone_any (k := 2) PT15.out.p.rd
            obtain ⟨M15, hM⟩ : ∃ M, tokP (someF 2) (s4 r.go).go = M := ⟨_, rfl⟩
            rw [hM] at D15
            have HV15 : Hid ((M15.n : Int) = (numP wWait 10 (s4 r.go) : Nat)) := by show _ = _; unfold numP; rw [HQW.out, ← hM]; rfl
            have HS15 : Hid (mustP (someF 2) (s4 r.go).go = s5 r.go) := by show _ = _; unfold s5 numR; rw [HQW.out]; rfl
            rw [HS15.out] at D15
            unfold Tok.cells at D15
            clear PS15 hm hM HS15
            go_wp2_with (fail)
            refine D15.out.mono ?_
            rintro e w16 ⟨rfl, h16, g16⟩
            have PU15 := hide (PT15.out.turn hWx hxg hgy g16 h16)
            have PV15 : Hid (PSt w g L.length x y q (w16.setCell ⟨q, 3, none⟩ (.int .i64 (M15.n : Int))) (s5 r.go) ⟨T.s.toArray⟩ (.slice Av (acc.map (·.1)).length cv) (acc.map (·.1)) v9 (T.at_ :: acc.map (·.2) ++ [U.at_]) ⟨⟨U.s.toArray⟩, (N.n : Int), 0, (M15.n : Int), false, false⟩) := PU15.out.set hWx hxg hgy (by simp [StepD.cells])
            obtain ⟨b0, b1, b2, b3, b4, b5, bf⟩ := PU15.out.b.cells
            have bf1 := bf 3
            have hqz : q < w16.heap.size := lt_of_block PU15.out.b
            have fM := fun W => field_n12 (.int .i64 (M15.k : Int)) (.string ⟨M15.s.toArray⟩) (.int .i64 (M15.n : Int)) (.int .i64 (M15.at_ : Int)) W
            clear D15 h16 g16 PT15 bf PU15
            go_wp2_with (fail)
            clear b0 b1 b2 b3 b4 b5 bf1 hqz fM
            have C17 := hide (ris_any wUndo PV15.out.p.rd)
            obtain ⟨ub, hub⟩ : ∃ ub, isP (justF wUndo) (s5 r.go) = ub := ⟨_, rfl⟩
            rw [hub] at C17
            have HUB := hide hub
            clear hub
            refine C17.out.mono ?_
            rintro e w17 ⟨rfl, h17, g17⟩
            have PS17 : Hid (PSt w g L.length x y q w17 (s6 r.go) ⟨T.s.toArray⟩ (.slice Av (acc.map (·.1)).length cv) (acc.map (·.1)) v9 (T.at_ :: acc.map (·.2) ++ [U.at_]) ⟨⟨U.s.toArray⟩, (N.n : Int), 0, (M15.n : Int), false, false⟩) := PV15.out.turn hWx hxg hgy g17 h17
            have PS18 : Hid (PSt w g L.length x y q (w17.setCell ⟨q, 4, none⟩ (.bool ub)) (s6 r.go) ⟨T.s.toArray⟩ (.slice Av (acc.map (·.1)).length cv) (acc.map (·.1)) v9 (T.at_ :: acc.map (·.2) ++ [U.at_]) ⟨⟨U.s.toArray⟩, (N.n : Int), 0, (M15.n : Int), ub, false⟩) := PS17.out.set hWx hxg hgy (by simp [StepD.cells])
            obtain ⟨b0, b1, b2, b3, b4, b5, bf⟩ := PS17.out.b.cells
            have bf1 := bf 4
            have hqz : q < w17.heap.size := lt_of_block PS17.out.b
            have C18 := hide (ris_any wPivot PS18.out.p.rd)
            obtain ⟨pb, hpb⟩ : ∃ pb, isP (justF wPivot) (s6 r.go) = pb := ⟨_, rfl⟩
            rw [hpb] at C18
            have HPB := hide hpb
            clear hpb C17 h17 g17 PS17 PV15 bf
            go_wp2_with (fail)
            clear b0 b1 b2 b3 b4 b5 bf1 hqz
            refine C18.out.mono ?_
            rintro e w18 ⟨rfl, h18, g18⟩
            have PS19 : Hid (PSt w g L.length x y q w18 (s7 r.go) ⟨T.s.toArray⟩ (.slice Av (acc.map (·.1)).length cv) (acc.map (·.1)) v9 (T.at_ :: acc.map (·.2) ++ [U.at_]) ⟨⟨U.s.toArray⟩, (N.n : Int), 0, (M15.n : Int), ub, false⟩) := PS18.out.turn hWx hxg hgy g18 h18
            have PS20 : Hid (PSt w g L.length x y q (w18.setCell ⟨q, 5, none⟩ (.bool pb)) (s7 r.go) ⟨T.s.toArray⟩ (.slice Av (acc.map (·.1)).length cv) (acc.map (·.1)) v9 (T.at_ :: acc.map (·.2) ++ [U.at_]) ⟨⟨U.s.toArray⟩, (N.n : Int), 0, (M15.n : Int), ub, pb⟩) := PS19.out.set hWx hxg hgy (by simp [StepD.cells])
            obtain ⟨b0, b1, b2, b3, b4, b5, bf⟩ := PS19.out.b.cells
            have bf1 := bf 5
            have hqz : q < w18.heap.size := lt_of_block PS19.out.b
            have C20 : Hid (Calls Tryd.prog 24 #[.pointer (some ⟨g, 0, none⟩), .string ⟨#[59]⟩] (w18.setCell ⟨q, 5, none⟩ (.bool pb)) fun e w' => e = .returned (.tuple #[]) ∧ RRd g L.length (s8 r.go) w' ∧ (w18.setCell ⟨q, 5, none⟩ (.bool pb)).grownBy w' (some g)) := rwant_any [59] PS20.out.p.rd
            clear C18 h18 g18 PS18 PS19 bf
            go_wp2_with (fail)
            clear b0 b1 b2 b3 b4 b5 bf1 hqz
            refine C20.out.mono ?_
            rintro e w20 ⟨rfl, h20, g20⟩
            have PS21 := hide (PS20.out.turn hWx hxg hgy g20 h20)
            have SP : Hid ((⟨⟨U.s.toArray⟩, (N.n : Int), 0, (M15.n : Int), ub, pb⟩ : StepD) = stepP r.go) := by
              show _ = _
              unfold stepP
              rw [HU.out, HN.out, HUB.out, HPB.out, HV13.out, HV15.out]
            obtain ⟨st, hst⟩ : ∃ st, stepP r.go = st := ⟨_, rfl⟩
            obtain ⟨W21, hW21⟩ : ∃ W21, W21 = w20.alloc (.cells #[.string ⟨U.s.toArray⟩, .int .i64 (N.n : Int), .int .i64 0, .int .i64 (M15.n : Int), .bool ub, .bool pb] 41 (0, 0)) := ⟨_, rfl⟩
            have hl21 : Later w20 W21 := by rw [hW21]; exact (Below.refl _ _).alloc (Nat.le_refl _) _
            have PW21 := hide (PS21.out.p.later hl21)
            have FLs : Hid (FlatAt (fun _ => True) W21 6 (.slice (some ⟨w20.heap.size, 0, none⟩) 1 1) 1 (stepP r.go).cells) := by
              rw [hW21, ← SP.out]
              exact flat_one w20 41 6 #[.string ⟨U.s.toArray⟩, .int .i64 (N.n : Int), .int .i64 0, .int .i64 (M15.n : Int), .bool ub, .bool pb] (by rfl) (by simp [Value.oneCell']) (fun _ => True) trivial
            have QB21 := PS21.out.b
            obtain ⟨b0, b1, b2, b3, b4, b5, bf⟩ := QB21.cells
            obtain ⟨y0, y1, yf⟩ := PS21.out.p.box.cells
            have hyz : y < w20.heap.size := lt_of_block PS21.out.p.box
            have hqz : q < w20.heap.size := lt_of_block QB21
            have HW21 := hide hW21.symm
            have hbz : g + 1 ≤ W21.heap.size := by have := lt_of_block PW21.out.box; omega
            obtain ⟨na, hna⟩ : ∃ na, (acc.map (·.1)).length = na := ⟨_, rfl⟩
            rw [hna] at y1
            have hna4 : na ≤ 400 := by have := HFEW.out; rw [← hna, List.length_map]; omega
            have OWs : Hid (W21.ownsRow (g + 1) 41 6 (.slice Av na cv) na ((acc.map (·.1)).flatMap StepD.cells)) := by have := PW21.out.row; unfold StepRow at this; rw [hna] at this; exact this
            have HNA := hide hna
            have PRW : Hid (∀ w22 v22, W21.grownBy w22 (.slice Av na cv : Value).ownBlock → w22.ownsRow (g + 1) 41 6 v22 (na + 1) ((acc.map (·.1)).flatMap StepD.cells ++ (stepP r.go).cells) → PRel w g L.length x y (w22.setCell ⟨y, 1, none⟩ v22) (s8 r.go) ⟨T.s.toArray⟩ v22 ((acc ++ [(stepP r.go, U.at_)]).map (·.1)) v9 (T.at_ :: (acc ++ [(stepP r.go, U.at_)]).map (·.2))) := fun w22 v22 hg ho => by
              have hr : StepRow (g + 1) w22 v22 ((acc ++ [(stepP r.go, U.at_)]).map (·.1)) := by
                unfold StepRow
                rw [List.map_append, List.length_append, HNA.out, List.flatMap_append]
                simpa using ho
              have := PW21.out.grow hWx hxg hgy (v' := v22) (by rw [HNA.out]; exact hg) hr
              simpa using this
            have HONE : Hid (∀ u ∈ (acc.map (·.1)).flatMap StepD.cells ++ (stepP r.go).cells, u.oneCell' = true) := fun u hu => by
              rcases List.mem_append.1 hu with hu | hu
              · obtain ⟨t, _, ht⟩ := List.mem_flatMap.1 hu; exact t.one u ht
              · exact (stepP r.go).one u hu
            have HYF : Hid (∀ w22, W21.grownBy w22 (.slice Av na cv : Value).ownBlock → w22.cell? ⟨y, 1, none⟩ = some (.slice Av na cv) ∧ w22.frozen? ⟨y, 1, none⟩ = false ∧ y < w22.heap.size) := fun w22 hg => by
              have hb := (hg.block y (lt_of_block PW21.out.box) (apart_own OWs.out PW21.out.box (by decide))).trans PW21.out.box
              rw [HNA.out] at hb
              exact ⟨(DefBox.cells hb).2.1, (DefBox.cells hb).2.2, lt_of_block hb⟩
            clear C20 h20 g20 PS20 PS21 hW21 hl21 PW21 hna QB21 bf
            go_wp2_with (first
              | (refine wpList_buildSlice_one (by rfl) 23 41 _ (by rfl) i0 _ 6 Tryd.underlying23 HI.out HZ0.out HZ1.out (by omega) (by omega) #[.string ⟨U.s.toArray⟩, .int .i64 (N.n : Int), .int .i64 0, .int .i64 (M15.n : Int), .bool ub, .bool pb] (by rfl) (by rfl) ?_)
              | (at_builtin; rw [HW21.out]; refine wpList_append_flat _ (by rfl) (.tmp 83) (.tmp 85) 23 (by rfl) (g + 1) 41 i0 _ 6 48 Tryd.underlying23 HI.out HZ0.out HZ1.out HZ2.out (by rfl) (by omega) (.slice Av na cv) na ((acc.map (·.1)).flatMap StepD.cells) (by rfl) OWs.out (fun _ => True) _ 1 1 (stepP r.go).cells (by rfl) FLs.out (by unfold maxLen; omega) (by omega) hbz ?_; intro v22 w22 o22 g22; obtain ⟨A22, c22, hv22, _, _, _⟩ := FlatAt.shape (FlatAt.of_own o22 HONE.out); subst hv22; have HPN := hide (PRW.out _ _ g22 o22); obtain ⟨yc2, yf2, hyz2⟩ := HYF.out _ g22; clear o22 g22))
            go_roundw
            case rel => exact ⟨_, _, _, HPN.out, by rw [HSUM.out, stepsP_yes HQ.out]; simp [placeP, HU.out], by have h1 := isP_len HQ.out; have h2 := s8_len r.go; have h3 := go_len r; have := HFEW.out; simp; omega⟩
            case measure =>
              rw [HLF.out, left_rrd HPN.out.rd]
              have h1 := isP_len HQ.out; have h2 := s8_len r.go; have h3 := go_len r
              omega
          | false =>
            have hm : mayP (justF wWait) (s4 r.go) = s5 r.go := by unfold mayP s5 numR; rw [HQW.out]; rfl
            have PV15 : Hid (PSt w g L.length x y q w15 (s5 r.go) ⟨T.s.toArray⟩ (.slice Av (acc.map (·.1)).length cv) (acc.map (·.1)) v9 (T.at_ :: acc.map (·.2) ++ [U.at_]) ⟨⟨U.s.toArray⟩, (N.n : Int), 0, 10, false, false⟩) := by have := PS15.out; rw [hm] at this; exact this
            have HV15 : Hid ((10 : Int) = (numP wWait 10 (s4 r.go) : Nat)) := by show _ = _; unfold numP; rw [HQW.out]; rfl
            clear PS15 hm
            go_wp2_with (fail)
            have C17 := hide (ris_any wUndo PV15.out.p.rd)
            obtain ⟨ub, hub⟩ : ∃ ub, isP (justF wUndo) (s5 r.go) = ub := ⟨_, rfl⟩
            rw [hub] at C17
            have HUB := hide hub
            clear hub
            refine C17.out.mono ?_
            rintro e w17 ⟨rfl, h17, g17⟩
            have PS17 : Hid (PSt w g L.length x y q w17 (s6 r.go) ⟨T.s.toArray⟩ (.slice Av (acc.map (·.1)).length cv) (acc.map (·.1)) v9 (T.at_ :: acc.map (·.2) ++ [U.at_]) ⟨⟨U.s.toArray⟩, (N.n : Int), 0, 10, false, false⟩) := PV15.out.turn hWx hxg hgy g17 h17
            have PS18 : Hid (PSt w g L.length x y q (w17.setCell ⟨q, 4, none⟩ (.bool ub)) (s6 r.go) ⟨T.s.toArray⟩ (.slice Av (acc.map (·.1)).length cv) (acc.map (·.1)) v9 (T.at_ :: acc.map (·.2) ++ [U.at_]) ⟨⟨U.s.toArray⟩, (N.n : Int), 0, 10, ub, false⟩) := PS17.out.set hWx hxg hgy (by simp [StepD.cells])
            obtain ⟨b0, b1, b2, b3, b4, b5, bf⟩ := PS17.out.b.cells
            have bf1 := bf 4
            have hqz : q < w17.heap.size := lt_of_block PS17.out.b
            have C18 := hide (ris_any wPivot PS18.out.p.rd)
            obtain ⟨pb, hpb⟩ : ∃ pb, isP (justF wPivot) (s6 r.go) = pb := ⟨_, rfl⟩
            rw [hpb] at C18
            have HPB := hide hpb
            clear hpb C17 h17 g17 PS17 PV15 bf
            go_wp2_with (fail)
            clear b0 b1 b2 b3 b4 b5 bf1 hqz
            refine C18.out.mono ?_
            rintro e w18 ⟨rfl, h18, g18⟩
            have PS19 : Hid (PSt w g L.length x y q w18 (s7 r.go) ⟨T.s.toArray⟩ (.slice Av (acc.map (·.1)).length cv) (acc.map (·.1)) v9 (T.at_ :: acc.map (·.2) ++ [U.at_]) ⟨⟨U.s.toArray⟩, (N.n : Int), 0, 10, ub, false⟩) := PS18.out.turn hWx hxg hgy g18 h18
            have PS20 : Hid (PSt w g L.length x y q (w18.setCell ⟨q, 5, none⟩ (.bool pb)) (s7 r.go) ⟨T.s.toArray⟩ (.slice Av (acc.map (·.1)).length cv) (acc.map (·.1)) v9 (T.at_ :: acc.map (·.2) ++ [U.at_]) ⟨⟨U.s.toArray⟩, (N.n : Int), 0, 10, ub, pb⟩) := PS19.out.set hWx hxg hgy (by simp [StepD.cells])
            obtain ⟨b0, b1, b2, b3, b4, b5, bf⟩ := PS19.out.b.cells
            have bf1 := bf 5
            have hqz : q < w18.heap.size := lt_of_block PS19.out.b
            have C20 : Hid (Calls Tryd.prog 24 #[.pointer (some ⟨g, 0, none⟩), .string ⟨#[59]⟩] (w18.setCell ⟨q, 5, none⟩ (.bool pb)) fun e w' => e = .returned (.tuple #[]) ∧ RRd g L.length (s8 r.go) w' ∧ (w18.setCell ⟨q, 5, none⟩ (.bool pb)).grownBy w' (some g)) := rwant_any [59] PS20.out.p.rd
            clear C18 h18 g18 PS18 PS19 bf
            go_wp2_with (fail)
            clear b0 b1 b2 b3 b4 b5 bf1 hqz
            refine C20.out.mono ?_
            rintro e w20 ⟨rfl, h20, g20⟩
            have PS21 := hide (PS20.out.turn hWx hxg hgy g20 h20)
            have SP : Hid ((⟨⟨U.s.toArray⟩, (N.n : Int), 0, 10, ub, pb⟩ : StepD) = stepP r.go) := by
              show _ = _
              unfold stepP
              rw [HU.out, HN.out, HUB.out, HPB.out, HV13.out, HV15.out]
            obtain ⟨st, hst⟩ : ∃ st, stepP r.go = st := ⟨_, rfl⟩
            obtain ⟨W21, hW21⟩ : ∃ W21, W21 = w20.alloc (.cells #[.string ⟨U.s.toArray⟩, .int .i64 (N.n : Int), .int .i64 0, .int .i64 10, .bool ub, .bool pb] 41 (0, 0)) := ⟨_, rfl⟩
            have hl21 : Later w20 W21 := by rw [hW21]; exact (Below.refl _ _).alloc (Nat.le_refl _) _
            have PW21 := hide (PS21.out.p.later hl21)
            have FLs : Hid (FlatAt (fun _ => True) W21 6 (.slice (some ⟨w20.heap.size, 0, none⟩) 1 1) 1 (stepP r.go).cells) := by
              rw [hW21, ← SP.out]
              exact flat_one w20 41 6 #[.string ⟨U.s.toArray⟩, .int .i64 (N.n : Int), .int .i64 0, .int .i64 10, .bool ub, .bool pb] (by rfl) (by simp [Value.oneCell']) (fun _ => True) trivial
            have QB21 := PS21.out.b
            obtain ⟨b0, b1, b2, b3, b4, b5, bf⟩ := QB21.cells
            obtain ⟨y0, y1, yf⟩ := PS21.out.p.box.cells
            have hyz : y < w20.heap.size := lt_of_block PS21.out.p.box
            have hqz : q < w20.heap.size := lt_of_block QB21
            have HW21 := hide hW21.symm
            have hbz : g + 1 ≤ W21.heap.size := by have := lt_of_block PW21.out.box; omega
            obtain ⟨na, hna⟩ : ∃ na, (acc.map (·.1)).length = na := ⟨_, rfl⟩
            rw [hna] at y1
            have hna4 : na ≤ 400 := by have := HFEW.out; rw [← hna, List.length_map]; omega
            have OWs : Hid (W21.ownsRow (g + 1) 41 6 (.slice Av na cv) na ((acc.map (·.1)).flatMap StepD.cells)) := by have := PW21.out.row; unfold StepRow at this; rw [hna] at this; exact this
            have HNA := hide hna
            have PRW : Hid (∀ w22 v22, W21.grownBy w22 (.slice Av na cv : Value).ownBlock → w22.ownsRow (g + 1) 41 6 v22 (na + 1) ((acc.map (·.1)).flatMap StepD.cells ++ (stepP r.go).cells) → PRel w g L.length x y (w22.setCell ⟨y, 1, none⟩ v22) (s8 r.go) ⟨T.s.toArray⟩ v22 ((acc ++ [(stepP r.go, U.at_)]).map (·.1)) v9 (T.at_ :: (acc ++ [(stepP r.go, U.at_)]).map (·.2))) := fun w22 v22 hg ho => by
              have hr : StepRow (g + 1) w22 v22 ((acc ++ [(stepP r.go, U.at_)]).map (·.1)) := by
                unfold StepRow
                rw [List.map_append, List.length_append, HNA.out, List.flatMap_append]
                simpa using ho
              have := PW21.out.grow hWx hxg hgy (v' := v22) (by rw [HNA.out]; exact hg) hr
              simpa using this
            have HONE : Hid (∀ u ∈ (acc.map (·.1)).flatMap StepD.cells ++ (stepP r.go).cells, u.oneCell' = true) := fun u hu => by
              rcases List.mem_append.1 hu with hu | hu
              · obtain ⟨t, _, ht⟩ := List.mem_flatMap.1 hu; exact t.one u ht
              · exact (stepP r.go).one u hu
            have HYF : Hid (∀ w22, W21.grownBy w22 (.slice Av na cv : Value).ownBlock → w22.cell? ⟨y, 1, none⟩ = some (.slice Av na cv) ∧ w22.frozen? ⟨y, 1, none⟩ = false ∧ y < w22.heap.size) := fun w22 hg => by
              have hb := (hg.block y (lt_of_block PW21.out.box) (apart_own OWs.out PW21.out.box (by decide))).trans PW21.out.box
              rw [HNA.out] at hb
              exact ⟨(DefBox.cells hb).2.1, (DefBox.cells hb).2.2, lt_of_block hb⟩
            clear C20 h20 g20 PS20 PS21 hW21 hl21 PW21 hna QB21 bf
            go_wp2_with (first
              | (refine wpList_buildSlice_one (by rfl) 23 41 _ (by rfl) i0 _ 6 Tryd.underlying23 HI.out HZ0.out HZ1.out (by omega) (by omega) #[.string ⟨U.s.toArray⟩, .int .i64 (N.n : Int), .int .i64 0, .int .i64 10, .bool ub, .bool pb] (by rfl) (by rfl) ?_)
              | (at_builtin; rw [HW21.out]; refine wpList_append_flat _ (by rfl) (.tmp 83) (.tmp 85) 23 (by rfl) (g + 1) 41 i0 _ 6 48 Tryd.underlying23 HI.out HZ0.out HZ1.out HZ2.out (by rfl) (by omega) (.slice Av na cv) na ((acc.map (·.1)).flatMap StepD.cells) (by rfl) OWs.out (fun _ => True) _ 1 1 (stepP r.go).cells (by rfl) FLs.out (by unfold maxLen; omega) (by omega) hbz ?_; intro v22 w22 o22 g22; obtain ⟨A22, c22, hv22, _, _, _⟩ := FlatAt.shape (FlatAt.of_own o22 HONE.out); subst hv22; have HPN := hide (PRW.out _ _ g22 o22); obtain ⟨yc2, yf2, hyz2⟩ := HYF.out _ g22; clear o22 g22))
            go_roundw
            case rel => exact ⟨_, _, _, HPN.out, by rw [HSUM.out, stepsP_yes HQ.out]; simp [placeP, HU.out], by have h1 := isP_len HQ.out; have h2 := s8_len r.go; have h3 := go_len r; have := HFEW.out; simp; omega⟩
            case measure =>
              rw [HLF.out, left_rrd HPN.out.rd]
              have h1 := isP_len HQ.out; have h2 := s8_len r.go; have h3 := go_len r
              omega
      | false =>
        have hgo1 : mayP (justF wStep) r = r := by unfold mayP; rw [HQ.out]; rfl
        rw [hgo1] at h7
        have PR7 := hide (PR.out.turn hWx hxg hgy g7 h7)
        have hsum : stepsP (d3 TS) = (acc, r) := by rw [HSUM.out, stepsP_no HQ.out]; simp
        have HD5 : Hid (mustP (justF [125]) r = d5 TS) := by show _ = _; unfold d5 d4; rw [hsum]
        have HDS : Hid (dSteps TS = acc.map (·.1)) := by show _ = _; unfold dSteps; rw [hsum]
        have HDP : Hid (dPlaces TS = T.at_ :: acc.map (·.2)) := by show _ = _; unfold dPlaces; rw [hsum, HT.out]
        have HDN : Hid (dName TS = ⟨T.s.toArray⟩) := by show _ = _; unfold dName; rw [HT.out]
        have C8 : Hid (Calls Tryd.prog 24 #[.pointer (some ⟨g, 0, none⟩), .string ⟨#[125]⟩] w7 fun e w' => e = .returned (.tuple #[]) ∧ RRd g L.length (d5 TS) w' ∧ w7.grownBy w' (some g)) := by rw [← HD5.out]; exact rwant_any [125] PR7.out.rd
        have HE0 : Hid (∀ W' : World, (W'.heap[x]? = some (.cells #[.string ⟨#[]⟩, .slice none 0 0] 25 (0, 0))) → (W'.cell? ⟨x, 0, none⟩ = some (.string ⟨#[]⟩) ∧ W'.cell? ⟨x, 1, none⟩ = some (.slice none 0 0) ∧ W'.frozen? ⟨x, 0, none⟩ = false ∧ W'.frozen? ⟨x, 1, none⟩ = false)) := fun W' hb =>
          ⟨(cell_of_row W' x 0 _ _ _ hb).trans rfl, (cell_of_row W' x 1 _ _ _ hb).trans rfl, frozen_of_row W' x 0 _ _ hb, frozen_of_row W' x 1 _ _ hb⟩
        clear C7 h7 g7 hgo1 hsum PR HSUM HFEW HLF
        go_wp2_with (fail)
        refine C8.out.mono ?_
        rintro e w8 ⟨rfl, h8, g8⟩
        have PR8 : Hid (PRel w g L.length x y w8 (d5 TS) ⟨T.s.toArray⟩ (.slice Av (acc.map (·.1)).length cv) (acc.map (·.1)) (.slice Ap np cp) (T.at_ :: acc.map (·.2))) := by have := PR7.out.turn hWx hxg hgy g8 h8; exact this
        clear C8 h8 g8 PR7
        obtain ⟨BAD, hBAD⟩ : ∃ BAD, (d6 TS).bad = BAD := ⟨_, rfl⟩
        by_cases hl0 : (d5 TS).l = []
        · have hd6 : d6 TS = d5 TS := by unfold d6; rw [hl0]; cases hd : d5 TS; simp_all
          rw [← hd6] at PR8
          have hl6 : (d6 TS).l.length = 0 := by rw [hd6, hl0]; rfl
          have HB := hide hBAD
          have HL6 := hide hl6
          clear hBAD hl0 hd6 hl6
          cases BAD with
          | true =>
            have hz0 := HL6.out
            obtain ⟨A, n, c, a, c0, c1, c2, c3, f0, f2, f3, hn, hnc, hcm, ht, hb, ha⟩ := PR8.out.rd.cells
            have hau : a = spot L.length (d6 TS).l := ha HB.out
            rw [HB.out] at c2
            have hres : parseF L = (⟨#[]⟩, [], a, 11) := by rw [HPA2.out, if_pos HB.out, hau]; rfl
            have HRES := hide hres
            obtain ⟨x0, x1, xf0, xf1⟩ := HE0.out _ PR8.out.res
            have hxw : x < w8.heap.size := lt_of_block PR8.out.res
            have hgw : g < w8.heap.size := PR8.out.rd.lt
            have L7 : Hid (Later w ((w8.setCell ⟨x, 0, none⟩ (.string ⟨#[]⟩)).setCell ⟨x, 1, none⟩ (.slice none 0 0)).drew) := ((PR8.out.lat.setCell (by show w.heap.size ≤ x; omega) _).setCell (by show w.heap.size ≤ x; omega) _).drew
            have hx7 : ((w8.setCell ⟨x, 0, none⟩ (.string ⟨#[]⟩)).setCell ⟨x, 1, none⟩ (.slice none 0 0)).drew.heap[x]? = some (.cells #[.string ⟨#[]⟩, .slice none 0 0] 25 (0, 0)) := by
              have h1 := heap_setCell_same w8 x 0 _ _ (.string ⟨#[]⟩) PR8.out.res
              exact heap_setCell_same _ x 1 _ _ (.slice none 0 0) h1
            have HX7 := hide hx7
            obtain rfl : n = 0 := by omega
            clear hz0
            clear hres hx7 hn hnc hcm ht hb ha hau
            go_wp2_with (fail)
            go_region
            go_wp2_with (fail)
            refine bodyPost_ret (results_box3 Tryd.results11 _ _ x 25 _ _ (by rfl) HX7.out Tryd.underlying25 (by rfl) (by kernel_rfl) _ (by rfl) _ (by rfl)) rfl ?_
            exact parsed_of HRES.out (StepsAt.nil_ _ _) L7.out
          | false =>
            obtain ⟨A, n, c, a, c0, c1, c2, c3, f0, f2, f3, hn, hnc, hcm, ht, hb, ha⟩ := PR8.out.rd.cells
            rw [HB.out] at c2
            obtain rfl : n = 0 := by have := HL6.out; omega
            have hgw : g < w8.heap.size := PR8.out.rd.lt
            have hPA3 := HPA2.out
            rw [if_neg (by rw [HB.out]; simp)] at hPA3
            have HPA3 := hide hPA3
            have SRE : Hid (StepsAt (g + 1 ≤ ·) w8 (.slice Av (acc.map (·.1)).length cv) (dSteps TS)) := by rw [HDS.out]; exact PR8.out.row.flat
            have CC := hide (rcheck_any (w := w8) (name := dName TS) SRE.out)
            obtain ⟨NM, hNM⟩ : ∃ NM, dName TS = NM := ⟨_, rfl⟩
            obtain ⟨e1, he1⟩ : ∃ e1, (checkF NM (dSteps TS)).1 = e1 := ⟨_, rfl⟩
            obtain ⟨e2, he2⟩ : ∃ e2, (checkF NM (dSteps TS)).2 = e2 := ⟨_, rfl⟩
            have hle := checkF_le NM (dSteps TS)
            rw [he1] at hle
            rw [hNM, he1, he2] at CC
            have hTN : (⟨T.s.toArray⟩ : ByteArray) = NM := by rw [← hNM, HDN.out]
            obtain ⟨na, hna⟩ : ∃ na, (acc.map (·.1)).length = na := ⟨_, rfl⟩
            rw [hna] at CC SRE
            have BYE : Hid (DefBox y NM (.slice Av na cv) w8) := by have := PR8.out.box; rw [hTN, hna] at this; exact this
            have BXE := hide PR8.out.res
            have LE := hide PR8.out.lat
            have PLE : Hid (w8.ownsRow (g + 1) 3 1 (.slice Ap np cp) (dPlaces TS).length (plc (dPlaces TS))) := by rw [HDP.out]; exact PR8.out.plr
            have HE1 := hide he1
            have HE2 := hide he2
            have HLE := hide hle
            have HNM := hide hNM
            clear hPA3 he1 he2 hle hNM hn hnc hcm ht hb ha hTN hna
            go_wp2_with (refine wpList_load_box (by rfl) 25 (.tmp 9) (by rfl) y 0 (by rfl) 25 _ BYE.out 2 _ Tryd.underlying25 (by rfl) (by kernel_rfl) [.string NM, .slice Av na cv] (by rfl) (by rfl) ?_)
            refine CC.out.mono ?_
            rintro e w20 ⟨rfl, hl20⟩
            have L20 := hide (LE.out.trans hl20)
            have BX20 : Hid (DefBox x ⟨#[]⟩ (.slice none 0 0) w20) := (Below.block hl20 x (lt_of_block BXE.out)).trans BXE.out
            have BY20 : Hid (DefBox y NM (.slice Av na cv) w20) := (Below.block hl20 y (lt_of_block BYE.out)).trans BYE.out
            have SR20 := hide (StepsAt.kept SRE.out (Kept.of_below hl20 _))
            have PL20 := hide (own_later PLE.out hl20)
            clear CC hl20 BXE BYE SRE PLE LE PR8 c0 c1 c2 c3 f0 f2 f3 hgw
            by_cases hE2 : e2 = 0
            · have hb2 : ((e2 : Int) != 0) = false := by rw [hE2]; rfl
              have hres : parseF L = (NM, dSteps TS, 0, 0) := by rw [HPA3.out, if_neg (by rw [HNM.out, HE2.out, hE2]; simp), HNM.out]
              have HRES := hide hres
              clear hE2 hres
              go_wp2_with (first
                | (refine wpList_load_box (by rfl) 25 (.tmp 9) (by rfl) y 0 (by rfl) 25 _ BY20.out 2 _ Tryd.underlying25 (by rfl) (by kernel_rfl) [.string NM, .slice Av na cv] (by rfl) (by rfl) ?_)
                | (refine wpList_store_box (by rfl) 25 (.tmp 2) (.tmp 120) (by rfl) x 0 #[.string NM, .slice Av na cv] (by rfl) (by rfl) 25 _ BX20.out (by kernel_rfl) (by simp) (by simp [Value.oneCell']) ?_; intro w21 hx21 hg21))
              have L21 : Hid (Later w w21) := Below.trans L20.out ((Below.refl _ _).grown hg21 (Below.size L20.out) fun j e => by have := Option.some.inj e; omega)
              have SR21 : Hid (StepsAt (w.heap.size ≤ ·) w21 (.slice Av na cv) (dSteps TS)) := StepsAt.mono (StepsAt.kept SR20.out (Kept.of_grown hg21 fun j e hj => by have h1 := Option.some.inj e; have h2 : g + 1 ≤ j := hj; omega)) fun i _ hi => by have h1 : g + 1 ≤ i := hi; show w.heap.size ≤ i; omega
              refine bodyPost_ret (results_box3 Tryd.results11 _ _ x 25 _ _ (by rfl) hx21 Tryd.underlying25 (by rfl) (by kernel_rfl) _ (by rfl) _ (by rfl)) rfl ?_
              exact parsed_of HRES.out SR21.out L21.out
            · have hb2 : ((e2 : Int) != 0) = true := by simp; omega
              have hres : parseF L = (⟨#[]⟩, [], (dPlaces TS).getD e1 0, e2) := by rw [HPA3.out, if_pos (by rw [HNM.out, HE2.out]; exact hE2), HNM.out, HE1.out, HE2.out]
              have HRES := hide hres
              have hpl : e1 < (dPlaces TS).length := by
                have := HLE.out
                unfold dPlaces
                unfold dSteps at this
                simp at this ⊢
                omega
              obtain ⟨qp, cpp, hpv, hqc⟩ := plc_at PL20.out hpl
              obtain ⟨rfl, hnp2, rfl⟩ : Ap = some ⟨qp, 0, none⟩ ∧ np = (dPlaces TS).length ∧ cp = cpp := by injection hpv with e1 e2 e3; exact ⟨e1, e2, e3⟩
              obtain ⟨pv, hpvv⟩ : ∃ pv, (dPlaces TS).getD e1 0 = pv := ⟨_, rfl⟩
              rw [hpvv] at hqc HRES
              have hq1 : g < qp := by have := (PL20.out.lt qp rfl).1; omega
              have hqs : qp < w20.heap.size := (PL20.out.lt qp rfl).2
              have hx6 : x < w20.heap.size := lt_of_block BX20.out
              obtain ⟨x0, x1, xf0, xf1⟩ := HE0.out _ BX20.out
              have hpl' : (e1 : Int) < (np : Int) := by omega
              have hpl2 : e1 < np := by omega
              have L7 : Hid (Later w ((w20.setCell ⟨x, 0, none⟩ (.string ⟨#[]⟩)).setCell ⟨x, 1, none⟩ (.slice none 0 0)).drew) := ((L20.out.setCell (by show w.heap.size ≤ x; omega) _).setCell (by show w.heap.size ≤ x; omega) _).drew
              have hx7 : ((w20.setCell ⟨x, 0, none⟩ (.string ⟨#[]⟩)).setCell ⟨x, 1, none⟩ (.slice none 0 0)).drew.heap[x]? = some (.cells #[.string ⟨#[]⟩, .slice none 0 0] 25 (0, 0)) := by
                have h1 := heap_setCell_same w20 x 0 _ _ (.string ⟨#[]⟩) BX20.out
                exact heap_setCell_same _ x 1 _ _ (.slice none 0 0) h1
              have HX7 := hide hx7
              clear hE2 hres hx7 hpl hpv hpvv hnp2
              go_wp2_with (fail)
              go_region
              go_wp2_with (fail)
              refine bodyPost_ret (results_box3 Tryd.results11 _ _ x 25 _ _ (by rfl) HX7.out Tryd.underlying25 (by rfl) (by kernel_rfl) _ (by rfl) _ (by rfl)) rfl ?_
              exact parsed_of HRES.out (StepsAt.nil_ _ _) L7.out
        · have hn0 : 0 < (d5 TS).l.length := List.length_pos_iff.2 hl0
          have hd6 : d6 TS = ⟨(d5 TS).l, true⟩ := by unfold d6; cases hd : (d5 TS).l with
            | nil => exact absurd hd hl0
            | cons t M => simp
          obtain ⟨A, n, c, a, c0, c1, c2, c3, f0, f2, f3, hn, hnc, hcm, ht, hb, ha⟩ := PR8.out.rd.cells
          have hn1 : (0 : Int) < (n : Int) := by omega
          have hn2 : 0 < n := by omega
          have hgw : g < w8.heap.size := PR8.out.rd.lt
          have CF : Hid (Calls Tryd.prog 27 #[.pointer (some ⟨g, 0, none⟩)] w8 fun e w' => e = .returned (.tuple #[]) ∧ RRd g L.length (d6 TS) w' ∧ w8.grownBy w' (some g)) := by rw [hd6]; exact rfail_any PR8.out.rd
          have HB : Hid ((d6 TS).bad = true) := by show _ = _; rw [hd6]
          clear hBAD hl0 hd6 hn0 hn hnc hcm ht hb ha
          go_wp2_with (fail)
          refine CF.out.mono ?_
          rintro e w9 ⟨rfl, h9, g9⟩
          have PR9 := hide (PR8.out.turn hWx hxg hgy g9 h9)
          clear CF h9 g9 PR8 c0 c1 c2 c3 f0 f2 f3 hn1 hn2 hgw
          obtain ⟨A, n, c, a, c0, c1, c2, c3, f0, f2, f3, hn, hnc, hcm, ht, hb, ha⟩ := PR9.out.rd.cells
          have hau : a = spot L.length (d6 TS).l := ha HB.out
          rw [HB.out] at c2
          have hres : parseF L = (⟨#[]⟩, [], a, 11) := by rw [HPA2.out, if_pos HB.out, hau]; rfl
          have HRES := hide hres
          obtain ⟨x0, x1, xf0, xf1⟩ := HE0.out _ PR9.out.res
          have hxw : x < w9.heap.size := lt_of_block PR9.out.res
          have hgw : g < w9.heap.size := PR9.out.rd.lt
          have L7 : Hid (Later w ((w9.setCell ⟨x, 0, none⟩ (.string ⟨#[]⟩)).setCell ⟨x, 1, none⟩ (.slice none 0 0)).drew) := ((PR9.out.lat.setCell (by show w.heap.size ≤ x; omega) _).setCell (by show w.heap.size ≤ x; omega) _).drew
          have hx7 : ((w9.setCell ⟨x, 0, none⟩ (.string ⟨#[]⟩)).setCell ⟨x, 1, none⟩ (.slice none 0 0)).drew.heap[x]? = some (.cells #[.string ⟨#[]⟩, .slice none 0 0] 25 (0, 0)) := by
            have h1 := heap_setCell_same w9 x 0 _ _ (.string ⟨#[]⟩) PR9.out.res
            exact heap_setCell_same _ x 1 _ _ (.slice none 0 0) h1
          have HX7 := hide hx7
          clear hres hx7 hn hnc hcm ht hb ha hau
          go_wp2_with (fail)
          go_region
          go_wp2_with (fail)
          refine bodyPost_ret (results_box3 Tryd.results11 _ _ x 25 _ _ (by rfl) HX7.out Tryd.underlying25 (by rfl) (by kernel_rfl) _ (by rfl) _ (by rfl)) rfl ?_
          exact parsed_of HRES.out (StepsAt.nil_ _ _) L7.out
  · have hb : ((ER : Int) != 0) = true := by simp; omega
    have hres : parseF L = (⟨#[]⟩, [], AT, ER) := by rw [HPA.out, if_pos hE]
    have HRES := hide hres
    clear hE hres HPA HOK
    go_wp2_with (refine wpList_store_box (by rfl) 25 (.tmp 2) (.tmp 24) (by rfl) x 0 #[.string ⟨#[]⟩, .slice none 0 0] (by rfl) (by rfl) 25 _ BX1.out (by kernel_rfl) (by simp) (by simp [Value.oneCell']) ?_; intro w5 hx5 hg5)
    have L5 : Hid (Later w w5) := Below.trans L1.out ((Below.refl _ _).grown hg5 (Below.size L1.out) fun j e => by have := Option.some.inj e; omega)
    refine bodyPost_ret (results_box3 Tryd.results11 _ _ x 25 _ _ (by rfl) hx5 Tryd.underlying25 (by rfl) (by kernel_rfl) _ (by rfl) _ (by rfl)) rfl ?_
    exact parsed_of HRES.out (StepsAt.nil_ _ _) L5.out
end
end Go.Proofs.YtdahnjcoflifbaaDoor
/- DefParses. -/
namespace Go.Proofs.YtdahnjcoflifbaaDoor
open Go.RowKit

section
variable {w : World}
set_option maxHeartbeats 8000000 in
set_option maxRecDepth 100000 in
theorem law_parses {s : ByteArray} (hsz : s.size ≤ 9223372036854775807) (ho : OptAt w) :
    Calls Tryd.prog 3 #[.string s] w fun e w' => e = .returned (.bool true) ∧ Later w w' := by
  have CLV : Hid (∀ W, Later w W → Calls Tryd.prog 9 #[] W fun e w' => e = .returned (.bool true) ∧ Later W w') := fun W h => lives_any (ho.later h)
  obtain ⟨⟨N, S, P, E⟩, hPA⟩ : ∃ q, parseF s.data.toList = q := ⟨_, rfl⟩
  have CP : Hid (∀ W, Later w W → Calls Tryd.prog 10 #[.string s] W fun e w' => ∃ v, e = .returned (.tuple #[.agg #[.string N, v], .int .i64 (P : Int), .int .i64 (E : Int)]) ∧ StepsAt (W.heap.size ≤ ·) w' v S ∧ Later W w') := fun W h => by
    have := parse_any (w := W) s hsz (ho.later h)
    unfold Parsed at this
    rw [hPA] at this
    exact this
  have CQ : Hid (s.size ≤ 3000 → ∀ W, Calls Tryd.prog 11 #[.string s] W fun e w' => ∃ v, e = .returned (.tuple #[.agg #[.string N, v], .int .i64 (P : Int), .int .i64 (E : Int)]) ∧ StepsAt (W.heap.size ≤ ·) w' v S ∧ Later W w') := fun h3 W => by
    have := rparse_any (w := W) s (by omega)
    unfold Parsed at this
    rw [hPA] at this
    exact this
  clear hPA ho hsz
  by_cases h3 : 3000 < s.size
  · have h3i : (3000 : Int) < (s.size : Int) := by omega
    clear CP CQ
    go_enter Tryd.func3, Tryd.ntmps3
    go_wp2_with (fail)
    refine (CLV.out _ (Later.refl _)).mono ?_
    rintro e w3 ⟨rfl, hl3⟩
    have L3 := hide hl3
    clear hl3
    go_wp2_with (fail)
    go_ret
    exact ⟨rfl, L3.out⟩
  · have h3i : ¬ (3000 : Int) < (s.size : Int) := by omega
    have CQ' := hide (CQ.out (by omega))
    clear CQ
    go_enter Tryd.func3, Tryd.ntmps3
    go_wp2_with (fail)
    refine (CP.out _ (Later.refl _)).mono ?_
    rintro e w1 ⟨v1, rfl, hst1, hl1⟩
    obtain ⟨A1, c1, rfl, _, _, _⟩ := FlatAt.shape hst1
    obtain ⟨m, hm⟩ : ∃ m, S.length = m := ⟨_, rfl⟩
    rw [hm] at hst1 ⊢
    have HM := hide hm
    obtain ⟨W2, hW2⟩ : ∃ W2, W2 = w1.alloc (.cells #[.string N, .slice A1 m c1] 25 (0, 0)) := ⟨_, rfl⟩
    obtain ⟨x, hx⟩ : ∃ x, x = w1.heap.size := ⟨_, rfl⟩
    have hl2 : Later w1 W2 := by rw [hW2]; exact (Below.refl _ _).alloc (Nat.le_refl _) _
    have X2 : Hid (W2.heap[x]? = some (.cells #[.string N, .slice A1 m c1] 25 (0, 0))) := by rw [hW2, hx]; exact heap_alloc_new w1 _
    have L2 := hide (hl1.trans hl2)
    have ST2 := hide (hst1.kept (Kept.of_below hl2 _))
    have HW2 := hide hW2.symm
    have HX := hide hx.symm
    clear hst1 hl1 hl2 hW2 hx CP hm
    go_wp2_with (fail)
    have hw := HW2.out
    have hxx := HX.out
    simp only [hw, hxx]
    clear hw hxx
    refine (CQ'.out _).mono ?_
    rintro e w3 ⟨v3, rfl, hst3, hl3⟩
    obtain ⟨A3, c3, rfl, _, _, _⟩ := FlatAt.shape hst3
    rw [HM.out] at hst3 ⊢
    obtain ⟨W4, hW4⟩ : ∃ W4, W4 = w3.alloc (.cells #[.string N, .slice A3 m c3] 25 (0, 0)) := ⟨_, rfl⟩
    obtain ⟨y, hy⟩ : ∃ y, y = w3.heap.size := ⟨_, rfl⟩
    have hl4 : Later w3 W4 := by rw [hW4]; exact (Below.refl _ _).alloc (Nat.le_refl _) _
    have Y4 : Hid (W4.heap[y]? = some (.cells #[.string N, .slice A3 m c3] 25 (0, 0))) := by rw [hW4, hy]; exact heap_alloc_new w3 _
    have L4 := hide (L2.out.trans (hl3.trans hl4))
    have X4 := hide ((Below.block (hl3.trans hl4) x (lt_of_block X2.out)).trans X2.out)
    have S1 := hide (ST2.out.kept (Kept.of_below (hl3.trans hl4) _))
    have S3 := hide (hst3.kept (Kept.of_below hl4 _))
    have HW4 := hide hW4.symm
    have HY := hide hy.symm
    have X4r : Hid ((w3.alloc (.cells #[.string N, .slice A3 m c3] 25 (0, 0))).heap[x]? = some (.cells #[.string N, .slice A1 m c1] 25 (0, 0))) := by rw [HW4.out]; exact X4.out
    have CS := hide (rsame13_any (w := W4) (a1 := N) (a2 := N) S1.out S3.out)
    have hq : decide (N = N ∧ S = S) = true := by simp
    rw [hq] at CS
    clear hst3 hl3 hl4 hW4 hy CQ' hq ST2 X2 L2 HW2 HX S1 S3 X4 Y4
    go_wp2_with (refine wpList_val rfl (by rfl) (exec_load_box 25 _ (by rfl) x 0 (by rfl) 25 _ X4r.out 2 _ Tryd.underlying25 (by rfl) (by kernel_rfl) [.string N, .slice A1 m c1] (by rfl) (by rfl)) ?_)
    have hw := HW4.out
    simp only [hw]
    clear hw
    refine CS.out.mono ?_
    rintro e w5 ⟨rfl, hl5⟩
    have L5 := hide (L4.out.trans hl5)
    clear hl5 CS
    go_wp2_with (fail)
    refine (CLV.out _ L5.out).mono ?_
    rintro e w6 ⟨rfl, hl6⟩
    have L6 := hide (L5.out.trans hl6)
    clear hl6
    go_wp2_with (fail)
    go_ret
    exact ⟨rfl, L6.out⟩
end
end Go.Proofs.YtdahnjcoflifbaaDoor
/- DefParses, as the claim asks it. -/
namespace Go.Proofs.YtdahnjcoflifbaaDoor
open Go.RowKit
theorem law_parsesW (s : ByteArray) (w : World) (hs : s.size ≤ 9223372036854775807) (ho : OptAt w) :
    Calls Tryd.prog 3 #[.string s] w fun e w' => e = .returned (.bool true) ∧ Later w w' := law_parses hs ho
end Go.Proofs.YtdahnjcoflifbaaDoor
namespace Go.Proofs.YtdahnjcoflifbaaDoor
open Go.ChangeShapes Go.WideShapes Go.ChangeAt Go.RowKit

theorem defParses_lawKnobs : ownKnob Tryd.prog.godebug = none := by kernel_rfl
theorem defParses_allLaid : laidOutB Tryd.prog = true := by kernel_rfl

set_option maxRecDepth 100000 in
set_option maxHeartbeats 1000000 in
theorem defParses_lifted (os : Os) (started : os.Started) (H : Type) (enc : TypeId × Value → H) :
    ReturnsInHanded {} Tryd.checked os 3 .any (fun w args => (Rows.defParsesSpec.pre enc Tryd.prog Tryd.f3 Rows.defParsesRow.domain false w args ∧ laidMetH Tryd.prog Rows.defParsesRow.laid w) ∧ sizedMet enc Tryd.prog Tryd.f3 (OpenSpec.ofChange Rows.defParsesSpec) false w args)
      (Rows.defParsesSpec.post enc Tryd.prog Tryd.f3 false true false false) := by
  refine returnsInHanded_of_change_and (C := Tryd.checked) (X := fun w _ => laidMetH Tryd.prog Rows.defParsesRow.laid w) (fun _ _ _ hh h => h.of_heap hh) defParses_lawKnobs started (by kernel_rfl) Tryd.func3
    (ChangeSpec.witness_shaped (enc := enc) (C := Tryd.checked) (os := os) (X := fun w _ => laidMetH Tryd.prog Rows.defParsesRow.laid w) false (World.doorLaid Tryd.prog 400 os) #[.string ⟨#[]⟩] 8 rfl (World.shaped_of_RefB (by kernel_rfl) (by kernel_rfl)) (by kernel_rfl) (by kernel_rfl) (by kernel_rfl) (tab_start1 os _)) ?_
  intro W base args ds gs before hval0 hW hcnd hsz0 hL _
  have hTab := opt1 hL
  have hval : ∀ (j : Nat) t v, Tryd.f3.params[j]? = some t → args[j]? = some v → Value.okWide Tryd.prog W .any base t v := hval0
  have hW' := hW
  obtain ⟨p, q, hA0, hV, rfl, _, _⟩ := hW
  have hA : DataW.TrodAll enc Tryd.prog W 0 (fun _ => true) true Tryd.f3.params.toList args.toList ds p := hA0
  have hsz : (DataW.weightsEach Tryd.prog (Tryd.f3.params.toList ++ Rows.defParsesSpec.plain.varTypes Tryd.prog) (ds ++ gs)).all (· ≤ reachBytes) = true := hsz0
  rw [Tryd.params3] at hA hval hsz
  obtain ⟨v0, vs0, d0, ds0, p0, q0, hargs, rfl, rfl, h0, r0⟩ := trodAll_cons hA
  obtain ⟨rfl, rfl, rfl⟩ := trodAll_nil r0
  obtain rfl : args = #[v0] := by cases args; simp_all
  obtain ⟨rfl, rfl⟩ := trodVars_none hV
  have k0 := h0
  obtain ⟨a0, rfl, rfl, rfl, w0⟩ := Go.ChangeMaps.open_string Tryd.underlying9 (hval 0 9 v0 rfl rfl) h0
  clear hA0 hval0 hL
  refine (law_parsesW a0 W (by unfold maxLen at w0; omega) hTab).mono fun e W' ⟨he, bel0⟩ => ?_
  have bel : Below W.heap.size W W' := bel0
  subst he
  exact ⟨_, rfl, _, _, _, [], _, [], hW', trodAll_mk1 (shut_bool Tryd.underlying4 _), (trodAll_cons_mk (Go.ChangeMaps.shut_string Tryd.underlying9 w0) trodAll_mk0), rfl, bel.frame _, fun h => by cases h⟩

theorem defParses_over : Rows.defParsesRow.holds Tryd.pinned (OpenSpec.ofChange Rows.defParsesSpec) :=
  OpenClaim.holds_of_wide 3 Tryd.f3 rfl rfl rfl rfl rfl rfl rfl ⟨rfl, rfl, rfl, rfl, rfl⟩ rfl rfl rfl rfl rfl (by kernel_rfl) Tryd.func3 (by kernel_rfl)
    (of_decide_eq_true (by kernel_rfl)) (by unfold Func.isWrapper; first | (rw [if_pos (by decide +kernel)]; kernel_rfl) | (rw [if_neg (by decide +kernel)]; exact ⟨rfl, rfl⟩))
    (fun os started H enc _ => defParses_lifted os started H enc)

theorem defParses_card : Rows.DefParsesCardSaid :=
  Claim7.holds_tied_plain_at .later [] _ true _ false defParses_over (fun _ h => by cases h) (by kernel_rfl) (fun _ h => by cases h) defParses_row_tie rfl ⟨rfl, rfl⟩ (by kernel_rfl) rfl
    (fun f fn hf hfn => by
      obtain rfl : f = 3 := Option.some.inj ((show Tryd.prog.funcNamed "drover/droverlaw13.DefParses" = some 3 by kernel_rfl).symm.trans hf) |>.symm
      obtain rfl : fn = Tryd.f3 := (Option.some.inj (Tryd.func3.symm.trans hfn)).symm
      exact ⟨by kernel_rfl, fun j t ht => by
        rw [Tryd.params3] at ht
        have hm : t ∈ [9] := by simpa using Array.mem_of_getElem? ht
        have hall : ([9].all fun u => !Tryd.prog.wantsStandIn u) = true := by kernel_rfl
        exact (show Tryd.prog.wantsStandIn t = false by simpa using List.all_eq_true.1 hall t hm)⟩)
    (by kernel_rfl)
#print axioms defParses_card
end Go.Proofs.YtdahnjcoflifbaaDoor
