/- Texts merged: Rdr, RdN, RdT, ChkB, ChkC, RdS, RdD, Par, Live13, OpenD, Tab13, Same13, DefB. -/
import Derived.Test.YtdahnjcoflifbaaDoorBaseD1
import Derived.Test.YtdahnjcoflifbaaDoorBaseD2
import Derived.Laws.Rows
import Derived.RegionTactic
import Derived.BigRegion
import Derived.Test.YtdahnjcoflifbaaDoorRows
import Derived.Deep.Slices
import Derived.ChangeArms
import Derived.SizedLaws
import Derived.ShutString
import Derived.ProofKit
import Derived.OpenShut
import Derived.Lib.LaidTab
import Derived.Lib.ItoaNum
import Derived.Lib.ItoaWalk
import Derived.LaidMore
/- A reader's steps: may, must, place. -/
namespace Go.Proofs.YtdahnjcoflifbaaDoor
open Go.RowKit

section
variable {w : World}
set_option maxHeartbeats 2000000 in
theorem may_raw {g : Nat} {t : Tok} {L : List Tok} {lost : Bool} {ps : List Nat} {v : SetV} {f : Tok → Bool} (h : RdRaw g (t :: L) lost ps w) (hv : WantAt w v f) :
    Calls Tryd.prog 46 #[.pointer (some ⟨g, 0, none⟩), v.val] w fun e w' => e = .returned (.bool (!lost && f t)) ∧ RdRaw g (if !lost && f t then L else t :: L) lost ps w' ∧ Past g none w w' := by
  have H := hide h
  have P0 := hide (Past.refl g none w)
  obtain ⟨tv, nv, c0, c1, c2, f0, f1, f2, ht, hn, hb⟩ := h.cells
  obtain ⟨b, off, n, c, rfl, hne, hnc, hcm, hbg, hbs, hr⟩ := RdRaw.head ht
  have hg := h.lt
  cases lost with
  | true =>
    clear h ht hn hb hr hne
    go_enter Tryd.func46, Tryd.ntmps46
    go_wp2
    go_ret
    exact ⟨rfl, H.out, P0.out⟩
  | false =>
    obtain ⟨d0, d1, d2, d3⟩ := range4 hr
    have CV := hide (hv.2 w t (Later.refl w))
    have eg := hv.1
    unfold Enters at eg
    unfold Tok.cells at CV
    have HNE := hide hne
    clear h ht hn hb hr hv hne
    obtain ⟨F, cs⟩ := v
    simp only [SetV.val]
    simp only at eg CV
    have hn1 : (0 : Int) < (n : Int) := by have := HNE.out; omega
    cases hf : f t with
    | false =>
      rw [hf] at CV
      clear hf
      go_enter Tryd.func46, Tryd.ntmps46
      go_wp2_with (fail)
      refine CV.out.mono ?_
      rintro e w1 ⟨rfl, hl⟩
      have H1 := hide (H.out.later hl)
      have P1 : Hid (Past g none w w1) := Past.of_later hl
      clear hl CV c0 c1 c2 f0 f1 f2 d0 d1 d2 d3
      go_wp2
      go_ret
      exact ⟨rfl, H1.out, P1.out⟩
    | true =>
      rw [hf] at CV
      clear hf
      go_enter Tryd.func46, Tryd.ntmps46
      go_wp2_with (fail)
      refine CV.out.mono ?_
      rintro e w1 ⟨rfl, hl⟩
      have H1 := hide (H.out.later hl)
      have P1 : Hid (Past g none w w1) := Past.of_later hl
      clear hl CV c0 c1 c2 f0 f1 f2 d0 d1 d2 d3
      obtain ⟨tv, nv, c0, c1, c2, f0, f1, f2, ht, hn, hb⟩ := H1.out.cells
      obtain ⟨b, off, n, c, rfl, hne, hnc, hcm, hbg, hbs, hr⟩ := RdRaw.head ht
      obtain ⟨vs, hvs⟩ : ∃ vs, sliced (some ⟨b, off, none⟩) 1 n c 4 = vs := ⟨_, rfl⟩
      have htl : FlatAt (· < g) w1 4 vs L.length (L.flatMap Tok.cells) := by
        subst hne
        have := Sd.FlatAt.tail ht (lo := 1) (by simp)
        rw [hvs] at this
        simpa [List.drop_append, Tok.cells] using this
      obtain ⟨A1, k1, rfl, hk1, hk2, _⟩ := FlatAt.shape htl
      have hg1 := H1.out.lt
      have HS : Hid (RdRaw g L false ps (w1.setCell ⟨g, 0, none⟩ (.slice A1 L.length k1))) := H1.out.set (grown_cell w1 ⟨g, 0, none⟩ _) (by simpa using heap_setCell_same w1 g 0 _ _ (.slice A1 L.length k1) hb) htl hn
      have P2 : Hid (Past g none w (w1.setCell ⟨g, 0, none⟩ (.slice A1 L.length k1))) := P1.out.trans (Past.set g none (by simp) (grown_cell w1 ⟨g, 0, none⟩ _))
      have HVS := hide hvs
      have hne1 : 1 ≤ n := by omega
      clear ht hn hb hr hvs htl hne hg hk1 hk2
      go_wp2_with (refine wpList_val rfl (by rfl) (toks_from (.tmp 24) (.const (.int .i64 1)) (by rfl) (some ⟨b, off, none⟩) n c 1 (.slice A1 L.length k1) HVS.out (by rfl) (by rfl) hne1) ?_)
      go_ret
      exact ⟨rfl, HS.out, P2.out⟩

theorem zero_tok : noTok.cells = [.int .i64 0, .string ⟨#[]⟩, .int .i64 0, .int .i64 0] := rfl
set_option maxHeartbeats 2000000 in
theorem must_raw {g : Nat} {t : Tok} {L : List Tok} {lost : Bool} {ps : List Nat} {v : SetV} {f : Tok → Bool} (h : RdRaw g (t :: L) lost ps w) (hv : WantAt w v f) :
    Calls Tryd.prog 43 #[.pointer (some ⟨g, 0, none⟩), v.val] w fun e w' => e = .returned (.agg (if !lost && f t then t else noTok).cells.toArray) ∧ RdRaw g (if !lost && f t then L else t :: L) (if !lost && f t then lost else true) ps w' ∧ Past g none w w' := by
  have H := hide h
  obtain ⟨tv, nv, c0, c1, c2, f0, f1, f2, ht, hn, hb⟩ := h.cells
  obtain ⟨b, off, n, c, rfl, hne, hnc, hcm, hbg, hbs, hr⟩ := RdRaw.head ht
  have hg := h.lt
  obtain ⟨d0, d1, d2, d3⟩ := range4 hr
  have hn1 : (0 : Int) < (n : Int) := by omega
  obtain ⟨W, hW⟩ : ∃ W, W = (w.alloc (.cells #[.int .i64 0, .string ⟨#[]⟩, .int .i64 0, .int .i64 0] 88 (0, 0))).alloc (.cells t.cells.toArray 88 (0, 0)) := ⟨_, rfl⟩
  have L2 : Hid (Later w W) := by rw [hW]; exact ((Below.refl _ _).alloc (Nat.le_refl _) _).alloc (by simp) _
  have X1 : Hid (W.heap[w.heap.size]? = some (.cells #[.int .i64 0, .string ⟨#[]⟩, .int .i64 0, .int .i64 0] 88 (0, 0))) := by rw [hW]; exact heap_alloc2_old _ _ _
  have X2 : Hid (W.heap[w.heap.size + 1]? = some (.cells t.cells.toArray 88 (0, 0))) := by rw [hW]; exact heap_alloc2_new _ _ _
  have M := hide (may_raw (H.out.later L2.out) (hv.later L2.out))
  unfold Tok.cells at hW X2
  have HW := hide hW.symm
  obtain ⟨vv, hvv⟩ : ∃ vv, v.val = vv := ⟨_, rfl⟩
  rw [hvv] at M ⊢
  obtain ⟨q, hq⟩ : ∃ q, (!lost && f t) = q := ⟨_, rfl⟩
  rw [hq] at M ⊢
  clear h ht hn hb hr hv hne hW hvv hq
  have keeps : ∀ w1, Past g none W w1 → w1.heap[w.heap.size]? = some (.cells #[.int .i64 0, .string ⟨#[]⟩, .int .i64 0, .int .i64 0] 88 (0, 0)) ∧ w1.heap[w.heap.size + 1]? = some (.cells #[.int .i64 (t.k : Int), .string ⟨t.s.toArray⟩, .int .i64 (t.n : Int), .int .i64 (t.at_ : Int)] 88 (0, 0)) := fun w1 hp => by
    refine ⟨(hp.keep _ (lt_of_block X1.out) hg (by simp) fun cs => ?_).trans X1.out, (hp.keep _ (lt_of_block X2.out) (by omega) (by simp) fun cs => ?_).trans X2.out⟩
    · rw [X1.out]; simp
    · rw [X2.out]; simp
  have K := hide keeps
  clear keeps
  cases q with
  | true =>
    go_enter Tryd.func43, Tryd.ntmps43
    go_wp2_with (fail)
    have hw := HW.out
    simp only [hw]
    clear hw c0 c1 c2 f0 f1 f2 d0 d1 d2 d3
    refine M.out.mono ?_
    rintro e w1 ⟨rfl, hr1, hp1⟩
    obtain ⟨k1, k2⟩ := K.out w1 hp1
    have HR := hide hr1
    have HP : Hid (Past g none w w1) := (Past.of_later L2.out).trans hp1
    clear hr1 hp1 M K
    have HS : Hid (∀ cs, w1.grownBy cs (some w.heap.size) → Past g none w cs) := fun cs hc => (HP.out.weak.trans (Past.of_grown (H := some w.heap.size) hc (fun j e => by have := Option.some.inj e; omega) fun j e => .inr (.inl e))).own (Nat.le_refl _)
    go_wp2_with (first
      | (refine wpList_load_box (by rfl) 88 (.tmp 5) (by rfl) (w.heap.size + 1) 0 (by rfl) 88 _ k2 4 _ Tryd.underlying88 (by rfl) (by kernel_rfl) [.int .i64 (t.k : Int), .string ⟨t.s.toArray⟩, .int .i64 (t.n : Int), .int .i64 (t.at_ : Int)] (by rfl) (by rfl) ?_)
      | (refine wpList_store_box (by rfl) 88 (.tmp 4) (.tmp 20) (by rfl) w.heap.size 0 #[.int .i64 (t.k : Int), .string ⟨t.s.toArray⟩, .int .i64 (t.n : Int), .int .i64 (t.at_ : Int)] (by rfl) (by rfl) 88 _ k1 (by kernel_rfl) (by simp) (by simp [Value.oneCell']) ?_; intro w2 hx2 hg2))
    refine bodyPost_ret (results_cell_row Tryd.results43 _ _ w.heap.size 88 _ (0, 0) _ (by rfl) hx2 Tryd.underlying88 (by rfl) (by kernel_rfl)) rfl ⟨rfl, HR.out.own hg2 hg k1 (by decide), HS.out _ hg2⟩
  | false =>
    go_enter Tryd.func43, Tryd.ntmps43
    go_wp2_with (fail)
    have hw := HW.out
    simp only [hw]
    clear hw c0 c1 c2 f0 f1 f2 d0 d1 d2 d3
    refine M.out.mono ?_
    rintro e w1 ⟨rfl, hr1, hp1⟩
    have hg1 := hr1.lt
    obtain ⟨tv, nv, c0, c1, c2, f0, f1, f2, ht, hn, hb⟩ := RdRaw.cells hr1
    have HRR : Hid (RdRaw g (t :: L) true ps (w1.setCell ⟨g, 1, none⟩ (.bool true))) := hr1.set (grown_cell w1 ⟨g, 1, none⟩ _) (by simpa using heap_setCell_same w1 g 1 _ _ (.bool true) hb) (by simpa using ht) hn
    obtain ⟨W1, hW1⟩ : ∃ W1, w1.setCell ⟨g, 1, none⟩ (.bool true) = W1 := ⟨_, rfl⟩
    have HP1 : Hid (Past g none W W1) := hp1.trans (by rw [← hW1]; exact Past.set g none (by simp) (grown_cell w1 ⟨g, 1, none⟩ _))
    rw [hW1] at HRR
    have HW1 := hide hW1
    obtain ⟨k1, k2⟩ := K.out W1 HP1.out
    have HP : Hid (Past g none w W1) := (Past.of_later L2.out).trans HP1.out
    clear hr1 hp1 M K ht hn hb hW1
    have HS : Hid (∀ cs, W1.grownBy cs (some w.heap.size) → Past g none w cs) := fun cs hc => (HP.out.weak.trans (Past.of_grown (H := some w.heap.size) hc (fun j e => by have := Option.some.inj e; omega) fun j e => .inr (.inl e))).own (Nat.le_refl _)
    go_wp2_with (first
      | (rw [HW1.out]; refine wpList_store_box (by rfl) 88 (.tmp 4) (.tmp 19) (by rfl) w.heap.size 0 #[.int .i64 0, .string ⟨#[]⟩, .int .i64 0, .int .i64 0] (by rfl) (by rfl) 88 _ k1 (by kernel_rfl) (by simp) (by simp [Value.oneCell']) ?_; intro w2 hx2 hg2))
    refine bodyPost_ret (results_cell_row Tryd.results43 _ _ w.heap.size 88 _ (0, 0) _ (by rfl) hx2 Tryd.underlying88 (by rfl) (by kernel_rfl)) rfl ⟨rfl, HRR.out.own hg2 hg k1 (by decide), HS.out _ hg2⟩
end
end Go.Proofs.YtdahnjcoflifbaaDoor
/- A reader's steps in terms of what is left: may, must, number, name. -/
namespace Go.Proofs.YtdahnjcoflifbaaDoor
open Go.RowKit

/-- The text's end, as a token. -/
def endTok (z : Nat) : Tok := ⟨0, [], 0, z⟩
def RdAt (g z : Nat) (r : Rd) (ps : List Nat) (w : World) : Prop := RdRaw g (r.l ++ [endTok z]) r.bad ps w

section
variable {w : World}
theorem may_any {g z : Nat} {r : Rd} {ps : List Nat} {v : SetV} {f : Tok → Bool} (h : RdAt g z r ps w) (hv : WantAt w v f) (hf : f (endTok z) = false) :
    Calls Tryd.prog 46 #[.pointer (some ⟨g, 0, none⟩), v.val] w fun e w' => e = .returned (.bool (isP f r)) ∧ RdAt g z (mayP f r) ps w' ∧ Past g none w w' := by
  obtain ⟨l, bad⟩ := r
  cases l with
  | nil =>
    refine (may_raw (L := []) h hv).mono ?_
    intro e w' ⟨h1, h2, h3⟩
    rw [hf, Bool.and_false] at h1 h2
    have hi : isP f ⟨[], bad⟩ = false := by cases bad <;> rfl
    unfold mayP
    rw [hi]
    exact ⟨h1, h2, h3⟩
  | cons t l =>
    refine (may_raw (L := l ++ [endTok z]) h hv).mono ?_
    intro e w' ⟨h1, h2, h3⟩
    have hi : isP f ⟨t :: l, bad⟩ = (!bad && f t) := by cases bad <;> rfl
    unfold mayP
    rw [hi]
    refine ⟨h1, ?_, h3⟩
    cases hq : (!bad && f t) with
    | true => rw [hq] at h2; simpa [RdAt, Rd.go] using h2
    | false => rw [hq] at h2; simpa [RdAt] using h2
theorem must_any {g z : Nat} {r : Rd} {ps : List Nat} {v : SetV} {f : Tok → Bool} (h : RdAt g z r ps w) (hv : WantAt w v f) (hf : f (endTok z) = false) :
    Calls Tryd.prog 43 #[.pointer (some ⟨g, 0, none⟩), v.val] w fun e w' => e = .returned (.agg (tokP f r).cells.toArray) ∧ RdAt g z (mustP f r) ps w' ∧ Past g none w w' := by
  obtain ⟨l, bad⟩ := r
  cases l with
  | nil =>
    refine (must_raw (L := []) h hv).mono ?_
    intro e w' ⟨h1, h2, h3⟩
    rw [hf, Bool.and_false] at h1 h2
    have hi : isP f ⟨[], bad⟩ = false := by cases bad <;> rfl
    unfold mustP tokP
    rw [hi]
    exact ⟨h1, h2, h3⟩
  | cons t l =>
    refine (must_raw (L := l ++ [endTok z]) h hv).mono ?_
    intro e w' ⟨h1, h2, h3⟩
    have hi : isP f ⟨t :: l, bad⟩ = (!bad && f t) := by cases bad <;> rfl
    unfold mustP tokP
    rw [hi]
    cases hq : (!bad && f t) with
    | true => rw [hq] at h1 h2; exact ⟨h1, by simpa [RdAt, Rd.go] using h2, h3⟩
    | false => rw [hq] at h1 h2; exact ⟨h1, by simpa [RdAt] using h2, h3⟩
/-- The text's end must follow. -/
theorem last_any {g z : Nat} {r : Rd} {ps : List Nat} {v : SetV} (h : RdAt g z r ps w) (hv : WantAt w v (someF 0)) (hk : ∀ t ∈ r.l, t.k ≠ 0) :
    Calls Tryd.prog 43 #[.pointer (some ⟨g, 0, none⟩), v.val] w fun e w' => (∃ T : Tok, e = .returned (.agg T.cells.toArray)) ∧ RdRaw g (if r.bad || !r.l.isEmpty then r.l ++ [endTok z] else []) (r.bad || !r.l.isEmpty) ps w' ∧ Past g none w w' := by
  obtain ⟨l, bad⟩ := r
  cases l with
  | nil =>
    refine (must_raw (L := []) h hv).mono ?_
    intro e w' ⟨h1, h2, h3⟩
    refine ⟨⟨_, h1⟩, ?_, h3⟩
    cases bad with
    | true => simpa [someF, endTok] using h2
    | false => simpa [someF, endTok] using h2
  | cons t l =>
    refine (must_raw (L := l ++ [endTok z]) h hv).mono ?_
    intro e w' ⟨h1, h2, h3⟩
    have hq : (!bad && someF 0 t) = false := by
      have := hk t (by simp)
      simp [someF, this]
    refine ⟨⟨_, h1⟩, ?_, h3⟩
    rw [hq] at h2
    simpa using h2

theorem field_num (a b c d : Value) (W : World) : (Instr.field 88 (.agg #[a, b, c, d]) 2).run Tryd.prog W = .ok c W := by kernel_rfl
theorem someF_end (k z : Nat) (h : k ≠ 0) : someF k (endTok z) = false := by simp [someF, endTok, Ne.symm h]
theorem justF_end (s : List UInt8) (z : Nat) (h : s ≠ []) : justF s (endTok z) = false := by simp [justF, endTok, Ne.symm h]

set_option maxHeartbeats 2000000 in
theorem number_any {g z : Nat} {r : Rd} {ps : List Nat} (h : RdAt g z r ps w) :
    Calls Tryd.prog 65 #[.pointer (some ⟨g, 0, none⟩)] w fun e w' => e = .returned (.int .i64 ((tokP (someF 2) r).n : Int)) ∧ RdAt g z (mustP (someF 2) r) ps w' ∧ Past g none w w' := by
  have H := hide h
  have C := hide (some_any (w := w) 2)
  obtain ⟨T, hT⟩ : ∃ T, tokP (someF 2) r = T := ⟨_, rfl⟩
  rw [hT]
  have HTT := hide hT
  clear hT
  clear h
  go_enter Tryd.func65, Tryd.ntmps65
  go_wp2_with (fail)
  refine C.out.mono ?_
  rintro e w1 ⟨v, rfl, hv, hl⟩
  have H1 := hide (RdRaw.later H.out hl)
  have M := hide (must_any H1.out hv (someF_end 2 z (by decide)))
  have P1 : Hid (Past g none w w1) := Past.of_later hl
  obtain ⟨vv, hvv⟩ : ∃ vv, v.val = vv := ⟨_, rfl⟩
  rw [hvv] at M ⊢
  rw [HTT.out] at M
  unfold Tok.cells at M
  clear C hv hl hvv
  go_wp2_with (fail)
  refine M.out.mono ?_
  rintro e w2 ⟨rfl, hr2, hp2⟩
  have HR := hide hr2
  have HP := hide (P1.out.trans hp2)
  have hfld := fun (a b c d : Value) (W : World) => field_num a b c d W
  clear hr2 hp2 M
  go_wp2
  go_ret
  exact ⟨rfl, HR.out, HP.out⟩

set_option maxHeartbeats 4000000 in
set_option maxRecDepth 100000 in
theorem name_of {g z : Nat} {r : Rd} {ps : List Nat} (h : RdAt g z r ps w) (hps : ps.length ≤ 1000) :
    Calls Tryd.prog 45 #[.pointer (some ⟨g, 0, none⟩)] w fun e w' => e = .returned (.string ⟨(tokP (someF 1) r).s.toArray⟩) ∧ RdAt g z (mustP (someF 1) r) (ps ++ [(tokP (someF 1) r).at_]) w' ∧ Past g none w w' := by
  have H := hide h
  have C := hide (some_any (w := w) 1)
  obtain ⟨T, hT⟩ : ∃ T, tokP (someF 1) r = T := ⟨_, rfl⟩
  rw [hT]
  have HTT := hide hT
  clear hT
  have HPS := hide hps
  obtain ⟨i0, hi, hz0, hz1, hz2⟩ := info_parts (show (Tryd.prog.info? 3).map (fun i => (i.zero, i.size, i.bytes)) = some (some (.int .i64 0), 1, 8) from by kernel_rfl)
  have HI := hide hi
  have HZ0 := hide hz0
  have HZ1 := hide hz1
  have HZ2 := hide hz2
  clear h hps hi hz0 hz1 hz2
  go_enter Tryd.func45, Tryd.ntmps45
  go_wp2_with (fail)
  refine C.out.mono ?_
  rintro e w1 ⟨v, rfl, hv, hl⟩
  have H1 := hide (RdRaw.later H.out hl)
  have M := hide (must_any H1.out hv (someF_end 1 z (by decide)))
  have P1 : Hid (Past g none w w1) := Past.of_later hl
  obtain ⟨vv, hvv⟩ : ∃ vv, v.val = vv := ⟨_, rfl⟩
  rw [hvv] at M ⊢
  rw [HTT.out] at M
  unfold Tok.cells at M
  clear C hv hl hvv
  go_wp2_with (fail)
  refine M.out.mono ?_
  rintro e w2 ⟨rfl, hr2, hp2⟩
  have HP2 := hide (P1.out.trans hp2)
  obtain ⟨W3, hW3⟩ : ∃ W3, W3 = w2.alloc (.cells #[.int .i64 (T.k : Int), .string ⟨T.s.toArray⟩, .int .i64 (T.n : Int), .int .i64 (T.at_ : Int)] 88 (0, 0)) := ⟨_, rfl⟩
  obtain ⟨x, hx⟩ : ∃ x, x = w2.heap.size := ⟨_, rfl⟩
  have X3 : Hid (W3.heap[x]? = some (.cells #[.int .i64 (T.k : Int), .string ⟨T.s.toArray⟩, .int .i64 (T.n : Int), .int .i64 (T.at_ : Int)] 88 (0, 0))) := by rw [hW3, hx]; exact heap_alloc_new _ _
  have L3 : Hid (Later w2 W3) := by rw [hW3]; exact (Below.refl _ _).alloc (Nat.le_refl _) _
  have HR3 := hide (RdRaw.later hr2 L3.out)
  have hgx : g < x := by rw [hx]; exact RdRaw.lt hr2
  have HP3 : Hid (Past g none w W3) := HP2.out.trans (Past.of_later L3.out)
  obtain ⟨tv, nv, c0, c1, c2, f0, f1, f2, ht, hn, hb⟩ := RdRaw.cells HR3.out
  have HN := hide hn
  have HT := hide ht
  have HB := hide hb
  have hg3 := HR3.out.lt
  have e3 : W3.cell? ⟨x, 3, none⟩ = some (.int .i64 (T.at_ : Int)) := by simpa using cell_of_row W3 x 3 _ _ _ X3.out
  have HW := hide hW3.symm
  have HX := hide hx.symm
  clear hr2 hp2 M hW3 hx ht hn hb c0 c1 f0 f1 f2
  go_wp2_with (fail)
  have hw := HW.out
  have hxx := HX.out
  simp only [hw, hxx]
  clear hw hxx
  refine wp_region_V Later (fun j => j == 8 || j == 11) (by kernel_rfl) ?_
  refine wpAnyV_pure pre_later (i := 0) (d := some 7) (v := ?vab0) rfl rfl (by kernel_rfl) (by kernel_rfl) (by kernel_rfl) (by kernel_rfl) (fun _ _ _ h => h) (by rfl) ?yab0 ?_
  case yab0 => (intro w'; go_simp; try (with_reducible rfl))
  simp only [Act.put]; try simp only [List.setIfInBounds_toArray]; try simp only [List.set_cons_zero, List.set_cons_succ]
  refine wpAnyV_take pre_later (i := 1) (d := some 8) (v := ?vab1) rfl rfl (by kernel_rfl) (by kernel_rfl) (by kernel_rfl) (by kernel_rfl) (by kernel_rfl) (fun _ _ _ h => h) (by rfl) ?yab1 ?_
  case yab1 => (intro w' hw'; go_simp; try (with_reducible rfl))
  simp only [Act.put]; try simp only [List.setIfInBounds_toArray]; try simp only [List.set_cons_zero, List.set_cons_succ]
  refine wpAnyV_take pre_later (i := 2) (d := some 9) (v := ?vab2) rfl rfl (by kernel_rfl) (by kernel_rfl) (by kernel_rfl) (by kernel_rfl) (by kernel_rfl) (fun _ _ _ h => h) (by rfl) ?yab2 ?_
  case yab2 => (intro w' hw'; go_simp; try (with_reducible rfl))
  simp only [Act.put]; try simp only [List.setIfInBounds_toArray]; try simp only [List.set_cons_zero, List.set_cons_succ]
  refine wpAnyV_take pre_later (i := 3) (d := some 10) (v := ?vab3) rfl rfl (by kernel_rfl) (by kernel_rfl) (by kernel_rfl) (by kernel_rfl) (by kernel_rfl) (fun _ _ _ h => h) (by rfl) ?yab3 ?_
  case yab3 => (intro w' hw'; go_simp; try (with_reducible rfl))
  simp only [Act.put]; try simp only [List.setIfInBounds_toArray]; try simp only [List.set_cons_zero, List.set_cons_succ]
  refine wpAnyV_take pre_later (i := 4) (d := some 11) (v := ?vab4) rfl rfl (by kernel_rfl) (by kernel_rfl) (by kernel_rfl) (by kernel_rfl) (by kernel_rfl) (fun _ _ _ h => h) (by rfl) ?yab4 ?_
  case yab4 => (intro w' hw'; have y := later_cell ((Later.drew _).trans hw') c2; go_simp; try (with_reducible rfl))
  simp only [Act.put]; try simp only [List.setIfInBounds_toArray]; try simp only [List.set_cons_zero, List.set_cons_succ]
  refine wpAnyV_take pre_later (i := 5) (d := some 12) (v := ?vab5) rfl rfl (by kernel_rfl) (by kernel_rfl) (by kernel_rfl) (by kernel_rfl) (by kernel_rfl) (fun _ _ _ h => h) (by rfl) ?yab5 ?_
  case yab5 => (intro w' hw'; go_simp; try (with_reducible rfl))
  simp only [Act.put]; try simp only [List.setIfInBounds_toArray]; try simp only [List.set_cons_zero, List.set_cons_succ]
  refine wpAnyV_take pre_later (i := 6) (d := some 13) (v := ?vab6) rfl rfl (by kernel_rfl) (by kernel_rfl) (by kernel_rfl) (by kernel_rfl) (by kernel_rfl) (fun _ _ _ h => h) (by rfl) ?yab6 ?_
  case yab6 => (intro w' hw'; have y := later_cell ((Later.drew _).trans hw') e3; go_simp; try (with_reducible rfl))
  simp only [Act.put]; try simp only [List.setIfInBounds_toArray]; try simp only [List.set_cons_zero, List.set_cons_succ]
  refine wpAnyV_only pre_later (i := 7) rfl (by kernel_rfl) (by rfl) fun K hK => ?_
  go_simp
  refine hK.out _ _ ((Below.refl _ _).alloc (Nat.le_refl _) _) ?_
  obtain ⟨w5, hw5⟩ : ∃ w5, w5 = (W3.alloc (.cells #[.int .i64 (T.at_ : Int)] 3 (0, 0))).drew := ⟨_, rfl⟩
  have F5 : Hid (FlatAt (fun _ => True) w5 1 (.slice (some ⟨W3.heap.size, 0, none⟩) 1 1) 1 [.int .i64 (T.at_ : Int)]) := by rw [hw5]; exact (flat_one W3 3 1 #[.int .i64 (T.at_ : Int)] (by rfl) (by simp [Value.oneCell']) _ trivial).kept (Kept.drew _ _)
  have M5 : Hid (Later W3 w5) := by rw [hw5]; exact Later.trans ((Below.refl _ _).alloc (Nat.le_refl _) _) (Later.drew _)
  have HN5 := hide (own_later HN.out M5.out)
  rw [← hw5]
  clear hw5
  clear hK K
  try (simp only [Act.put]; try simp only [List.setIfInBounds_toArray]; try simp only [List.set_cons_zero, List.set_cons_succ])
  refine wpAnyV_write (i := 8) rfl rfl (by kernel_rfl) (by rfl) fun K hK => ?_
  refine wp_append_flat _ _ 51 (by rfl) (g + 1) 3 i0 _ 1 8 Tryd.underlying51 HI.out HZ0.out HZ1.out HZ2.out (by rfl) (by omega) nv ps.length (plc ps) (by rfl) HN5.out W3.heap.size 1 1 [.int .i64 (T.at_ : Int)] (by rfl) (fun _ => True) F5.out (by omega) (by have := HPS.out; unfold maxLen; omega) (by have := HPS.out; omega) (by have := Below.size M5.out; omega) ?_
  intro v6 w6 ho6 hg6 _
  obtain ⟨A6, k6, rfl, hk6, hk7, _⟩ := FlatAt.shape (FlatAt.of_own ho6 (by intro u hu; simp only [plc, List.mem_append, List.mem_map, List.mem_singleton] at hu; rcases hu with ⟨_, _, rfl⟩ | rfl <;> rfl))
  have HO6 := hide ho6
  have HB5 := hide ((Below.block M5.out g (lt_of_block HB.out)).trans HB.out)
  have HX5 := hide ((Below.block M5.out x (lt_of_block X3.out)).trans X3.out)
  have HB6 := hide ((hg6.block g (lt_of_block HB5.out) (apart_own HN5.out HB5.out (by decide))).trans HB5.out)
  have HX6 := hide ((hg6.block x (lt_of_block HX5.out) (apart_own HN5.out HX5.out (by decide))).trans HX5.out)
  have P6 : Hid (Past g none w w6) := (HP3.out.trans (Past.of_later M5.out)).trans (Past.of_grown hg6 (by simp) fun j e => .inr (.inr ⟨(HN5.out.lt j e).1, own_type HN5.out e⟩))
  have HT6 : Hid (FlatAt (· < g) w6 4 tv ((mustP (someF 1) r).l ++ [endTok z]).length (((mustP (someF 1) r).l ++ [endTok z]).flatMap Tok.cells)) := (HT.out.kept (Kept.of_below M5.out _)).kept (Kept.of_grown hg6 fun j e hj => by have h1 := (HN5.out.lt j e).1; have h2 : j < g := hj; omega)
  have c2' : w6.cell? ⟨g, 2, none⟩ = some nv := by simpa using cell_of_row w6 g 2 _ _ _ HB6.out
  have f2' : w6.frozen? ⟨g, 2, none⟩ = false := frozen_of_row w6 g 2 _ _ HB6.out
  have hg6s : g < w6.heap.size := lt_of_block HB6.out
  have HR7 : Hid (RdAt g z (mustP (someF 1) r) (ps ++ [T.at_]) (w6.setCell ⟨g, 2, none⟩ (.slice A6 (ps.length + 1) k6))) := ⟨tv, Value.slice A6 (ps.length + 1) k6, by simpa using heap_setCell_same w6 g 2 _ _ (.slice A6 (ps.length + 1) k6) HB6.out, HT6.out.kept (Kept.of_grown (grown_cell w6 ⟨g, 2, none⟩ _) fun j e hj => by have h1 : g = j := Option.some.inj e; have h2 : j < g := hj; omega), by rw [List.length_append, List.length_singleton, plc, List.map_append]; exact own_apart HO6.out HB6.out (by decide) (grown_cell w6 ⟨g, 2, none⟩ _)⟩
  have HP7 : Hid (Past g none w (w6.setCell ⟨g, 2, none⟩ (.slice A6 (ps.length + 1) k6))) := P6.out.trans (Past.set g none (by simp) (grown_cell w6 ⟨g, 2, none⟩ _))
  have e1' : (w6.setCell ⟨g, 2, none⟩ (.slice A6 (ps.length + 1) k6)).cell? ⟨x, 1, none⟩ = some (.string ⟨T.s.toArray⟩) := by
    have := (heap_setCell_other w6 ⟨g, 2, none⟩ x (.slice A6 (ps.length + 1) k6) (by simp; omega)).trans HX6.out
    simpa using cell_of_row _ x 1 _ _ _ this
  clear hg6 ho6 hk6 hk7 c2 e3
  refine hK.out _ _ (?_ : wpAnyV _ _ _ _ _ _ _ _ (Act.put _ (some 15) _) _)
  clear hK K
  try (simp only [Act.put]; try simp only [List.setIfInBounds_toArray]; try simp only [List.set_cons_zero, List.set_cons_succ])
  refine wpAnyV_pure pre_later (i := 9) (d := some 16) (v := ?vab9) rfl rfl (by kernel_rfl) (by kernel_rfl) (by kernel_rfl) (by kernel_rfl) (fun _ _ _ h => h) (by rfl) ?yab9 ?_
  case yab9 => (intro w'; go_simp; try (with_reducible rfl))
  simp only [Act.put]; try simp only [List.setIfInBounds_toArray]; try simp only [List.set_cons_zero, List.set_cons_succ]
  refine wpAnyV_pure pre_later (i := 10) (d := some 17) (v := ?vab10) rfl rfl (by kernel_rfl) (by kernel_rfl) (by kernel_rfl) (by kernel_rfl) (fun _ _ _ h => h) (by rfl) ?yab10 ?_
  case yab10 => (intro w'; go_simp; try (with_reducible rfl))
  simp only [Act.put]; try simp only [List.setIfInBounds_toArray]; try simp only [List.set_cons_zero, List.set_cons_succ]
  refine wpAnyV_write (i := 11) rfl rfl (by kernel_rfl) (by rfl) fun K hK => ?_
  go_simp
  refine hK.out _ _ ?_
  clear hK K
  try simp only [Act.put]
  refine wpAnyV_done (by kernel_rfl) ?_ _
  go_wp2_with (fail)
  go_ret
  exact ⟨rfl, HR7.out, HP7.out⟩
end
end Go.Proofs.YtdahnjcoflifbaaDoor
/- A step is read: the words that may follow, one by one. -/
namespace Go.Proofs.YtdahnjcoflifbaaDoor
open Go.RowKit

/-- A step in a block of its own. -/
def StepBox (h : Nat) (s : StepD) (w : World) : Prop := w.heap[h]? = some (.cells s.cells.toArray 41 (0, 0))
theorem StepBox.cells {h : Nat} {s : StepD} {w : World} (hb : StepBox h s w) : w.cell? ⟨h, 0, none⟩ = some (.string s.name) ∧ w.cell? ⟨h, 1, none⟩ = some (.int .i64 s.stub) ∧ w.cell? ⟨h, 2, none⟩ = some (.int .i64 s.retry) ∧ w.cell? ⟨h, 3, none⟩ = some (.int .i64 s.wait) ∧
    w.cell? ⟨h, 4, none⟩ = some (.bool s.undo) ∧ w.cell? ⟨h, 5, none⟩ = some (.bool s.pivot) ∧ ∀ i, w.frozen? ⟨h, i, none⟩ = false :=
  ⟨(cell_of_row w h 0 _ _ _ hb).trans rfl, (cell_of_row w h 1 _ _ _ hb).trans rfl, (cell_of_row w h 2 _ _ _ hb).trans rfl, (cell_of_row w h 3 _ _ _ hb).trans rfl, (cell_of_row w h 4 _ _ _ hb).trans rfl, (cell_of_row w h 5 _ _ _ hb).trans rfl, fun i => frozen_of_row w h i _ _ hb⟩
theorem StepBox.past {g h : Nat} {s : StepD} {w w' : World} (hb : StepBox h s w) (hp : Past g none w w') (hg : g < h) : StepBox h s w' := (hp.keep h (lt_of_block hb) hg (by simp) fun cs => by rw [show w.heap[h]? = _ from hb]; simp).trans hb
theorem StepBox.set {h i : Nat} {s s' : StepD} {w : World} {v : Value} (hb : StepBox h s w) (hs : s'.cells.toArray = s.cells.toArray.setIfInBounds i v) : StepBox h s' (w.setCell ⟨h, i, none⟩ v) := by
  unfold StepBox
  rw [hs]
  exact heap_setCell_same w h i _ _ v hb
theorem StepBox.past_set {g h i : Nat} {s : StepD} {w : World} {v : Value} (_ : StepBox h s w) (hg : g ≤ h) : Past g (some h) w (w.setCell ⟨h, i, none⟩ v) :=
  Past.of_grown (grown_cell w ⟨h, i, none⟩ v) (fun j e => by have := Option.some.inj e; omega) fun _ e => .inr (.inl e)
theorem RdRaw.box {g h i : Nat} {L : List Tok} {lost : Bool} {ps : List Nat} {s : StepD} {w : World} {v : Value} (hr : RdRaw g L lost ps w) (hb : StepBox h s w) (hg : g < h) : RdRaw g L lost ps (w.setCell ⟨h, i, none⟩ v) :=
  hr.own (grown_cell w ⟨h, i, none⟩ v) hg hb (by decide)

section
variable {w : World}
set_option maxHeartbeats 2000000 in
theorem take_retry {g z h : Nat} {r : Rd} {ps : List Nat} {s : StepD} (hr : RdAt g z r ps w) (hb : StepBox h s w) (hg : g < h) :
    Calls Tryd.prog 66 #[.pointer (some ⟨g, 0, none⟩), .string ⟨#[114, 101, 116, 114, 121]⟩, .pointer (some ⟨h, 0, none⟩)] w fun e w' => e = .returned (.tuple #[]) ∧ RdAt g z (mustP (someF 2) r) ps w' ∧ StepBox h { s with retry := ((tokP (someF 2) r).n : Int) } w' ∧ Past g (some h) w w' := by
  have C := hide (number_any hr)
  have HB := hide hb
  clear hr hb
  go_enter Tryd.func66, Tryd.ntmps66
  go_wp2_with (fail)
  refine C.out.mono ?_
  rintro e w1 ⟨rfl, hr1, hp1⟩
  have B1 := hide (HB.out.past hp1 hg)
  obtain ⟨b0, b1, b2, b3, b4, b5, bf⟩ := B1.out.cells
  have bfi := bf 2
  have hh1 : h < w1.heap.size := lt_of_block B1.out
  have HR := hide (RdRaw.box (i := 2) (v := .int .i64 ((tokP (someF 2) r).n : Int)) hr1 B1.out hg)
  have BX : Hid (StepBox h { s with retry := ((tokP (someF 2) r).n : Int) } (w1.setCell ⟨h, 2, none⟩ (.int .i64 ((tokP (someF 2) r).n : Int)))) := B1.out.set (by simp [StepD.cells])
  have HP : Hid (Past g (some h) w (w1.setCell ⟨h, 2, none⟩ (.int .i64 ((tokP (someF 2) r).n : Int)))) := hp1.weak.trans (B1.out.past_set (by omega))
  clear hr1 hp1 C bf
  go_wp2
  go_end0
  exact ⟨rfl, HR.out, BX.out, HP.out⟩
set_option maxHeartbeats 2000000 in
theorem take_wait {g z h : Nat} {r : Rd} {ps : List Nat} {s : StepD} (hr : RdAt g z r ps w) (hb : StepBox h s w) (hg : g < h) :
    Calls Tryd.prog 66 #[.pointer (some ⟨g, 0, none⟩), .string ⟨#[119, 97, 105, 116]⟩, .pointer (some ⟨h, 0, none⟩)] w fun e w' => e = .returned (.tuple #[]) ∧ RdAt g z (mustP (someF 2) r) ps w' ∧ StepBox h { s with wait := ((tokP (someF 2) r).n : Int) } w' ∧ Past g (some h) w w' := by
  have C := hide (number_any hr)
  have HB := hide hb
  clear hr hb
  go_enter Tryd.func66, Tryd.ntmps66
  go_wp2_with (fail)
  refine C.out.mono ?_
  rintro e w1 ⟨rfl, hr1, hp1⟩
  have B1 := hide (HB.out.past hp1 hg)
  obtain ⟨b0, b1, b2, b3, b4, b5, bf⟩ := B1.out.cells
  have bfi := bf 3
  have hh1 : h < w1.heap.size := lt_of_block B1.out
  have HR := hide (RdRaw.box (i := 3) (v := .int .i64 ((tokP (someF 2) r).n : Int)) hr1 B1.out hg)
  have BX : Hid (StepBox h { s with wait := ((tokP (someF 2) r).n : Int) } (w1.setCell ⟨h, 3, none⟩ (.int .i64 ((tokP (someF 2) r).n : Int)))) := B1.out.set (by simp [StepD.cells])
  have HP : Hid (Past g (some h) w (w1.setCell ⟨h, 3, none⟩ (.int .i64 ((tokP (someF 2) r).n : Int)))) := hp1.weak.trans (B1.out.past_set (by omega))
  clear hr1 hp1 C bf
  go_wp2
  go_end0
  exact ⟨rfl, HR.out, BX.out, HP.out⟩
set_option maxHeartbeats 2000000 in
theorem take_undo {g z h : Nat} {r : Rd} {ps : List Nat} {s : StepD} (hr : RdAt g z r ps w) (hb : StepBox h s w) (hg : g < h) :
    Calls Tryd.prog 66 #[.pointer (some ⟨g, 0, none⟩), .string ⟨#[117, 110, 100, 111]⟩, .pointer (some ⟨h, 0, none⟩)] w fun e w' => e = .returned (.tuple #[]) ∧ RdAt g z r ps w' ∧ StepBox h { s with undo := true } w' ∧ Past g (some h) w w' := by
  obtain ⟨b0, b1, b2, b3, b4, b5, bf⟩ := hb.cells
  have bfi := bf 4
  have hh1 : h < w.heap.size := lt_of_block hb
  have HR := hide (RdRaw.box (i := 4) (v := .bool true) hr hb hg)
  have BX : Hid (StepBox h { s with undo := true } (w.setCell ⟨h, 4, none⟩ (.bool true))) := hb.set (by simp [StepD.cells])
  have HP : Hid (Past g (some h) w (w.setCell ⟨h, 4, none⟩ (.bool true))) := hb.past_set (by omega)
  clear hr hb bf
  go_enter Tryd.func66, Tryd.ntmps66
  go_wp2
  go_end0
  exact ⟨rfl, HR.out, BX.out, HP.out⟩
set_option maxHeartbeats 2000000 in
theorem take_pivot {g z h : Nat} {r : Rd} {ps : List Nat} {s : StepD} (hr : RdAt g z r ps w) (hb : StepBox h s w) (hg : g < h) :
    Calls Tryd.prog 66 #[.pointer (some ⟨g, 0, none⟩), .string ⟨#[112, 105, 118, 111, 116]⟩, .pointer (some ⟨h, 0, none⟩)] w fun e w' => e = .returned (.tuple #[]) ∧ RdAt g z r ps w' ∧ StepBox h { s with pivot := true } w' ∧ Past g (some h) w w' := by
  obtain ⟨b0, b1, b2, b3, b4, b5, bf⟩ := hb.cells
  have bfi := bf 5
  have hh1 : h < w.heap.size := lt_of_block hb
  have HR := hide (RdRaw.box (i := 5) (v := .bool true) hr hb hg)
  have BX : Hid (StepBox h { s with pivot := true } (w.setCell ⟨h, 5, none⟩ (.bool true))) := hb.set (by simp [StepD.cells])
  have HP : Hid (Past g (some h) w (w.setCell ⟨h, 5, none⟩ (.bool true))) := hb.past_set (by omega)
  clear hr hb bf
  go_enter Tryd.func66, Tryd.ntmps66
  go_wp2
  go_end0
  exact ⟨rfl, HR.out, BX.out, HP.out⟩
end
end Go.Proofs.YtdahnjcoflifbaaDoor
/- A step looked at; a definition looked at. -/
namespace Go.Proofs.YtdahnjcoflifbaaDoor
open Go.RowKit

section
variable {w : World}
theorem err_bad {done : List StepD} {s : StepD} (h : stepBad s = true) : stepErr done s = 2 := by unfold stepErr; rw [if_pos h]
theorem err_late {done : List StepD} {s : StepD} (h : stepBad s = false) (h2 : (namedB done s || (pivotB done && s.pivot)) = true) : stepErr done s = 9 := by unfold stepErr; rw [if_neg (by simp [h]), if_pos h2]
theorem err_undo {done : List StepD} {s : StepD} (h : stepBad s = false) (h2 : (namedB done s || (pivotB done && s.pivot)) = false) (h3 : (s.undo == (pivotB done || s.pivot)) = true) : stepErr done s = 10 := by unfold stepErr; rw [if_neg (by simp [h]), if_neg (by simp [h2]), if_pos h3]
theorem err_none {done : List StepD} {s : StepD} (h : stepBad s = false) (h2 : (namedB done s || (pivotB done && s.pivot)) = false) (h3 : (s.undo == (pivotB done || s.pivot)) = false) : stepErr done s = 0 := by unfold stepErr; rw [if_neg (by simp [h]), if_neg (by simp [h2]), if_neg (by simp [h3])]

set_option maxHeartbeats 8000000 in
set_option maxRecDepth 100000 in
theorem checkStep_any {F : Nat → Prop} {s : StepD} {done : List StepD} {A : Option Addr} {n cap : Nat} (h : StepsAt F w (.slice A n cap) done) (hn : n = done.length) (hs : n ≤ 1000) :
    Calls Tryd.prog 31 #[.agg s.cells.toArray, .slice A n cap] w fun e w' => e = .returned (.int .i64 ((stepErr done s : Nat) : Int)) ∧ Later w w' := by
  obtain ⟨E, hE⟩ : ∃ E, stepErr done s = E := ⟨_, rfl⟩
  rw [hE]
  have HE := hide hE
  obtain ⟨W1, hW1⟩ : ∃ W1, W1 = w.alloc (.cells s.cells.toArray 41 (0, 0)) := ⟨_, rfl⟩
  obtain ⟨x, hx⟩ : ∃ x, x = w.heap.size := ⟨_, rfl⟩
  have B1 : Hid (StepBox x s W1) := by rw [hW1, hx]; exact heap_alloc_new w _
  have L1 : Hid (Later w W1) := by rw [hW1]; exact (Below.refl _ _).alloc (Nat.le_refl _) _
  have C1 := hide (contains_ask (w := W1) (v := ⟨55, #[.pointer (some ⟨x, 0, none⟩)]⟩) (f := fun a => decide (a.name = s.name)) (StepsAt.kept h (Kept.of_below L1.out _)) hn ⟨enters_named1, fun W t hl => named1_any W t s x (by
    have h2 : StepBox x s W := (Below.block hl x (lt_of_block B1.out)).trans B1.out
    exact h2.cells.1)⟩ hs)
  have H := hide h
  have HN := hide hn
  unfold StepD.cells at hW1
  obtain ⟨nm, hnm⟩ : ∃ nm, namedB done s = nm := ⟨_, rfl⟩
  obtain ⟨bh, hbh⟩ : ∃ bh, pivotB done = bh := ⟨_, rfl⟩
  have hC : (done.any fun a => decide (a.name = s.name)) = nm := hnm
  have hP : (done.any fun a => a.pivot) = bh := hbh
  rw [hC] at C1
  have HNM := hide hnm
  have HBH := hide hbh
  have HP := hide hP
  have HW1 := hide hW1.symm
  have HX := hide hx.symm
  simp only [SetV.val] at C1
  unfold StepD.cells
  clear h hn hW1 hx hC hP hnm hbh hE
  go_enter Tryd.func31, Tryd.ntmps31
  go_wp2_with (fail)
  have hw := HW1.out
  have hxx := HX.out
  simp only [hw, hxx]
  clear hw hxx
  refine C1.out.mono ?_
  rintro e w2 ⟨rfl, hl2⟩
  have L2 := hide (L1.out.trans hl2)
  have B2 : Hid (StepBox x s w2) := (Below.block hl2 x (lt_of_block B1.out)).trans B1.out
  have C2 := hide (contains_ask (w := w2) (v := ⟨56, #[]⟩) (f := fun a => a.pivot) (StepsAt.kept H.out (Kept.of_below L2.out _)) HN.out ⟨enters_pivot2, fun W t _ => pivot2_any W t⟩ hs)
  rw [HP.out] at C2
  simp only [SetV.val] at C2
  clear C1 hl2 L1 B1 HP
  go_wp2_with (fail)
  refine C2.out.mono ?_
  rintro e w3 ⟨rfl, hl3⟩
  have L3 := hide (L2.out.trans hl3)
  have B3 : Hid (StepBox x s w3) := (Below.block hl3 x (lt_of_block B2.out)).trans B2.out
  obtain ⟨b0, b1, b2, b3, b4, b5, bf⟩ := B3.out.cells
  have CN := hide (name_any (w := w3) s.name)
  clear C2 hl3 L2 B2 bf b1 b2 b3 b4 b5
  go_wp2_with (fail)
  refine CN.out.mono ?_
  rintro e w4 ⟨rfl, hl4⟩
  have L4 := hide (L3.out.trans hl4)
  have B4 : Hid (StepBox x s w4) := (Below.block hl4 x (lt_of_block B3.out)).trans B3.out
  obtain ⟨b0', b1, b2, b3, b4, b5, bf⟩ := B4.out.cells
  obtain ⟨q0, hq0⟩ : ∃ q, nameF s.name.data.toList = q := ⟨_, rfl⟩
  obtain ⟨q1, hq1⟩ : ∃ q, outB s.stub 1 4 = q := ⟨_, rfl⟩
  obtain ⟨q2, hq2⟩ : ∃ q, outB s.retry 0 9 = q := ⟨_, rfl⟩
  obtain ⟨q3, hq3⟩ : ∃ q, outB s.wait 1 99 = q := ⟨_, rfl⟩
  have o1 := fun w => outside_any (w := w) s.stub 1 4
  have o2 := fun w => outside_any (w := w) s.retry 0 9
  have o3 := fun w => outside_any (w := w) s.wait 1 99
  rw [hq1] at o1
  rw [hq2] at o2
  rw [hq3] at o3
  have O1 := hide o1
  have O2 := hide o2
  have O3 := hide o3
  have HBAD : Hid (stepBad s = (!q0 || (q1 || (q2 || q3)))) := by show _ = _; unfold stepBad; rw [hq0, hq1, hq2, hq3]
  rw [hq0]
  clear CN hl4 L3 B3 bf b0 o1 o2 o3 hq0 hq1 hq2 hq3
  cases q0 with
  | false =>
    go_wp2
    go_ret
    exact ⟨ret_int (by rw [← HE.out, err_bad HBAD.out]; rfl), L4.out⟩
  | true =>
    cases q1 with
    | true =>
      go_wp2_with (fail)
      refine (O1.out _).mono ?_
      rintro e w5 ⟨rfl, hq⟩
      obtain rfl := hq.symm
      go_wp2
      go_ret
      exact ⟨ret_int (by rw [← HE.out, err_bad HBAD.out]; rfl), L4.out⟩
    | false =>
      cases q2 with
      | true =>
        go_wp2_with (fail)
        refine (O1.out _).mono ?_
        rintro e w5 ⟨rfl, hq⟩
        obtain rfl := hq.symm
        go_wp2_with (fail)
        refine (O2.out _).mono ?_
        rintro e w6 ⟨rfl, hq⟩
        obtain rfl := hq.symm
        go_wp2
        go_ret
        exact ⟨ret_int (by rw [← HE.out, err_bad HBAD.out]; rfl), L4.out⟩
      | false =>
        go_wp2_with (fail)
        refine (O1.out _).mono ?_
        rintro e w5 ⟨rfl, hq⟩
        obtain rfl := hq.symm
        go_wp2_with (fail)
        refine (O2.out _).mono ?_
        rintro e w6 ⟨rfl, hq⟩
        obtain rfl := hq.symm
        go_wp2_with (fail)
        refine (O3.out _).mono ?_
        rintro e w7 ⟨rfl, hq⟩
        obtain rfl := hq.symm
        clear O1 O2 O3
        cases q3 with
        | true =>
          go_wp2
          go_ret
          exact ⟨ret_int (by rw [← HE.out, err_bad HBAD.out]; rfl), L4.out⟩
        | false =>
          have HB0 : Hid (stepBad s = false) := HBAD.out
          obtain ⟨un, hun⟩ : ∃ un, s.undo = un := ⟨_, rfl⟩
          obtain ⟨pv, hpv⟩ : ∃ pv, s.pivot = pv := ⟨_, rfl⟩
          rw [hun] at b4
          rw [hpv] at b5
          have HUN := hide hun
          have HPV := hide hpv
          clear hun hpv HBAD
          cases nm with
          | true =>
            go_wp2
            go_ret
            exact ⟨ret_int (by rw [← HE.out, err_late HB0.out (by rw [HNM.out]; rfl)]; rfl), L4.out⟩
          | false =>
            cases bh <;> cases pv <;> cases un <;> (
              go_wp2
              go_ret
              refine ⟨ret_int ?_, L4.out⟩
              rw [← HE.out]
              first
                | (rw [err_late HB0.out (by rw [HNM.out, HBH.out, HPV.out]; rfl)]; rfl)
                | (rw [err_undo HB0.out (by rw [HNM.out, HBH.out, HPV.out]; rfl) (by rw [HBH.out, HPV.out, HUN.out]; rfl)]; rfl)
                | (rw [err_none HB0.out (by rw [HNM.out, HBH.out, HPV.out]; rfl) (by rw [HBH.out, HPV.out, HUN.out]; rfl)]; rfl))
end
end Go.Proofs.YtdahnjcoflifbaaDoor
/- A definition looked at. -/
namespace Go.Proofs.YtdahnjcoflifbaaDoor
open Go.RowKit

theorem steps_to {k n c : Nat} (hk : k ≤ n) (hn : n ≤ c) (A : Option Addr) (w : World) :
    (Instr.slice 23 (.slice A n c) none (some (.int .i64 (k : Int))) none).run Tryd.prog w = .ok (.slice A k c) w := by
  have ht : Tryd.prog.underlying 23 = some (.slice (Tryd.prog.elem 23)) := by kernel_rfl
  obtain ⟨i0, hi, hz0, hz1, hz2⟩ := info_parts (show (Tryd.prog.info? (Tryd.prog.elem 23)).map (fun i => (i.zero, i.size, i.bytes)) = some (some (.agg #[.string ⟨#[]⟩, .int .i64 0, .int .i64 0, .int .i64 0, .bool false, .bool false]), 6, 48) from by kernel_rfl)
  have h1 := run_slice_h (P := Tryd.prog) w 23 A n c ht .i64 (k : Int) (by omega) (by omega)
  rw [h1]
  have hs : (sizeOf (Tryd.prog.elem 23)).run Tryd.prog w = .ok 6 w := by simp [sizeOf, typeInfo, hi, hz1]
  rw [hs]
  simp only [Result.andThen, sliced, Int.toNat_natCast, Nat.sub_zero]
  rcases A with _ | a
  · simp
  · simp [Addr.add]
theorem exec_to {op : Oper} {a : Act} {w : World} (x z : Operand) (ho : op.op = .slice 23 x none (some z) none) (A : Option Addr) (n c k : Nat) (hx : a.eval x = .slice A n c) (hz : a.eval z = .int .i64 (k : Int)) (hk : k ≤ n) (hn : n ≤ c) :
    (execOp a.eval op).run Tryd.prog w = .ok (.value (.slice A k c)) w := by
  have ht : Tryd.prog.underlying 23 = some (.slice (Tryd.prog.elem 23)) := by kernel_rfl
  have h1 := steps_to hk hn A w
  unfold execOp
  simp only [ho, hx, hz, Option.map_some, Option.map_none, Sem.run_bind, Sem.run_pure]
  rw [run_sliceAt_slice _ _ _ _ _ _ ht, h1]
  rfl
theorem steps_take {F : Nat → Prop} {w : World} {A : Option Addr} {n c k : Nat} {l : List StepD} (h : StepsAt F w (.slice A n c) l) (hn : n = l.length) (hk : k ≤ n) : StepsAt F w (.slice A k c) (l.take k) := by
  subst hn
  obtain ⟨h1, h2, A', c', hv, h3, h4, h5, h6⟩ := h
  obtain ⟨rfl, rfl⟩ : A = A' ∧ c = c' := by injection hv with e1 _ e3; exact ⟨e1, e3⟩
  have hl : (l.take k).length = k := by simp; omega
  have hf := Sd.flat_take StepD.cells 6 l k (fun s _ => s.len)
  unfold StepsAt
  rw [hl, hf]
  refine ⟨?_, fun u hu => h2 u (List.mem_of_mem_take hu), A, c, rfl, by omega, h4, h5, fun h0 => ?_⟩
  · rw [List.length_take, h1]
    have := Nat.mul_le_mul_right 6 hk
    omega
  · obtain ⟨b, off, hA, hF, hb, hr⟩ := h6 (by omega)
    refine ⟨b, off, hA, hF, hb, fun j u hj => hr j u ?_⟩
    rw [List.getElem?_take_of_lt (by have := (List.getElem?_eq_some_iff.1 hj).1; rw [List.length_take] at this; omega)] at hj
    exact hj

section
variable {w : World}
set_option maxHeartbeats 8000000 in
set_option maxRecDepth 100000 in
theorem check_any {F : Nat → Prop} {name : ByteArray} {v : Value} {steps : List StepD} (h : StepsAt F w v steps) :
    Calls Tryd.prog 14 #[.agg #[.string name, v]] w fun e w' => e = .returned (.tuple #[.int .i64 (((checkF name steps).1 : Nat) : Int), .int .i64 (((checkF name steps).2 : Nat) : Int)]) ∧ Later w w' := by
  obtain ⟨A, cap, rfl, hc1, hc2, _⟩ := FlatAt.shape h
  obtain ⟨n, hn⟩ : ∃ n, steps.length = n := ⟨_, rfl⟩
  rw [hn] at h hc1 ⊢
  obtain ⟨c1, hc1'⟩ : ∃ c, (checkF name steps).1 = c := ⟨_, rfl⟩
  obtain ⟨c2, hc2'⟩ : ∃ c, (checkF name steps).2 = c := ⟨_, rfl⟩
  rw [hc1', hc2']
  have HC1 := hide hc1'
  have HC2 := hide hc2'
  obtain ⟨W1, hW1⟩ : ∃ W1, W1 = w.alloc (.cells #[.string name, .slice A n cap] 25 (0, 0)) := ⟨_, rfl⟩
  obtain ⟨y, hy⟩ : ∃ y, y = w.heap.size := ⟨_, rfl⟩
  have B1 : Hid (W1.heap[y]? = some (.cells #[.string name, .slice A n cap] 25 (0, 0))) := by rw [hW1, hy]; exact heap_alloc_new w _
  have L1 : Hid (Later w W1) := by rw [hW1]; exact (Below.refl _ _).alloc (Nat.le_refl _) _
  have CN := hide (name_any (w := W1) name)
  obtain ⟨q0, hq0⟩ : ∃ q, nameF name.data.toList = q := ⟨_, rfl⟩
  rw [hq0] at CN
  obtain ⟨q1, hq1⟩ : ∃ q, outB (n : Int) 1 8 = q := ⟨_, rfl⟩
  have o1 := fun w => outside_any (w := w) (n : Int) 1 8
  rw [hq1] at o1
  have O1 := hide o1
  have hbad : (!nameF name.data.toList || (decide (steps.length < 1) || decide (8 < steps.length))) = (!q0 || q1) := by
    rw [hq0, ← hq1, hn]
    congr 1
    unfold outB
    congr 1
    · rw [decide_eq_decide]; omega
    · rw [decide_eq_decide]; omega
  have HBAD := hide hbad
  have HQ1 := hide hq1
  have H := hide h
  have HN := hide hn
  have HW1 := hide hW1.symm
  have HY := hide hy.symm
  clear h hn hW1 hy hc1' hc2' hq0 hq1 hbad o1
  go_enter Tryd.func14, Tryd.ntmps14
  go_wp2_with (fail)
  have hw := HW1.out
  have hyy := HY.out
  simp only [hw, hyy]
  clear hw hyy
  have c0 : W1.cell? ⟨y, 0, none⟩ = some (.string name) := (cell_of_row W1 y 0 _ _ _ B1.out).trans rfl
  have hy1 : y < W1.heap.size := lt_of_block B1.out
  go_wp2_with (fail)
  refine CN.out.mono ?_
  rintro e w2 ⟨rfl, hl2⟩
  have L2 := hide (L1.out.trans hl2)
  have B2 : Hid (w2.heap[y]? = some (.cells #[.string name, .slice A n cap] 25 (0, 0))) := (Below.block hl2 y (lt_of_block B1.out)).trans B1.out
  have c1' : w2.cell? ⟨y, 1, none⟩ = some (.slice A n cap) := (cell_of_row w2 y 1 _ _ _ B2.out).trans rfl
  have hy2 : y < w2.heap.size := lt_of_block B2.out
  clear CN hl2 L1 c0 hy1
  cases q0 with
  | false =>
    have HF : Hid (checkF name steps = (0, 2)) := by show _ = _; unfold checkF; rw [HBAD.out]; rfl
    have e1 : c1 = 0 := by rw [← HC1.out, HF.out]
    have e2 : c2 = 2 := by rw [← HC2.out, HF.out]
    have E1 := hide e1
    have E2 := hide e2
    clear e1 e2
    go_wp2
    go_ret2
    exact ⟨by rw [E1.out, E2.out]; rfl, L2.out⟩
  | true =>
    go_wp2_with (fail)
    refine (O1.out _).mono ?_
    rintro e w3 ⟨rfl, hq⟩
    obtain rfl := hq.symm
    clear O1
    cases q1 with
    | true =>
      have HF : Hid (checkF name steps = (0, 2)) := by show _ = _; unfold checkF; rw [HBAD.out]; rfl
      have e1 : c1 = 0 := by rw [← HC1.out, HF.out]
      have e2 : c2 = 2 := by rw [← HC2.out, HF.out]
      have E1 := hide e1
      have E2 := hide e2
      clear e1 e2
      go_wp2
      go_ret2
      exact ⟨by rw [E1.out, E2.out]; rfl, L2.out⟩
    | false =>
      have HF : Hid (checkF name steps = firstBad (steps.take 0) (steps.drop 0)) := by show _ = _; unfold checkF; rw [HBAD.out]; rfl
      have hn8 : n ≤ 8 := by
        have := HQ1.out
        simp only [outB, Bool.or_eq_false_iff, decide_eq_false_iff_not] at this
        omega
      clear HBAD HQ1
      go_wp2_with (fail)
      go_loopw [20] (fun v wr => ∃ i : Nat, v = .int .i64 (i : Int) ∧ i ≤ n ∧ checkF name steps = firstBad (steps.take i) (steps.drop i) ∧ Later w2 wr) (fun v _ => n - (intOf v).toNat)
      case atStart => exact ⟨0, rfl, by omega, HF.out, Later.refl _⟩
      case round =>
        obtain ⟨i, rfl, hi, hsum, hlat⟩ := hrel
        have HS := hide hsum
        have HL := hide hlat
        have BR : Hid (wr.heap[y]? = some (.cells #[.string name, .slice A n cap] 25 (0, 0))) := (Below.block hlat y (lt_of_block B2.out)).trans B2.out
        clear hsum hlat
        by_cases hlt : i < n
        · have HR := hide (StepsAt.kept H.out (Kept.of_below (L2.out.trans HL.out) F))
          obtain ⟨s, b, off, c', hs', hvv, _, _, _, hr⟩ := StepsAt.at_ HR.out (i := i) (by rw [HN.out]; exact hlt)
          rw [HN.out] at hvv
          obtain ⟨rfl, rfl⟩ : A = some ⟨b, off, none⟩ ∧ cap = c' := by injection hvv with e1 _ e3; exact ⟨e1, e3⟩
          obtain ⟨r0, r1, r2, r3, r4, r5⟩ := range_step hr
          have HSI := hide hs'
          obtain ⟨W5, hW5⟩ : ∃ W5, W5 = wr.alloc (.cells s.cells.toArray 41 (0, 0)) := ⟨_, rfl⟩
          obtain ⟨x, hx⟩ : ∃ x, x = wr.heap.size := ⟨_, rfl⟩
          have B5 : Hid (StepBox x s W5) := by rw [hW5, hx]; exact heap_alloc_new wr _
          have L5 : Hid (Later wr W5) := by rw [hW5]; exact (Below.refl _ _).alloc (Nat.le_refl _) _
          have BR5 : Hid (W5.heap[y]? = some (.cells #[.string name, .slice (some ⟨b, off, none⟩) n cap] 25 (0, 0))) := (Below.block L5.out y (lt_of_block BR.out)).trans BR.out
          have CS := hide (checkStep_any (w := W5.drew) (s := s) (done := steps.take i) (steps_take (StepsAt.kept HR.out (Kept.of_below (L5.out.trans (Later.drew W5)) F)) HN.out.symm (by omega : i ≤ n)) (by rw [List.length_take, HN.out]; omega) (by omega))
          obtain ⟨E, hE⟩ : ∃ E, stepErr (steps.take i) s = E := ⟨_, rfl⟩
          rw [hE] at CS
          have HE := hide hE
          have d1 : W5.cell? ⟨y, 1, none⟩ = some (.slice (some ⟨b, off, none⟩) n cap) := (cell_of_row W5 y 1 _ _ _ BR5.out).trans rfl
          have hy5 : y < W5.heap.size := lt_of_block BR5.out
          unfold StepD.cells at hW5
          have HW5 := hide hW5.symm
          have HX := hide hx.symm
          clear hs' hvv hr hW5 hx hE
          have cR : wr.cell? ⟨y, 1, none⟩ = some (.slice (some ⟨b, off, none⟩) n cap) := (cell_of_row wr y 1 _ _ _ BR.out).trans rfl
          go_wp2_with (fail)
          have hw := HW5.out
          have hxx := HX.out
          simp only [hw, hxx]
          clear hw hxx r0 r1 r2 r3 r4 r5
          refine wp_region_L (by kernel_rfl) ?_
          refine wpAnyL_take (i := 0) (d := some 25) (v := .agg s.cells.toArray) rfl rfl (by kernel_rfl) (by kernel_rfl) (by kernel_rfl) (fun _ _ _ h => h) (by rfl) ?yab0 ?_
          case yab0 => (intro w' hw'; exact exec_load_box 41 _ (by rfl) x 0 (by rfl) 41 _ ((Below.block ((Later.drew _).trans hw') x (lt_of_block B5.out)).trans B5.out) 6 _ Tryd.underlying41 (by rfl) (by kernel_rfl) s.cells (by rfl) (by rfl))
          simp only [Act.put]; try simp only [List.setIfInBounds_toArray]; try simp only [List.set_cons_zero, List.set_cons_succ]
          refine wpAnyL_take (i := 1) (d := some 26) (v := ?vab1) rfl rfl (by kernel_rfl) (by kernel_rfl) (by kernel_rfl) (fun _ _ _ h => h) (by rfl) ?yab1 ?_
          case yab1 => (intro w' hw'; go_simp; try (with_reducible rfl))
          simp only [Act.put]; try simp only [List.setIfInBounds_toArray]; try simp only [List.set_cons_zero, List.set_cons_succ]
          refine wpAnyL_take (i := 2) (d := some 27) (v := .slice (some ⟨b, off, none⟩) n cap) rfl rfl (by kernel_rfl) (by kernel_rfl) (by kernel_rfl) (fun _ _ _ h => h) (by rfl) ?yab2 ?_
          case yab2 => (intro w' hw'; have y := later_cell ((Later.drew _).trans hw') d1; go_simp)
          simp only [Act.put]; try simp only [List.setIfInBounds_toArray]; try simp only [List.set_cons_zero, List.set_cons_succ]
          refine wpAnyL_take (i := 3) (d := some 28) (v := ?vab3) rfl rfl (by kernel_rfl) (by kernel_rfl) (by kernel_rfl) (fun _ _ _ h => h) (by rfl) ?yab3 ?_
          case yab3 => (intro w' hw'; go_simp; try (with_reducible rfl))
          simp only [Act.put]; try simp only [List.setIfInBounds_toArray]; try simp only [List.set_cons_zero, List.set_cons_succ]
          refine wpAnyL_take (i := 4) (d := some 29) (v := .slice (some ⟨b, off, none⟩) i cap) rfl rfl (by kernel_rfl) (by kernel_rfl) (by kernel_rfl) (fun _ _ _ h => h) (by rfl) ?yab4 ?_
          case yab4 => (intro w' hw'; exact exec_to _ _ (by rfl) (some ⟨b, off, none⟩) n cap i (by rfl) (by rfl) (by omega) hc1)
          simp only [Act.put]; try simp only [List.setIfInBounds_toArray]; try simp only [List.set_cons_zero, List.set_cons_succ]
          refine wpAnyL_only (i := 5) rfl (by kernel_rfl) (by rfl) fun K hK => ?_
          go_simp
          refine CS.out.mono ?_
          rintro e w6 ⟨rfl, hl6⟩
          have HL6 := hide (HL.out.trans (L5.out.trans ((Later.drew W5).trans hl6)))
          refine hK.out _ _ hl6 ?_
          clear hl6 CS
          clear hK K
          try (simp only [Act.put]; try simp only [List.setIfInBounds_toArray]; try simp only [List.set_cons_zero, List.set_cons_succ])
          refine wpAnyL_take (i := 6) (d := some 6) (v := ?vab6) rfl rfl (by kernel_rfl) (by kernel_rfl) (by kernel_rfl) (fun _ _ _ h => h) (by rfl) ?yab6 ?_
          case yab6 => (intro w' hw'; go_simp; try (with_reducible rfl))
          simp only [Act.put]; try simp only [List.setIfInBounds_toArray]; try simp only [List.set_cons_zero, List.set_cons_succ]
          refine wpAnyL_done (by kernel_rfl) ?_ _
          by_cases hE0 : E = 0
          · have hb : ((E : Int) != 0) = false := by rw [hE0]; rfl
            have HE0 := hide hE0
            clear hE0
            go_wp2_with (fail)
            go_roundw
            case rel =>
              refine ⟨i + 1, by go_num, by omega, ?_, HL6.out⟩
              rw [HS.out, firstBad_at HSI.out, HE.out, if_pos HE0.out]
            case measure => simp [intOf]; omega
          · have hb : ((E : Int) != 0) = true := by simp; omega
            have hres : checkF name steps = (i + 1, E) := by rw [HS.out, firstBad_at HSI.out, HE.out, if_neg hE0]
            have e1 : c1 = i + 1 := by rw [← HC1.out, hres]
            have e2 : c2 = E := by rw [← HC2.out, hres]
            have E1 := hide e1
            have E2 := hide e2
            clear hE0 hres e1 e2
            go_wp2_with (fail)
            go_ret2
            exact ⟨by rw [E1.out, E2.out]; rfl, L2.out.trans HL6.out⟩
        · have hie : i = n := by omega
          have hres : checkF name steps = (0, 0) := by rw [HS.out, hie, ← HN.out, firstBad_end]
          have e1 : c1 = 0 := by rw [← HC1.out, hres]
          have e2 : c2 = 0 := by rw [← HC2.out, hres]
          have E1 := hide e1
          have E2 := hide e2
          clear hres e1 e2 hie
          go_wp2_with (fail)
          go_ret2
          exact ⟨by rw [E1.out, E2.out]; rfl, L2.out.trans HL.out⟩
end
end Go.Proofs.YtdahnjcoflifbaaDoor
/- A step is read, whole. -/
namespace Go.Proofs.YtdahnjcoflifbaaDoor
open Go.RowKit

abbrev optWords : List Value := [.string ⟨#[114, 101, 116, 114, 121]⟩, .string ⟨#[119, 97, 105, 116]⟩, .string ⟨#[117, 110, 100, 111]⟩, .string ⟨#[112, 105, 118, 111, 116]⟩]
/-- The words that may follow a step's stub lie in their variable. -/
def OptAt (w : World) : Prop := 0 < w.heap.size ∧ w.rangeAt 0 0 optWords
theorem OptAt.same {w w' : World} (h : OptAt w) (hs : w.heap.size ≤ w'.heap.size) (hb : w'.heap[0]? = w.heap[0]?) : OptAt w' :=
  ⟨Nat.lt_of_lt_of_le h.1 hs, fun j v hv => (World.cell?_of_block hb).trans (h.2 j v hv)⟩
theorem OptAt.later {w w' : World} (h : OptAt w) (hl : Later w w') : OptAt w' := h.same (Below.size hl) (Below.block hl _ h.1)
theorem OptAt.past {w w' : World} {g : Nat} {H : Option Nat} (h : OptAt w) (hl : Past g H w w') (hg : 0 < g) : OptAt w' := h.same hl.size (hl.low _ h.1 hg)

/-- What a reader has behind so many of the words that may follow, and the step so far. -/
def optR (r : Rd) : Nat → Rd
  | 0 => s3 r
  | 1 => s4 r
  | 2 => s5 r
  | 3 => s6 r
  | _ => s7 r
def optS (r : Rd) : Nat → StepD
  | 0 => { stepP r with retry := 0, wait := 10, undo := false, pivot := false }
  | 1 => { stepP r with wait := 10, undo := false, pivot := false }
  | 2 => { stepP r with undo := false, pivot := false }
  | 3 => { stepP r with pivot := false }
  | _ => stepP r
theorem opt_next {r : Rd} {i : Nat} (h : i < 4) : optR r (i + 1) = [numR wRetry, numR wWait, mayP (justF wUndo), mayP (justF wPivot)].getD i id (optR r i) := by
  have : i = 0 ∨ i = 1 ∨ i = 2 ∨ i = 3 := by omega
  rcases this with rfl | rfl | rfl | rfl <;> rfl
def StepD.zero : StepD := ⟨⟨#[]⟩, 0, 0, 0, false, false⟩
theorem box_other {g h x : Nat} {s : StepD} {w w' : World} (hx : StepBox x s w) (hp : Past g (some h) w w') (hg : g < x) (hne : x ≠ h) : StepBox x s w' :=
  (hp.keep x (lt_of_block hx) hg (by intro e; exact hne (Option.some.inj e).symm) fun cs => by rw [show w.heap[x]? = _ from hx]; simp).trans hx

section
variable {w : World}
/-- What the loop over the words keeps. -/
def OptRel (w : World) (g z h x : Nat) (r : Rd) (ps : List Nat) (i : Nat) (wr : World) : Prop := RdAt g z (optR r i) ps wr ∧ StepBox h (optS r i) wr ∧ StepBox x StepD.zero wr ∧ Past g none w wr
theorem OptRel.no {w wr w' : World} {g z h x i : Nat} {r : Rd} {ps : List Nat} (hh : OptRel w g z h x r ps i wr) (hg : g < h) (hx : g < x) (hr : RdAt g z (optR r (i + 1)) ps w') (hp : Past g none wr w') (hs : optS r (i + 1) = optS r i) : OptRel w g z h x r ps (i + 1) w' :=
  ⟨hr, by rw [hs]; exact hh.2.1.past hp hg, hh.2.2.1.past hp hx, hh.2.2.2.trans hp⟩
theorem OptRel.yes {w wr w1 w' : World} {g z h x i : Nat} {r : Rd} {ps : List Nat} (hh : OptRel w g z h x r ps i wr) (_ : g < h) (hx : g < x) (hxh : x ≠ h) (hw : w.heap.size ≤ h) (hr : RdAt g z (optR r (i + 1)) ps w') (hp : Past g none wr w1) (hp2 : Past g (some h) w1 w') (hs : StepBox h (optS r (i + 1)) w') : OptRel w g z h x r ps (i + 1) w' :=
  ⟨hr, hs, box_other (hh.2.2.1.past hp hx) hp2 hx hxh, (((hh.2.2.2.trans hp).weak).trans hp2).own hw⟩

set_option maxHeartbeats 8000000 in
set_option maxRecDepth 100000 in
theorem step_any {g z : Nat} {r : Rd} {ps : List Nat} (hr : RdAt g z r ps w) (ho : OptAt w) (hgo : 0 < g) (hps : ps.length ≤ 1000) :
    Calls Tryd.prog 47 #[.pointer (some ⟨g, 0, none⟩)] w fun e w' => e = .returned (.agg (stepP r).cells.toArray) ∧ RdAt g z (s8 r) (ps ++ [placeP r]) w' ∧ Past g none w w' := by
  have hg0 := RdRaw.lt hr
  obtain ⟨x, hx⟩ : ∃ x, x = w.heap.size := ⟨_, rfl⟩
  obtain ⟨W0, hW0⟩ : ∃ W0, W0 = w.alloc (.cells #[.string ⟨#[]⟩, .int .i64 0, .int .i64 0, .int .i64 0, .bool false, .bool false] 41 (0, 0)) := ⟨_, rfl⟩
  have BX0 : Hid (StepBox x StepD.zero W0) := by rw [hW0, hx]; exact heap_alloc_new w _
  have L0 : Hid (Later w W0) := by rw [hW0]; exact (Below.refl _ _).alloc (Nat.le_refl _) _
  have hgx : g < x := by rw [hx]; exact hg0
  have C0 := hide (name_of (RdRaw.later hr L0.out) hps)
  have OA0 := hide (ho.later L0.out)
  obtain ⟨T, hT⟩ : ∃ T, tokP (someF 1) r = T := ⟨_, rfl⟩
  have hpl : placeP r = T.at_ := by unfold placeP; rw [hT]
  rw [hT] at C0
  obtain ⟨SP, hSP⟩ : ∃ SP, (stepP r).cells.toArray = SP := ⟨_, rfl⟩
  rw [hSP, hpl]
  have HTT := hide hT
  have HSP := hide hSP
  have HW0 := hide hW0.symm
  have HX := hide hx.symm
  have i0 : ∀ W : World, (Instr.index 106 (.agg optWords.toArray) (.int .i64 0)).run Tryd.prog W = .ok (.string ⟨#[114, 101, 116, 114, 121]⟩) W := fun _ => by kernel_rfl
  have i1 : ∀ W : World, (Instr.index 106 (.agg optWords.toArray) (.int .i64 1)).run Tryd.prog W = .ok (.string ⟨#[119, 97, 105, 116]⟩) W := fun _ => by kernel_rfl
  have i2 : ∀ W : World, (Instr.index 106 (.agg optWords.toArray) (.int .i64 2)).run Tryd.prog W = .ok (.string ⟨#[117, 110, 100, 111]⟩) W := fun _ => by kernel_rfl
  have i3 : ∀ W : World, (Instr.index 106 (.agg optWords.toArray) (.int .i64 3)).run Tryd.prog W = .ok (.string ⟨#[112, 105, 118, 111, 116]⟩) W := fun _ => by kernel_rfl
  have I0 := hide i0
  have I1 := hide i1
  have I2 := hide i2
  have I3 := hide i3
  clear hr ho hps hW0 hx hT hpl hSP i0 i1 i2 i3
  go_enter Tryd.func47, Tryd.ntmps47
  go_wp2_with (fail)
  have hw := HW0.out
  have hxx := HX.out
  simp only [hw, hxx]
  clear hw hxx
  refine C0.out.mono ?_
  rintro e w1 ⟨rfl, hr1, hp1⟩
  obtain ⟨h, hh⟩ : ∃ h, h = w1.heap.size := ⟨_, rfl⟩
  obtain ⟨W1, hW1⟩ : ∃ W1, W1 = w1.alloc (.cells #[.string ⟨T.s.toArray⟩, .int .i64 0, .int .i64 0, .int .i64 10, .bool false, .bool false] 41 (0, 0)) := ⟨_, rfl⟩
  have BH1 : Hid (StepBox h ⟨⟨T.s.toArray⟩, 0, 0, 10, false, false⟩ W1) := by rw [hW1, hh]; exact heap_alloc_new w1 _
  have L1 : Hid (Later w1 W1) := by rw [hW1]; exact (Below.refl _ _).alloc (Nat.le_refl _) _
  have BX1 : Hid (StepBox x StepD.zero W1) := ((BX0.out.past hp1 hgx)).past (Past.of_later L1.out) hgx
  have hxh : x < h := by have := lt_of_block (BX0.out.past hp1 hgx); omega
  have hwh : w.heap.size ≤ h := by have := Below.size L0.out; have := hp1.size; omega
  have HP1 : Hid (Past g none w W1) := ((Past.of_later L0.out).trans hp1).trans (Past.of_later L1.out)
  have HR1 := hide (RdRaw.later hr1 L1.out)
  have OA1 := hide ((OA0.out.past hp1 hgo).later L1.out)
  have CJ := hide (just_any (w := W1) wStub)
  have HW1 := hide hW1.symm
  have HH := hide hh.symm
  clear hr1 hp1 hW1 hh C0 BX0 OA0
  go_wp2_with (fail)
  have hw := HW1.out
  have hxx := HH.out
  simp only [hw, hxx]
  clear hw hxx
  refine CJ.out.mono ?_
  rintro e w2 ⟨v, rfl, hv, hl⟩
  have HR2 := hide (RdRaw.later HR1.out hl)
  have M := hide (must_any HR2.out hv (justF_end wStub z (by decide)))
  have HP2 := hide (HP1.out.trans (Past.of_later hl))
  have BH2 : Hid (StepBox h ⟨⟨T.s.toArray⟩, 0, 0, 10, false, false⟩ w2) := BH1.out.past (Past.of_later hl) (by omega)
  have BX2 : Hid (StepBox x StepD.zero w2) := BX1.out.past (Past.of_later hl) hgx
  have OA2 := hide (OA1.out.later hl)
  obtain ⟨vv, hvv⟩ : ∃ vv, v.val = vv := ⟨_, rfl⟩
  rw [hvv] at M ⊢
  clear CJ hv hl hvv HR1 HP1 BH1 BX1 OA1
  go_wp2_with (fail)
  refine M.out.mono ?_
  rintro e w3 ⟨rfl, hr3, hp3⟩
  have HP3 := hide (HP2.out.trans hp3)
  have BH3 : Hid (StepBox h ⟨⟨T.s.toArray⟩, 0, 0, 10, false, false⟩ w3) := BH2.out.past hp3 (by omega)
  have BX3 : Hid (StepBox x StepD.zero w3) := BX2.out.past hp3 hgx
  have OA3 := hide (OA2.out.past hp3 hgo)
  have CN := hide (number_any (r := s2 r) hr3)
  obtain ⟨N, hN⟩ : ∃ N, (tokP (someF 2) (s2 r)).n = N := ⟨_, rfl⟩
  rw [hN] at CN
  have HN := hide hN
  clear M hr3 hp3 HR2 HP2 BH2 BX2 OA2 hN
  go_wp2_with (fail)
  refine CN.out.mono ?_
  rintro e w4 ⟨rfl, hr4, hp4⟩
  have BH4 : Hid (StepBox h ⟨⟨T.s.toArray⟩, 0, 0, 10, false, false⟩ w4) := BH3.out.past hp4 (by omega)
  have BX4 : Hid (StepBox x StepD.zero w4) := BX3.out.past hp4 hgx
  obtain ⟨b0, b1, b2, b3, b4, b5, bf⟩ := BH4.out.cells
  have bfi := bf 1
  have hh4 : h < w4.heap.size := lt_of_block BH4.out
  obtain ⟨W5, hW5⟩ : ∃ W5, W5 = w4.setCell ⟨h, 1, none⟩ (.int .i64 (N : Int)) := ⟨_, rfl⟩
  have PS : Hid (Past g (some h) w4 W5) := by rw [hW5]; exact BH4.out.past_set (by omega)
  have HREL : Hid (OptRel w g z h x r (ps ++ [T.at_]) 0 W5) := by
    refine ⟨?_, ?_, ?_, ?_⟩
    · rw [hW5]; exact RdRaw.box hr4 BH4.out (by omega)
    · rw [hW5]; exact BH4.out.set (by simp [StepD.cells, optS, stepP, HN.out, HTT.out])
    · exact box_other BX4.out PS.out hgx (by omega)
    · exact (((HP3.out.trans hp4).weak).trans PS.out).own hwh
  have OA5 := hide ((OA3.out.past hp4 hgo).past PS.out hgo)
  have hW5' := hide hW5.symm
  clear CN hr4 hp4 HP3 BH3 BX3 OA3 BH4 BX4 bf hW5 PS
  have ro := OA5.out.2
  go_wp2_with (first
    | (rw [hW5'.out]; refine wpList_load_mid (by rfl) 106 (.global 0) (by rfl) 0 0 (by rfl) optWords _ ro Tryd.underlying106 (by rfl) (by kernel_rfl) ?_))
  clear ro OA5 b0 b1 b2 b3 b4 b5 bfi
  go_loopw [16] (fun v wr => ∃ i : Nat, v = .int .i64 (i : Int) ∧ i ≤ 4 ∧ OptRel w g z h x r (ps ++ [T.at_]) i wr) (fun v _ => 4 - (intOf v).toNat)
  case atStart => exact ⟨0, rfl, by omega, HREL.out⟩
  case round =>
    obtain ⟨i, rfl, hi, hrel⟩ := hrel
    have HL := hide hrel
    clear hrel HREL
    have hc : i = 0 ∨ i = 1 ∨ i = 2 ∨ i = 3 ∨ i = 4 := by omega
    rcases hc with rfl | rfl | rfl | rfl | rfl
    · have ix := I0.out
      simp only [optWords] at ix
      have CJ2 := hide (just_any (w := wr) wRetry)
      go_wp2_with (fail)
      refine CJ2.out.mono ?_
      rintro e w6 ⟨v, rfl, hv, hl⟩
      have M := hide (may_any (RdRaw.later HL.out.1 hl) hv (justF_end wRetry z (by decide)))
      have P6 : Hid (Past g none wr w6) := Past.of_later hl
      obtain ⟨vv, hvv⟩ : ∃ vv, v.val = vv := ⟨_, rfl⟩
      rw [hvv] at M ⊢
      clear CJ2 hv hl hvv ix
      cases hq : isP (justF wRetry) (optR r 0) with
      | true =>
        rw [hq] at M
        have HQ := hide hq
        clear hq
        go_wp2_with (fail)
        refine M.out.mono ?_
        rintro e w7 ⟨rfl, hr7, hp7⟩
        have P7 := hide (P6.out.trans hp7)
        have hgo1 : mayP (justF wRetry) (optR r 0) = (optR r 0).go := by unfold mayP; rw [HQ.out]; rfl
        rw [hgo1] at hr7
        have CT := hide (take_retry hr7 (HL.out.2.1.past P7.out (by omega)) (by omega))
        clear M hr7 hp7 hgo1
        go_wp2_with (fail)
        refine CT.out.mono ?_
        rintro e w8 ⟨rfl, hr8, hb8, hp8⟩
        have HN8 : Hid (OptRel w g z h x r (ps ++ [T.at_]) 1 w8) := by
          refine OptRel.yes HL.out (by omega) hgx (by omega) hwh ?_ P7.out hp8 ?_
          · have e1 : optR r (0 + 1) = mustP (someF 2) (optR r 0).go := by
              show numR wRetry (optR r 0) = _
              unfold numR
              rw [if_pos HQ.out]
            rw [e1]
            exact hr8
          · have e2 : optS r (0 + 1) = { optS r 0 with retry := ((tokP (someF 2) (optR r 0).go).n : Int) } := by
              have hq := HQ.out
              simp only [optR] at hq
              simp only [optS, optR, stepP, numP, hq, if_true]
            rw [e2]
            exact hb8
        clear CT hr8 hb8 hp8 P7 P6 HL
        go_wp2_with (fail)
        go_roundw
        case rel => exact ⟨1, rfl, by omega, HN8.out⟩
        case measure => simp [intOf]
      | false =>
        rw [hq] at M
        have HQ := hide hq
        clear hq
        go_wp2_with (fail)
        refine M.out.mono ?_
        rintro e w7 ⟨rfl, hr7, hp7⟩
        have P7 := hide (P6.out.trans hp7)
        have hgo1 : mayP (justF wRetry) (optR r 0) = optR r 0 := by unfold mayP; rw [HQ.out]; rfl
        rw [hgo1] at hr7
        have HN8 : Hid (OptRel w g z h x r (ps ++ [T.at_]) 1 w7) := by
          refine OptRel.no HL.out (by omega) hgx ?_ P7.out ?_
          · have e1 : optR r (0 + 1) = optR r 0 := by
              show numR wRetry (optR r 0) = _
              unfold numR
              rw [if_neg (by rw [HQ.out]; simp)]
            rw [e1]
            exact hr7
          · have hq := HQ.out
            simp only [optR] at hq
            simp only [optS, stepP, numP, hq]
            simp
        clear M hr7 hp7 hgo1 P7 P6 HL
        go_wp2_with (fail)
        go_roundw
        case rel => exact ⟨1, rfl, by omega, HN8.out⟩
        case measure => simp [intOf]
    · have ix := I1.out
      simp only [optWords] at ix
      have CJ2 := hide (just_any (w := wr) wWait)
      go_wp2_with (fail)
      refine CJ2.out.mono ?_
      rintro e w6 ⟨v, rfl, hv, hl⟩
      have M := hide (may_any (RdRaw.later HL.out.1 hl) hv (justF_end wWait z (by decide)))
      have P6 : Hid (Past g none wr w6) := Past.of_later hl
      obtain ⟨vv, hvv⟩ : ∃ vv, v.val = vv := ⟨_, rfl⟩
      rw [hvv] at M ⊢
      clear CJ2 hv hl hvv ix
      cases hq : isP (justF wWait) (optR r 1) with
      | true =>
        rw [hq] at M
        have HQ := hide hq
        clear hq
        go_wp2_with (fail)
        refine M.out.mono ?_
        rintro e w7 ⟨rfl, hr7, hp7⟩
        have P7 := hide (P6.out.trans hp7)
        have hgo1 : mayP (justF wWait) (optR r 1) = (optR r 1).go := by unfold mayP; rw [HQ.out]; rfl
        rw [hgo1] at hr7
        have CT := hide (take_wait hr7 (HL.out.2.1.past P7.out (by omega)) (by omega))
        clear M hr7 hp7 hgo1
        go_wp2_with (fail)
        refine CT.out.mono ?_
        rintro e w8 ⟨rfl, hr8, hb8, hp8⟩
        have HN8 : Hid (OptRel w g z h x r (ps ++ [T.at_]) 2 w8) := by
          refine OptRel.yes HL.out (by omega) hgx (by omega) hwh ?_ P7.out hp8 ?_
          · have e1 : optR r (1 + 1) = mustP (someF 2) (optR r 1).go := by
              show numR wWait (optR r 1) = _
              unfold numR
              rw [if_pos HQ.out]
            rw [e1]
            exact hr8
          · have e2 : optS r (1 + 1) = { optS r 1 with wait := ((tokP (someF 2) (optR r 1).go).n : Int) } := by
              have hq := HQ.out
              simp only [optR] at hq
              simp only [optS, optR, stepP, numP, hq, if_true]
            rw [e2]
            exact hb8
        clear CT hr8 hb8 hp8 P7 P6 HL
        go_wp2_with (fail)
        go_roundw
        case rel => exact ⟨2, rfl, by omega, HN8.out⟩
        case measure => simp [intOf]
      | false =>
        rw [hq] at M
        have HQ := hide hq
        clear hq
        go_wp2_with (fail)
        refine M.out.mono ?_
        rintro e w7 ⟨rfl, hr7, hp7⟩
        have P7 := hide (P6.out.trans hp7)
        have hgo1 : mayP (justF wWait) (optR r 1) = optR r 1 := by unfold mayP; rw [HQ.out]; rfl
        rw [hgo1] at hr7
        have HN8 : Hid (OptRel w g z h x r (ps ++ [T.at_]) 2 w7) := by
          refine OptRel.no HL.out (by omega) hgx ?_ P7.out ?_
          · have e1 : optR r (1 + 1) = optR r 1 := by
              show numR wWait (optR r 1) = _
              unfold numR
              rw [if_neg (by rw [HQ.out]; simp)]
            rw [e1]
            exact hr7
          · have hq := HQ.out
            simp only [optR] at hq
            simp only [optS, stepP, numP, hq]
            simp
        clear M hr7 hp7 hgo1 P7 P6 HL
        go_wp2_with (fail)
        go_roundw
        case rel => exact ⟨2, rfl, by omega, HN8.out⟩
        case measure => simp [intOf]
    · have ix := I2.out
      simp only [optWords] at ix
      have CJ2 := hide (just_any (w := wr) wUndo)
      go_wp2_with (fail)
      refine CJ2.out.mono ?_
      rintro e w6 ⟨v, rfl, hv, hl⟩
      have M := hide (may_any (RdRaw.later HL.out.1 hl) hv (justF_end wUndo z (by decide)))
      have P6 : Hid (Past g none wr w6) := Past.of_later hl
      obtain ⟨vv, hvv⟩ : ∃ vv, v.val = vv := ⟨_, rfl⟩
      rw [hvv] at M ⊢
      clear CJ2 hv hl hvv ix
      cases hq : isP (justF wUndo) (optR r 2) with
      | true =>
        rw [hq] at M
        have HQ := hide hq
        clear hq
        go_wp2_with (fail)
        refine M.out.mono ?_
        rintro e w7 ⟨rfl, hr7, hp7⟩
        have P7 := hide (P6.out.trans hp7)
        have hgo1 : mayP (justF wUndo) (optR r 2) = (optR r 2).go := by unfold mayP; rw [HQ.out]; rfl
        rw [hgo1] at hr7
        have CT := hide (take_undo hr7 (HL.out.2.1.past P7.out (by omega)) (by omega))
        clear M hr7 hp7 hgo1
        go_wp2_with (fail)
        refine CT.out.mono ?_
        rintro e w8 ⟨rfl, hr8, hb8, hp8⟩
        have HN8 : Hid (OptRel w g z h x r (ps ++ [T.at_]) 3 w8) := by
          refine OptRel.yes HL.out (by omega) hgx (by omega) hwh ?_ P7.out hp8 ?_
          · have e1 : optR r (2 + 1) = (optR r 2).go := by
              show mayP (justF wUndo) (optR r 2) = _
              unfold mayP
              rw [if_pos HQ.out]
            rw [e1]
            exact hr8
          · have e2 : optS r (2 + 1) = { optS r 2 with undo := true } := by
              have hq := HQ.out
              simp only [optR] at hq
              simp only [optS, stepP, hq]
            rw [e2]
            exact hb8
        clear CT hr8 hb8 hp8 P7 P6 HL
        go_wp2_with (fail)
        go_roundw
        case rel => exact ⟨3, rfl, by omega, HN8.out⟩
        case measure => simp [intOf]
      | false =>
        rw [hq] at M
        have HQ := hide hq
        clear hq
        go_wp2_with (fail)
        refine M.out.mono ?_
        rintro e w7 ⟨rfl, hr7, hp7⟩
        have P7 := hide (P6.out.trans hp7)
        have hgo1 : mayP (justF wUndo) (optR r 2) = optR r 2 := by unfold mayP; rw [HQ.out]; rfl
        rw [hgo1] at hr7
        have HN8 : Hid (OptRel w g z h x r (ps ++ [T.at_]) 3 w7) := by
          refine OptRel.no HL.out (by omega) hgx ?_ P7.out ?_
          · have e1 : optR r (2 + 1) = optR r 2 := by
              show mayP (justF wUndo) (optR r 2) = _
              unfold mayP
              rw [if_neg (by rw [HQ.out]; simp)]
            rw [e1]
            exact hr7
          · have hq := HQ.out
            simp only [optR] at hq
            simp only [optS, stepP, hq]
        clear M hr7 hp7 hgo1 P7 P6 HL
        go_wp2_with (fail)
        go_roundw
        case rel => exact ⟨3, rfl, by omega, HN8.out⟩
        case measure => simp [intOf]
    · have ix := I3.out
      simp only [optWords] at ix
      have CJ2 := hide (just_any (w := wr) wPivot)
      go_wp2_with (fail)
      refine CJ2.out.mono ?_
      rintro e w6 ⟨v, rfl, hv, hl⟩
      have M := hide (may_any (RdRaw.later HL.out.1 hl) hv (justF_end wPivot z (by decide)))
      have P6 : Hid (Past g none wr w6) := Past.of_later hl
      obtain ⟨vv, hvv⟩ : ∃ vv, v.val = vv := ⟨_, rfl⟩
      rw [hvv] at M ⊢
      clear CJ2 hv hl hvv ix
      cases hq : isP (justF wPivot) (optR r 3) with
      | true =>
        rw [hq] at M
        have HQ := hide hq
        clear hq
        go_wp2_with (fail)
        refine M.out.mono ?_
        rintro e w7 ⟨rfl, hr7, hp7⟩
        have P7 := hide (P6.out.trans hp7)
        have hgo1 : mayP (justF wPivot) (optR r 3) = (optR r 3).go := by unfold mayP; rw [HQ.out]; rfl
        rw [hgo1] at hr7
        have CT := hide (take_pivot hr7 (HL.out.2.1.past P7.out (by omega)) (by omega))
        clear M hr7 hp7 hgo1
        go_wp2_with (fail)
        refine CT.out.mono ?_
        rintro e w8 ⟨rfl, hr8, hb8, hp8⟩
        have HN8 : Hid (OptRel w g z h x r (ps ++ [T.at_]) 4 w8) := by
          refine OptRel.yes HL.out (by omega) hgx (by omega) hwh ?_ P7.out hp8 ?_
          · have e1 : optR r (3 + 1) = (optR r 3).go := by
              show mayP (justF wPivot) (optR r 3) = _
              unfold mayP
              rw [if_pos HQ.out]
            rw [e1]
            exact hr8
          · have e2 : optS r (3 + 1) = { optS r 3 with pivot := true } := by
              have hq := HQ.out
              simp only [optR] at hq
              simp only [optS, stepP, hq]
            rw [e2]
            exact hb8
        clear CT hr8 hb8 hp8 P7 P6 HL
        go_wp2_with (fail)
        go_roundw
        case rel => exact ⟨4, rfl, by omega, HN8.out⟩
        case measure => simp [intOf]
      | false =>
        rw [hq] at M
        have HQ := hide hq
        clear hq
        go_wp2_with (fail)
        refine M.out.mono ?_
        rintro e w7 ⟨rfl, hr7, hp7⟩
        have P7 := hide (P6.out.trans hp7)
        have hgo1 : mayP (justF wPivot) (optR r 3) = optR r 3 := by unfold mayP; rw [HQ.out]; rfl
        rw [hgo1] at hr7
        have HN8 : Hid (OptRel w g z h x r (ps ++ [T.at_]) 4 w7) := by
          refine OptRel.no HL.out (by omega) hgx ?_ P7.out ?_
          · have e1 : optR r (3 + 1) = optR r 3 := by
              show mayP (justF wPivot) (optR r 3) = _
              unfold mayP
              rw [if_neg (by rw [HQ.out]; simp)]
            rw [e1]
            exact hr7
          · have hq := HQ.out
            simp only [optR] at hq
            simp only [optS, stepP, hq]
        clear M hr7 hp7 hgo1 P7 P6 HL
        go_wp2_with (fail)
        go_roundw
        case rel => exact ⟨4, rfl, by omega, HN8.out⟩
        case measure => simp [intOf]
    · have CE := hide (just_any (w := wr) [59])
      go_wp2_with (fail)
      refine CE.out.mono ?_
      rintro e w6 ⟨v, rfl, hv, hl⟩
      have M := hide (must_any (RdRaw.later HL.out.1 hl) hv (justF_end [59] z (by decide)))
      have BH6 : Hid (StepBox h (stepP r) w6) := HL.out.2.1.past (Past.of_later hl) (by omega)
      have BX6 : Hid (StepBox x StepD.zero w6) := HL.out.2.2.1.past (Past.of_later hl) hgx
      have HP6 := hide (HL.out.2.2.2.trans (Past.of_later hl))
      obtain ⟨vv, hvv⟩ : ∃ vv, v.val = vv := ⟨_, rfl⟩
      rw [hvv] at M ⊢
      clear CE hv hl hvv HL
      go_wp2_with (fail)
      refine M.out.mono ?_
      rintro e w7 ⟨rfl, hr7, hp7⟩
      have BH7 := hide (BH6.out.past hp7 (by omega))
      have BX7 := hide (BX6.out.past hp7 hgx)
      have HP7 := hide (HP6.out.trans hp7)
      have HR7 := hide hr7
      have hg7 := RdRaw.lt hr7
      clear M hr7 hp7 BH6 BX6 HP6
      go_wp2_with (first
        | (refine wpList_load_box (by rfl) 41 (.tmp 3) (by rfl) h 0 (by rfl) 41 _ BH7.out 6 _ Tryd.underlying41 (by rfl) (by kernel_rfl) (stepP r).cells (by rfl) (by rfl) ?_)
        | (refine wpList_store_box (by rfl) 41 (.tmp 2) (.tmp 30) (by rfl) x 0 (stepP r).cells.toArray (by rfl) (by rfl) 41 _ BX7.out (by kernel_rfl) (by simp [StepD.cells, StepD.zero]) (by simpa using (stepP r).one) ?_; intro w8 hx8 hg8))
      have HS : Hid (Past g none w w8) := (HP7.out.weak.trans (Past.of_grown (H := some x) hg8 (fun j e => by have := Option.some.inj e; omega) fun j e => .inr (.inl e))).own (by have := HX.out; omega)
      have hx8' : w8.heap[x]? = some (.cells SP 41 (0, 0)) := by rw [hx8, ← HSP.out]; rfl
      refine bodyPost_ret (results_cell_row Tryd.results47 _ _ x 41 _ (0, 0) _ (by rfl) hx8' Tryd.underlying41 (by rfl) (by rw [← HSP.out]; kernel_rfl)) rfl ⟨rfl, HR7.out.own hg8 hgx BX7.out (by decide), HS.out⟩
end
end Go.Proofs.YtdahnjcoflifbaaDoor
/- A definition is read; a reader made; its place. -/
namespace Go.Proofs.YtdahnjcoflifbaaDoor
open Go.RowKit

theorem may_sub {f : Tok → Bool} {r : Rd} {t : Tok} (h : t ∈ (mayP f r).l) : t ∈ r.l := by
  unfold mayP at h; split at h
  · exact List.mem_of_mem_tail h
  · exact h
theorem must_sub {f : Tok → Bool} {r : Rd} {t : Tok} (h : t ∈ (mustP f r).l) : t ∈ r.l := by
  unfold mustP at h; split at h
  · exact List.mem_of_mem_tail h
  · exact h
theorem num_sub {s : List UInt8} {r : Rd} {t : Tok} (h : t ∈ (numR s r).l) : t ∈ r.l := by
  unfold numR at h; split at h
  · exact List.mem_of_mem_tail (must_sub h)
  · exact h
theorem s8_sub {r : Rd} {t : Tok} (h : t ∈ (s8 r).l) : t ∈ r.l := must_sub (must_sub (must_sub (num_sub (num_sub (may_sub (may_sub (must_sub h)))))))
theorem stepsP_sub : ∀ (n : Nat) (r : Rd) {t : Tok}, r.l.length ≤ n → t ∈ (stepsP r).2.l → t ∈ r.l := by
  intro n
  induction n with
  | zero =>
    intro r t hr h
    cases hq : isP (justF wStep) r with
    | false => rwa [stepsP_no hq] at h
    | true => have := isP_len hq; omega
  | succ n ih =>
    intro r t hr h
    cases hq : isP (justF wStep) r with
    | false => rwa [stepsP_no hq] at h
    | true =>
      rw [stepsP_yes hq] at h
      have h1 := isP_len hq
      have h2 := s8_len r.go
      have h3 := go_len r
      exact List.mem_of_mem_tail (s8_sub (ih (s8 r.go) (by omega) h))
theorem d5_sub {ts : List Tok} {t : Tok} (h : t ∈ (d5 ts).l) : t ∈ ts := must_sub (must_sub (must_sub (stepsP_sub _ _ (Nat.le_refl _) (must_sub h))))
theorem d3_len (ts : List Tok) : (d3 ts).l.length ≤ ts.length := by
  have h1 : (d1 ts).l.length ≤ ts.length := must_len (justF wSaga) ⟨ts, false⟩
  have h2 : (d2 ts).l.length ≤ (d1 ts).l.length := must_len (someF 1) (d1 ts)
  have h3 : (d3 ts).l.length ≤ (d2 ts).l.length := must_len (justF [123]) (d2 ts)
  omega

section
variable {w : World}
set_option maxHeartbeats 2000000 in
theorem newReader_any {base z : Nat} {lv : Value} {ts : List Tok} (h : TokRow base w lv ts) (hb : base ≤ w.heap.size) (hn : ts.length ≤ 400) :
    Calls Tryd.prog 20 #[lv, .int .i64 (z : Int)] w fun e w' => ∃ g, e = .returned (.pointer (some ⟨g, 0, none⟩)) ∧ RdAt g z ⟨ts, false⟩ [] w' ∧ w.heap.size ≤ g ∧ Below base w w' := by
  obtain ⟨A, c, rfl, hc1, hc2⟩ := ToksAt.shape h.flat
  have H := hide h
  obtain ⟨n, hnn⟩ : ∃ n, ts.length = n := ⟨_, rfl⟩
  obtain ⟨i0, hi, hz0, hz1, hz2⟩ := info_parts info_tok
  have HI := hide hi
  have HZ0 := hide hz0
  have HZ1 := hide hz1
  have HZ2 := hide hz2
  have OW0 : Hid (w.ownsRow base 88 4 (.slice A n c) n (ts.flatMap Tok.cells)) := by rw [← hnn]; exact h
  rw [hnn] at hn ⊢
  have HN := hide hnn
  obtain ⟨W2, hW2⟩ : ∃ W2, W2 = w.alloc (.cells #[.int .i64 0, .string ⟨#[]⟩, .int .i64 0, .int .i64 (z : Int)] 88 (0, 0)) := ⟨_, rfl⟩
  have L2 : Hid (Later w W2) := by rw [hW2]; exact (Below.refl _ _).alloc (Nat.le_refl _) _
  have OW2 : Hid (W2.ownsRow base 88 4 (.slice A n c) n (ts.flatMap Tok.cells)) := own_later OW0.out L2.out
  have FL : Hid (FlatAt (fun _ => True) W2 4 (.slice (some ⟨w.heap.size, 0, none⟩) 1 1) 1 (endTok z).cells) := by
    rw [hW2]; exact flat_one w 88 4 #[.int .i64 0, .string ⟨#[]⟩, .int .i64 0, .int .i64 (z : Int)] (by rfl) (by simp [Value.oneCell']) (fun _ => True) trivial
  have h1 : ∀ u ∈ ts.flatMap Tok.cells ++ (endTok z).cells, u.oneCell' = true := by
    intro u hu
    rcases List.mem_append.1 hu with hu | hu
    · obtain ⟨t, _, ht⟩ := List.mem_flatMap.1 hu
      exact t.one u ht
    · exact (endTok z).one u hu
  have HONE := hide h1
  clear h1
  have HW2 := hide hW2.symm
  clear h hi hz0 hz1 hz2 hnn hW2 hc1 hc2
  go_enter Tryd.func20, Tryd.ntmps20
  go_wp2_with (first
    | (refine wpList_buildSlice_one (by rfl) 45 88 _ (by rfl) i0 _ 4 Tryd.underlying45 HI.out HZ0.out HZ1.out (by omega) (by omega) #[.int .i64 0, .string ⟨#[]⟩, .int .i64 0, .int .i64 (z : Int)] (by rfl) (by rfl) ?_; rw [HW2.out])
    | (at_builtin; refine wpList_append_flat _ (by rfl) (.tmp 5) (.tmp 8) 45 (by rfl) base 88 i0 _ 4 40 Tryd.underlying45 HI.out HZ0.out HZ1.out HZ2.out (by rfl) (by omega) (.slice A n c) n (ts.flatMap Tok.cells) (by rfl) OW2.out (fun _ => True) _ 1 1 (endTok z).cells (by rfl) FL.out (by unfold maxLen; omega) (by omega) (by have := Below.size L2.out; omega) ?_; intro v5 w5 o5 g5; obtain ⟨A5, c5, rfl, hk5, hk6, _⟩ := FlatAt.shape (FlatAt.of_own o5 HONE.out); have HO5 := hide o5; have HG5 := hide g5; clear hk5 hk6 o5 g5))
  go_ret
  have hbel : Below base w w5 := Below.trans (Below.mono L2.out hb) (later_own OW2.out (by have := Below.size L2.out; omega) HG5.out)
  refine ⟨w5.heap.size, rfl, ⟨.slice A5 (n + 1) c5, .slice none 0 0, heap_alloc_new w5 _, ?_, World.ownsRow_nil _ _ _ 1⟩, Below.size hbel, hbel.alloc (by have := Below.size hbel; omega) _⟩
  have e1 : (ts ++ [endTok z]).length = n + 1 := by rw [List.length_append, HN.out]; rfl
  simp only [e1, List.flatMap_append, List.flatMap_cons, List.flatMap_nil, List.append_nil]
  exact ((FlatAt.of_own HO5.out HONE.out).mono (G := (· < w5.heap.size)) fun i hi _ => hi).kept (Kept.of_below ((Below.refl _ _).alloc (Nat.le_refl _) _) _)

set_option maxHeartbeats 2000000 in
theorem place_any {g : Nat} {t : Tok} {L : List Tok} {lost : Bool} {ps : List Nat} (h : RdRaw g (t :: L) lost ps w) :
    Calls Tryd.prog 22 #[.pointer (some ⟨g, 0, none⟩)] w fun e w' => e = .returned (.int .i64 (t.at_ : Int)) ∧ w' = w := by
  obtain ⟨tv, nv, c0, c1, c2, f0, f1, f2, ht, hn, hb⟩ := h.cells
  obtain ⟨b, off, n, c, rfl, hne, hnc, hcm, hbg, hbs, hr⟩ := RdRaw.head ht
  obtain ⟨d0, d1, d2, d3⟩ := range4 hr
  have hn1 : (0 : Int) < (n : Int) := by omega
  clear h ht hn hb hr hne
  go_enter Tryd.func22, Tryd.ntmps22
  go_wp2
  go_ret
  exact ⟨rfl, rfl⟩

theorem pre_past (g : Nat) : Pre (Past g none) := ⟨Past.refl g none, Past.trans⟩
/-- How many tokens a reader has left. -/
def leftOf (g : Nat) (w : World) : Nat := match w.cell? ⟨g, 0, none⟩ with
  | some (.slice _ n _) => n
  | _ => 0
theorem leftOf_at {g z : Nat} {r : Rd} {ps : List Nat} {w : World} (h : RdAt g z r ps w) : leftOf g w = r.l.length + 1 := by
  obtain ⟨tv, nv, c0, _, _, _, _, _, ht, _, _⟩ := RdRaw.cells h
  obtain ⟨A, c, rfl, _⟩ := FlatAt.shape ht
  unfold leftOf
  rw [c0]
  simp
theorem own_past {g base k n : Nat} {e : TypeId} {v : Value} {xs : List Value} {w w' : World} (h : w.ownsRow base e k v n xs) (hp : Past g none w w') (hb : g < base) (he : e ≠ 3) : w'.ownsRow base e k v n xs :=
  own_stays h fun q hq => by
    obtain ⟨cs, hc⟩ := own_type h hq
    exact hp.keep q (h.lt q hq).2 (by have := (h.lt q hq).1; omega) (by simp) fun cs' => by
      rw [hc]
      intro e2
      injection e2 with e2
      injection e2 with _ e3
      exact he e3
theorem RdRaw.row {g base k n : Nat} {L : List Tok} {lost : Bool} {ps : List Nat} {e : TypeId} {v : Value} {xs : List Value} {w w' : World} (h : RdRaw g L lost ps w) (ho : w.ownsRow base e k v n xs) (hb : g < base) (he : e ≠ 3) (hw : w.grownBy w' v.ownBlock) : RdRaw g L lost ps w' := by
  cases hq : v.ownBlock with
  | none =>
    rw [hq] at hw
    exact h.later ⟨hw.os, hw.tape, hw.output, hw.size, fun j hj => hw.block j hj (by simp)⟩
  | some q =>
    rw [hq] at hw
    obtain ⟨cs, hc⟩ := own_type ho hq
    exact h.own hw (by have := (ho.lt q hq).1; omega) hc he
/-- What is written behind is the call's own. -/
theorem Past.onto {g : Nat} {a b c : World} {r : Option Nat} (h : Past g none a b) (k : b.grownBy c r) (hr : ∀ j, r = some j → a.heap.size ≤ j) : Past g none a c :=
  ⟨k.os.trans h.os, k.tape.trans h.tape, k.output.trans h.output, Nat.le_trans h.size k.size, fun j hj hg => (k.block j (Nat.lt_of_lt_of_le hj h.size) (fun e => by have := hr j e.symm; omega)).trans (h.low j hj hg),
    fun j hj hg hH hi => (k.block j (Nat.lt_of_lt_of_le hj h.size) (fun e => by have := hr j e.symm; omega)).trans (h.keep j hj hg hH hi)⟩
/-- A definition in a block of its own. -/
def DefBox (y : Nat) (name : ByteArray) (v : Value) (w : World) : Prop := w.heap[y]? = some (.cells #[.string name, v] 25 (0, 0))
theorem DefBox.past {g y : Nat} {name : ByteArray} {v : Value} {w w' : World} (h : DefBox y name v w) (hp : Past g none w w') (hg : g < y) : DefBox y name v w' :=
  (hp.keep y (lt_of_block h) hg (by simp) fun cs => by rw [show w.heap[y]? = _ from h]; simp).trans h
theorem DefBox.cells {y : Nat} {name : ByteArray} {v : Value} {w : World} (h : DefBox y name v w) : w.cell? ⟨y, 0, none⟩ = some (.string name) ∧ w.cell? ⟨y, 1, none⟩ = some v ∧ w.frozen? ⟨y, 1, none⟩ = false :=
  ⟨(cell_of_row w y 0 _ _ _ h).trans rfl, (cell_of_row w y 1 _ _ _ h).trans rfl, frozen_of_row w y 1 _ _ h⟩
/-- The steps so far, in a row of the call's own. -/
def StepRow (base : Nat) (w : World) (v : Value) (l : List StepD) : Prop := w.ownsRow base 41 6 v l.length (l.flatMap StepD.cells)
theorem StepRow.flat {base : Nat} {w : World} {v : Value} {l : List StepD} (h : StepRow base w v l) : StepsAt (base ≤ ·) w v l := FlatAt.of_own h fun u hu => by
  obtain ⟨t, _, ht⟩ := List.mem_flatMap.1 hu
  exact t.one u ht
theorem info_step : (Tryd.prog.info? 41).map (fun i => (i.zero, i.size, i.bytes)) = some (some (.agg #[.string ⟨#[]⟩, .int .i64 0, .int .i64 0, .int .i64 0, .bool false, .bool false]), 6, 48) := by kernel_rfl

/-- What the loop over the steps keeps. -/
structure DefRel (W : World) (g z x y : Nat) (name : ByteArray) (ts : List Tok) (pn : Nat) (wr : World) (r : Rd) (acc : List (StepD × Nat)) (v : Value) : Prop where
  rd : RdAt g z r (pn :: acc.map (·.2)) wr
  res : DefBox x ⟨#[]⟩ (.slice none 0 0) wr
  box : DefBox y name v wr
  row : StepRow W.heap.size wr v (acc.map (·.1))
  past : Past g none W wr
  sum : stepsP (d3 ts) = (acc ++ (stepsP r).1, (stepsP r).2)
  few : acc.length + r.l.length ≤ 400

set_option maxHeartbeats 8000000 in
set_option maxRecDepth 100000 in
theorem definition_any {g z : Nat} {ts : List Tok} (hr : RdAt g z ⟨ts, false⟩ [] w) (ho : OptAt w) (hgo : 0 < g) (hk : ∀ t ∈ ts, t.k ≠ 0) (hlen : ts.length ≤ 400) :
    Calls Tryd.prog 21 #[.pointer (some ⟨g, 0, none⟩)] w fun e w' => ∃ v, e = .returned (.agg #[.string (dName ts), v]) ∧ StepRow w.heap.size w' v (dSteps ts) ∧
      RdRaw g (if (d6 ts).bad then (d5 ts).l ++ [endTok z] else []) (d6 ts).bad (dPlaces ts) w' ∧ Past g none w w' := by
  have hg0 := RdRaw.lt hr
  have HK := hide hk
  have HLN := hide hlen
  have HGO := hide hgo
  have HOP : Hid (∀ wr, Past g none w wr → OptAt wr) := fun wr hp => ho.past hp hgo
  obtain ⟨x, hx⟩ : ∃ x, x = w.heap.size := ⟨_, rfl⟩
  obtain ⟨W0, hW0⟩ : ∃ W0, W0 = w.alloc (.cells #[.string ⟨#[]⟩, .slice none 0 0] 25 (0, 0)) := ⟨_, rfl⟩
  have BX0 : Hid (DefBox x ⟨#[]⟩ (.slice none 0 0) W0) := by rw [hW0, hx]; exact heap_alloc_new w _
  have L0 : Hid (Later w W0) := by rw [hW0]; exact (Below.refl _ _).alloc (Nat.le_refl _) _
  have hgx : g < x := by rw [hx]; exact hg0
  have HR0 := hide (RdRaw.later hr L0.out)
  have CJ := hide (just_any (w := W0) wSaga)
  obtain ⟨i0, hi, hz0, hz1, hz2⟩ := info_parts info_step
  have HI := hide hi
  have HZ0 := hide hz0
  have HZ1 := hide hz1
  have HZ2 := hide hz2
  obtain ⟨T, hT⟩ : ∃ T, tokP (someF 1) (d1 ts) = T := ⟨_, rfl⟩
  have hdn : dName ts = ⟨T.s.toArray⟩ := by unfold dName; rw [hT]
  have hdp : dPlaces ts = T.at_ :: (stepsP (d3 ts)).1.map (·.2) := by unfold dPlaces; rw [hT]
  rw [hdn, hdp]
  obtain ⟨FL, hFL⟩ : ∃ FL, (if (d6 ts).bad = true then (d5 ts).l ++ [endTok z] else []) = FL := ⟨_, rfl⟩
  obtain ⟨FB, hFB⟩ : ∃ FB, (d6 ts).bad = FB := ⟨_, rfl⟩
  rw [hFL, hFB]
  have HFL := hide hFL
  have HFB := hide hFB
  have HT := hide hT
  have HW0 := hide hW0.symm
  have HX := hide hx.symm
  clear hr ho hW0 hx hi hz0 hz1 hz2 hFL hFB hT hdn hdp hk hlen hgo
  go_enter Tryd.func21, Tryd.ntmps21
  go_wp2_with (fail)
  have hw := HW0.out
  have hxx := HX.out
  simp only [hw, hxx]
  clear hw hxx
  refine CJ.out.mono ?_
  rintro e w1 ⟨v1, rfl, hv, hl⟩
  have M := hide (must_any (r := ⟨ts, false⟩) (RdRaw.later HR0.out hl) hv (justF_end wSaga z (by decide)))
  have P1 : Hid (Past g none w w1) := (Past.of_later L0.out).trans (Past.of_later hl)
  have BX1 := hide (BX0.out.past (Past.of_later hl) hgx)
  obtain ⟨vv, hvv⟩ : ∃ vv, v1.val = vv := ⟨_, rfl⟩
  rw [hvv] at M ⊢
  clear CJ hv hl hvv HR0 BX0
  go_wp2_with (fail)
  refine M.out.mono ?_
  rintro e w2 ⟨rfl, hr2, hp2⟩
  have C2 := hide (name_of (r := d1 ts) hr2 (by simp))
  rw [HT.out] at C2
  have P2 := hide (P1.out.trans hp2)
  have BX2 := hide (BX1.out.past hp2 hgx)
  clear M hr2 hp2 P1 BX1
  go_wp2_with (fail)
  refine C2.out.mono ?_
  rintro e w3 ⟨rfl, hr3, hp3⟩
  obtain ⟨y, hy⟩ : ∃ y, y = w3.heap.size := ⟨_, rfl⟩
  obtain ⟨W3, hW3⟩ : ∃ W3, W3 = w3.alloc (.cells #[.string ⟨T.s.toArray⟩, .slice none 0 0] 25 (0, 0)) := ⟨_, rfl⟩
  have L3 : Hid (Later w3 W3) := by rw [hW3]; exact (Below.refl _ _).alloc (Nat.le_refl _) _
  have BY3 : Hid (DefBox y ⟨T.s.toArray⟩ (.slice none 0 0) W3) := by rw [hW3, hy]; exact heap_alloc_new w3 _
  have P3 : Hid (Past g none w W3) := (P2.out.trans hp3).trans (Past.of_later L3.out)
  have BX3 : Hid (DefBox x ⟨#[]⟩ (.slice none 0 0) W3) := (BX2.out.past hp3 hgx).past (Past.of_later L3.out) hgx
  have hxy : x < y := by have := lt_of_block (BX2.out.past hp3 hgx); omega
  have HR3 := hide (RdRaw.later hr3 L3.out)
  have CJ3 := hide (just_any (w := W3) [123])
  have HW3 := hide hW3.symm
  have HY := hide hy.symm
  clear C2 hr3 hp3 P2 BX2 hW3 hy
  go_wp2_with (fail)
  have hw := HW3.out
  have hyy := HY.out
  simp only [hw, hyy]
  clear hw hyy
  refine CJ3.out.mono ?_
  rintro e w4 ⟨v4, rfl, hv, hl⟩
  have M := hide (must_any (RdRaw.later HR3.out hl) hv (justF_end [123] z (by decide)))
  have P4 := hide (P3.out.trans (Past.of_later hl))
  have BX4 := hide (BX3.out.past (Past.of_later hl) hgx)
  have BY4 := hide (BY3.out.past (Past.of_later hl) (by omega))
  obtain ⟨vv, hvv⟩ : ∃ vv, v4.val = vv := ⟨_, rfl⟩
  rw [hvv] at M ⊢
  clear CJ3 hv hl hvv HR3 P3 BX3 BY3
  go_wp2_with (fail)
  refine M.out.mono ?_
  rintro e w5 ⟨rfl, hr5, hp5⟩
  have HREL : Hid (DefRel w g z x y ⟨T.s.toArray⟩ ts T.at_ w5 (d3 ts) [] (.slice none 0 0)) :=
    ⟨hr5, BX4.out.past hp5 hgx, BY4.out.past hp5 (by omega), World.ownsRow_nil _ _ _ 6, P4.out.trans hp5, by simp, by have := d3_len ts; have := HLN.out; simp; omega⟩
  clear M hr5 hp5 P4 BX4 BY4
  go_wp2_with (fail)
  go_loopw [] (fun wr => ∃ r acc v, DefRel w g z x y ⟨T.s.toArray⟩ ts T.at_ wr r acc v) (fun wr => leftOf g wr)
  case atStart => exact ⟨_, _, _, HREL.out⟩
  case round =>
    obtain ⟨r, acc, v, hrel⟩ := hrel
    have HL := hide hrel
    have CJ6 := hide (just_any (w := wr) wStep)
    have HLF := hide (leftOf_at hrel.rd)
    clear hrel HREL
    go_wp2_with (fail)
    refine CJ6.out.mono ?_
    rintro e w6 ⟨v6, rfl, hv, hl⟩
    have M := hide (may_any (RdRaw.later HL.out.rd hl) hv (justF_end wStep z (by decide)))
    have P6 : Hid (Past g none wr w6) := Past.of_later hl
    obtain ⟨vv, hvv⟩ : ∃ vv, v6.val = vv := ⟨_, rfl⟩
    rw [hvv] at M ⊢
    clear CJ6 hv hl hvv
    obtain ⟨A, cv, rfl, hcv1, hcv2, _⟩ := FlatAt.shape (StepRow.flat HL.out.row)
    obtain ⟨na, hna⟩ : ∃ na, (acc.map (·.1)).length = na := ⟨_, rfl⟩
    have OWR : Hid (wr.ownsRow w.heap.size 41 6 (.slice A na cv) na ((acc.map (·.1)).flatMap StepD.cells)) := by rw [← hna]; exact HL.out.row
    have BY6 : Hid (DefBox y ⟨T.s.toArray⟩ (.slice A na cv) wr) := by rw [← hna]; exact HL.out.box
    have HNA := hide hna
    have hnal : na ≤ 400 := by have := HL.out.few; rw [← hna, List.length_map]; omega
    clear hcv1 hcv2 hna
    cases hq : isP (justF wStep) r with
    | true =>
      rw [hq] at M
      have HQ := hide hq
      clear hq
      go_wp2_with (fail)
      refine M.out.mono ?_
      rintro e w7 ⟨rfl, hr7, hp7⟩
      have P7 := hide (P6.out.trans hp7)
      have hgo1 : mayP (justF wStep) r = r.go := by unfold mayP; rw [HQ.out]; rfl
      rw [hgo1] at hr7
      have hw7 := P7.out.size
      have hwr := HL.out.past.size
      have CS := hide (step_any (RdRaw.later hr7 (Later.drew w7)) ((HOP.out w7 (HL.out.past.trans P7.out)).later (Later.drew w7)) HGO.out (by have := HL.out.few; simp; omega))
      have BY7 := hide (BY6.out.past P7.out (by omega))
      have BX7 := hide (HL.out.res.past P7.out hgx)
      have OW7 := hide (own_past OWR.out P7.out hg0 (by decide))
      have HP7 := hide (HL.out.past.trans P7.out)
      obtain ⟨b0, b1, bf⟩ := BY7.out.cells
      clear M hr7 hp7 hgo1 P6 P7 BY6 OWR b0 bf
      go_wp2_with (fail)
      refine wp_region_V (Past g none) (fun j => j == 5 || j == 7) (by kernel_rfl) ?_
      refine wpAnyV_take (pre_past g) (i := 0) (d := some 16) (v := ?vad0) rfl rfl (by kernel_rfl) (by kernel_rfl) (by kernel_rfl) (by kernel_rfl) (by kernel_rfl) (fun _ _ _ h => h) (by rfl) ?yad0 ?_
      case yad0 => (intro w' hw'; go_simp; try (with_reducible rfl))
      simp only [Act.put]; try simp only [List.setIfInBounds_toArray]; try simp only [List.set_cons_zero, List.set_cons_succ]
      refine wpAnyV_take (pre_past g) (i := 1) (d := some 17) (v := .slice A na cv) rfl rfl (by kernel_rfl) (by kernel_rfl) (by kernel_rfl) (by kernel_rfl) (by kernel_rfl) (fun _ _ _ h => h) (by rfl) ?yad1 ?_
      case yad1 => (intro w' hw'; go_simp; rw [((show DefBox y ⟨T.s.toArray⟩ (.slice A na cv) w7.drew from BY7.out).past hw' (show g < y by omega)).cells.2.1]; go_simp)
      simp only [Act.put]; try simp only [List.setIfInBounds_toArray]; try simp only [List.set_cons_zero, List.set_cons_succ]
      refine wpAnyV_take (pre_past g) (i := 2) (d := some 18) (v := ?vad2) rfl rfl (by kernel_rfl) (by kernel_rfl) (by kernel_rfl) (by kernel_rfl) (by kernel_rfl) (fun _ _ _ h => h) (by rfl) ?yad2 ?_
      case yad2 => (intro w' hw'; go_simp; try (with_reducible rfl))
      simp only [Act.put]; try simp only [List.setIfInBounds_toArray]; try simp only [List.set_cons_zero, List.set_cons_succ]
      refine wpAnyV_only (pre_past g) (i := 3) rfl (by kernel_rfl) (by rfl) fun K hK => ?_
      go_simp
      refine CS.out.mono ?_
      rintro e w8 ⟨rfl, hr8, hp8⟩
      have BY8 := hide ((show DefBox y ⟨T.s.toArray⟩ (.slice A na cv) w7.drew from BY7.out).past hp8 (by omega))
      have BX8 := hide ((show DefBox x ⟨#[]⟩ (.slice none 0 0) w7.drew from BX7.out).past hp8 hgx)
      have OW8 := hide (own_past (own_later OW7.out (Later.drew w7)) hp8 hg0 (by decide))
      have HP8 := hide ((HP7.out.trans (Past.of_later (Later.drew w7))).trans hp8)
      have HR8 := hide hr8
      have hs8 := hp8.size
      have hd7 : w7.drew.heap.size = w7.heap.size := rfl
      refine hK.out _ _ hp8 ?_
      clear hr8 hp8
      clear hK K
      try (simp only [Act.put]; try simp only [List.setIfInBounds_toArray]; try simp only [List.set_cons_zero, List.set_cons_succ])
      refine wpAnyV_only (pre_past g) (i := 4) rfl (by kernel_rfl) (by rfl) fun K hK => ?_
      refine wp_buildSlice_one 23 41 _ (by rfl) i0 _ 6 Tryd.underlying23 HI.out HZ0.out HZ1.out (by omega) (by omega) (stepP r.go).cells.toArray (by rfl) (by rfl) ?_
      obtain ⟨w9, hw9⟩ : ∃ w9, w9 = w8.alloc (.cells (stepP r.go).cells.toArray 41 (0, 0)) := ⟨_, rfl⟩
      have F9 : Hid (FlatAt (fun _ => True) w9 6 (.slice (some ⟨w8.heap.size, 0, none⟩) 1 1) 1 (stepP r.go).cells) := by rw [hw9]; exact flat_one w8 41 6 (stepP r.go).cells.toArray (by rfl) (by simpa using (stepP r.go).one) _ trivial
      have M9 : Hid (Later w8 w9) := by rw [hw9]; exact (Below.refl _ _).alloc (Nat.le_refl _) _
      have OW9 := hide (own_later OW8.out M9.out)
      rw [← hw9]
      refine hK.out _ _ (Past.of_later M9.out) (?_ : wpAnyV _ _ _ _ _ _ _ _ (Act.put _ (some 20) _) _)
      clear hw9
      clear hK K
      try (simp only [Act.put]; try simp only [List.setIfInBounds_toArray]; try simp only [List.set_cons_zero, List.set_cons_succ])
      refine wpAnyV_write (i := 5) rfl rfl (by kernel_rfl) (by rfl) fun K hK => ?_
      refine wp_append_flat _ _ 23 (by rfl) w.heap.size 41 i0 _ 6 48 Tryd.underlying23 HI.out HZ0.out HZ1.out HZ2.out (by rfl) (by omega) (.slice A na cv) na ((acc.map (·.1)).flatMap StepD.cells) (by rfl) OW9.out w8.heap.size 1 1 (stepP r.go).cells (by rfl) (fun _ => True) F9.out (by omega) (by unfold maxLen; omega) (by omega) (by have := Below.size M9.out; omega) ?_
      intro v10 w10 ho10 hg10 _
      have hrow : StepRow w.heap.size w10 v10 ((acc ++ [(stepP r.go, placeP r.go)]).map (·.1)) := by
        unfold StepRow
        rw [List.map_append, List.length_append, HNA.out, List.flatMap_append]
        simpa using ho10
      obtain ⟨A10, k10, hv10, hk10, hk11, _⟩ := FlatAt.shape hrow.flat
      obtain ⟨n10, hn10⟩ : ∃ n10, ((acc ++ [(stepP r.go, placeP r.go)]).map (·.1)).length = n10 := ⟨_, rfl⟩
      rw [hn10] at hv10
      subst hv10
      have HROW := hide hrow
      have BY9 := hide (BY8.out.past (Past.of_later M9.out) (show g < y by omega))
      have BX9 := hide (BX8.out.past (Past.of_later M9.out) hgx)
      have BY10 : Hid (DefBox y ⟨T.s.toArray⟩ (.slice A na cv) w10) := (hg10.block y (lt_of_block BY9.out) (apart_own OW9.out BY9.out (by decide))).trans BY9.out
      have BX10 : Hid (DefBox x ⟨#[]⟩ (.slice none 0 0) w10) := (hg10.block x (lt_of_block BX9.out) (apart_own OW9.out BX9.out (by decide))).trans BX9.out
      have HR10 := hide ((RdRaw.later HR8.out M9.out).row OW9.out hg0 (by decide) hg10)
      have HP10 := hide ((HP8.out.trans (Past.of_later M9.out)).onto hg10 fun j e => (OW9.out.lt j e).1)
      obtain ⟨b0, b1', bf⟩ := BY10.out.cells
      have hy10 : y < w10.heap.size := lt_of_block BY10.out
      have hgc : w10.grownBy (w10.setCell ⟨y, 1, none⟩ (.slice A10 n10 k10)) (some y) := grown_cell w10 ⟨y, 1, none⟩ _
      have HREL2 : Hid (DefRel w g z x y ⟨T.s.toArray⟩ ts T.at_ (w10.setCell ⟨y, 1, none⟩ (.slice A10 n10 k10)) (s8 r.go) (acc ++ [(stepP r.go, placeP r.go)]) (.slice A10 n10 k10)) := by
        refine ⟨?_, ?_, ?_, ?_, ?_, ?_, ?_⟩
        · have := HR10.out.own hgc (show g < y by omega) BY10.out (by decide)
          simpa [RdAt] using this
        · exact (hgc.block x (lt_of_block BX10.out) (by intro e; have := Option.some.inj e; omega)).trans BX10.out
        · exact heap_setCell_same w10 y 1 _ _ (.slice A10 n10 k10) BY10.out
        · exact own_apart HROW.out BY10.out (by decide) hgc
        · exact HP10.out.onto hgc (fun j e => by have := Option.some.inj e; have := HX.out; omega)
        · rw [HL.out.sum, stepsP_yes HQ.out]; simp
        · have h1 := isP_len HQ.out; have h2 := s8_len r.go; have h3 := go_len r; have := HL.out.few; simp; omega
      clear hg10 ho10 hk10 hk11 hrow b0 b1 hn10 hgc
      refine hK.out _ _ (?_ : wpAnyV _ _ _ _ _ _ _ _ (Act.put _ (some 21) _) _)
      clear hK K
      try (simp only [Act.put]; try simp only [List.setIfInBounds_toArray]; try simp only [List.set_cons_zero, List.set_cons_succ])
      refine wpAnyV_pure (pre_past g) (i := 6) (d := some 22) (v := ?vad6) rfl rfl (by kernel_rfl) (by kernel_rfl) (by kernel_rfl) (by kernel_rfl) (fun _ _ _ h => h) (by rfl) ?yad6 ?_
      case yad6 => (intro w'; go_simp; try (with_reducible rfl))
      simp only [Act.put]; try simp only [List.setIfInBounds_toArray]; try simp only [List.set_cons_zero, List.set_cons_succ]
      refine wpAnyV_write (i := 7) rfl rfl (by kernel_rfl) (by rfl) fun K hK => ?_
      go_simp
      refine hK.out _ _ ?_
      clear hK K
      try simp only [Act.put]
      refine wpAnyV_done (by kernel_rfl) ?_ _
      go_wp2_with (fail)
      go_roundw
      case rel => exact ⟨_, _, _, HREL2.out⟩
      case measure =>
        rw [HLF.out, leftOf_at HREL2.out.rd]
        have h1 := isP_len HQ.out
        have h2 := s8_len r.go
        have h3 := go_len r
        omega
    | false =>
      rw [hq] at M
      have HQ := hide hq
      clear hq
      go_wp2_with (fail)
      refine M.out.mono ?_
      rintro e w7 ⟨rfl, hr7, hp7⟩
      have P7 := hide (P6.out.trans hp7)
      have hgo1 : mayP (justF wStep) r = r := by unfold mayP; rw [HQ.out]; rfl
      rw [hgo1] at hr7
      have hsum : stepsP (d3 ts) = (acc, r) := by rw [HL.out.sum, stepsP_no HQ.out]; simp
      have hd4 : d4 ts = r := by unfold d4; rw [hsum]
      have HSUM := hide hsum
      have HD4 := hide hd4
      have BY7 := hide (BY6.out.past P7.out (by omega))
      have BX7 := hide (HL.out.res.past P7.out hgx)
      have OW7 := hide (own_past OWR.out P7.out hg0 (by decide))
      have HP7 := hide (HL.out.past.trans P7.out)
      have HR7 := hide hr7
      have CJ8 := hide (just_any (w := w7) [125])
      clear M hr7 hp7 hgo1 P6 P7 BY6 OWR hsum hd4 HL
      go_wp2_with (fail)
      refine CJ8.out.mono ?_
      rintro e w8 ⟨v8, rfl, hv, hl⟩
      have M := hide (must_any (r := r) (RdRaw.later HR7.out hl) hv (justF_end [125] z (by decide)))
      have BY8 := hide (BY7.out.past (Past.of_later hl) (by omega))
      have BX8 := hide (BX7.out.past (Past.of_later hl) hgx)
      have OW8 := hide (own_later OW7.out hl)
      have HP8 := hide (HP7.out.trans (Past.of_later hl))
      obtain ⟨vv, hvv⟩ : ∃ vv, v8.val = vv := ⟨_, rfl⟩
      rw [hvv] at M ⊢
      clear CJ8 hv hl hvv BY7 BX7 OW7 HP7 HR7
      go_wp2_with (fail)
      refine M.out.mono ?_
      rintro e w9 ⟨rfl, hr9, hp9⟩
      have hd5 : mustP (justF [125]) r = d5 ts := by unfold d5; rw [HD4.out]
      rw [hd5] at hr9
      have HR9 := hide hr9
      have BY9 := hide (BY8.out.past hp9 (by omega))
      have BX9 := hide (BX8.out.past hp9 hgx)
      have OW9 := hide (own_past OW8.out hp9 hg0 (by decide))
      have HP9 := hide (HP8.out.trans hp9)
      have CS9 := hide (some_any (w := w9) 0)
      clear M hr9 hp9 hd5 BY8 BX8 OW8 HP8
      go_wp2_with (fail)
      refine CS9.out.mono ?_
      rintro e w10 ⟨v10, rfl, hv, hl⟩
      have M := hide (last_any (r := d5 ts) (RdRaw.later HR9.out hl) hv (fun t ht => HK.out t (d5_sub ht)))
      have BY10 := hide (BY9.out.past (Past.of_later hl) (by omega))
      have BX10 := hide (BX9.out.past (Past.of_later hl) hgx)
      have OW10 := hide (own_later OW9.out hl)
      have HP10 := hide (HP9.out.trans (Past.of_later hl))
      obtain ⟨vv, hvv⟩ : ∃ vv, v10.val = vv := ⟨_, rfl⟩
      rw [hvv] at M ⊢
      clear CS9 hv hl hvv BY9 BX9 OW9 HP9 HR9
      go_wp2_with (fail)
      refine M.out.mono ?_
      rintro e w11 ⟨⟨T2, rfl⟩, hr11, hp11⟩
      have HR11 := hide hr11
      have BY11 := hide (BY10.out.past hp11 (by omega))
      have BX11 := hide (BX10.out.past hp11 hgx)
      have OW11 := hide (own_past OW10.out hp11 hg0 (by decide))
      have HP11 := hide (HP10.out.trans hp11)
      clear M hr11 hp11 BY10 BX10 OW10 HP10
      go_wp2_with (first
        | (refine wpList_load_box (by rfl) 25 (.tmp 3) (by rfl) y 0 (by rfl) 25 _ BY11.out 2 _ Tryd.underlying25 (by rfl) (by kernel_rfl) [.string ⟨T.s.toArray⟩, .slice A na cv] (by rfl) (by rfl) ?_)
        | (refine wpList_store_box (by rfl) 25 (.tmp 2) (.tmp 29) (by rfl) x 0 #[.string ⟨T.s.toArray⟩, .slice A na cv] (by rfl) (by rfl) 25 _ BX11.out (by kernel_rfl) (by simp) (by simp [Value.oneCell']) ?_; intro w12 hx12 hg12))
      refine bodyPost_ret (results_cell_row Tryd.results21 _ _ x 25 _ (0, 0) _ (by rfl) hx12 Tryd.underlying25 (by rfl) (by kernel_rfl)) rfl ⟨.slice A na cv, rfl, ?_, ?_, HP11.out.onto hg12 (fun j e => by have := Option.some.inj e; have := HX.out; omega)⟩
      · have hd : dSteps ts = acc.map (·.1) := by unfold dSteps; rw [HSUM.out]
        unfold StepRow
        rw [hd, HNA.out]
        exact own_apart OW11.out BX11.out (by decide) hg12
      · have hb : (d6 ts).bad = ((d5 ts).bad || !(d5 ts).l.isEmpty) := rfl
        rw [← HFL.out, ← HFB.out, hb, HSUM.out]
        exact HR11.out.own hg12 hgx BX11.out (by decide)
end
end Go.Proofs.YtdahnjcoflifbaaDoor
/- Parse. -/
namespace Go.Proofs.YtdahnjcoflifbaaDoor
open Go.RowKit

theorem answer_cases (L : List UInt8) : (400 < L.length ∧ answer L = ([], 0, 12)) ∨ (L.length ≤ 400 ∧ ∃ p, (toks L 0).2 = some p ∧ answer L = ([], p, 11)) ∨ (L.length ≤ 400 ∧ (toks L 0).2 = none ∧ answer L = ((toks L 0).1, 0, 0)) := by
  unfold answer
  by_cases h : 400 < L.length
  · exact .inl ⟨h, if_pos h⟩
  · right
    rw [if_neg h]
    cases hp : (toks L 0).2 with
    | some p => exact .inl ⟨by omega, p, rfl, rfl⟩
    | none => exact .inr ⟨by omega, rfl, rfl⟩
theorem toks_few (l : List UInt8) (a : Nat) : (toks l a).1.length ≤ l.length := by
  refine toks_ind (P := fun l a => (toks l a).1.length ≤ l.length) ?_ ?_ ?_ l.length l a (Nat.le_refl _)
  · intro a; simp [toks_nil]
  · intro b r a h; simp [toks_bad r a h]
  · intro b r a h ih
    have hl := rest_len (kindB b.toNat) r
    rw [toks_cons r a h]
    unfold ahead
    cases hp : (toks (rest (kindB b.toNat) r) (a + 1 + (more (kindB b.toNat) r).length)).2 with
    | some e => simp
    | none =>
      by_cases h3 : kindB b.toNat ≤ 3
      · simp only [h3, if_true, List.cons_append, List.nil_append, List.length_cons]
        omega
      · simp only [h3, if_false, List.nil_append, List.length_cons]
        omega
/-- Without an error there are at most 400 tokens, each of a kind. -/
theorem answer_ok {L : List UInt8} (h : (answer L).2.2 = 0) : (answer L).1.length ≤ 400 ∧ ∀ t ∈ (answer L).1, t.k ≠ 0 := by
  rcases answer_cases L with ⟨_, e⟩ | ⟨_, p, _, e⟩ | ⟨h1, _, e⟩
  · rw [e] at h; cases h
  · rw [e] at h; cases h
  · rw [e]
    refine ⟨Nat.le_trans (toks_few L 0) h1, fun t ht => ?_⟩
    obtain ⟨b, m, _, _, h3, _⟩ := toks_wf L 0 t ht
    omega
theorem results_box3 {P : Program} {fn : Func} {p q r : Tmp} {ty : TypeId} (h : fn.results = #[.cell p ty, .tmp q, .tmp r]) (tmps : Array Value) (w : World) (g : Nat) (T : TypeId) (cs : Array Value) (d : TypeDesc)
    (hp : tmps.getD p undef = .pointer (some ⟨g, 0, none⟩)) (hg : w.heap[g]? = some (.cells cs T (0, 0)))
    (hu : P.underlying ty = some d) (hd : (match d with | .struct _ | .array _ _ => true | _ => false) = true) (hi : (P.info? ty).map (·.size) = some cs.size) (v : Value) (hv : tmps.getD q undef = v) (u : Value) (huv : tmps.getD r undef = u) :
    (results fn tmps).run P w = .ok (.tuple #[.agg cs, v, u]) w := by
  have hp' : tmps[p]?.getD undef = .pointer (some ⟨g, 0, none⟩) := by simpa using hp
  have hv' : tmps[q]?.getD undef = v := by simpa using hv
  have hu' : tmps[r]?.getD undef = u := by simpa using huv
  simp [results, h, hp', hv', hu', asAddr, run_loadVar_row w g T ty cs (0, 0) d hg hu hd hi]

theorem plc_at {w : World} {b e n i : Nat} {v : Value} {ps : List Nat} (h : w.ownsRow b e 1 v n (plc ps)) (hi : i < n) : ∃ q c, v = .slice (some ⟨q, 0, none⟩) n c ∧ w.cell? ⟨q, i, none⟩ = some (.int .i64 ((ps.getD i 0 : Nat) : Int)) := by
  have hl : ps.length = n := by have := h.1; simpa [plc] using this
  rcases h.2 with ⟨_, h0⟩ | ⟨g, cap, cur, rfl, _, _, _⟩
  · omega
  · refine ⟨g, cap, rfl, ?_⟩
    rw [h.cellAt i (by omega)]
    have : i < ps.length := by omega
    simp [plc, this]
/-- What Parse tells. -/
def Parsed (w : World) (L : List UInt8) (e : Ending) (w' : World) : Prop :=
  ∃ v, e = .returned (.tuple #[.agg #[.string (parseF L).1, v], .int .i64 ((parseF L).2.2.1 : Int), .int .i64 ((parseF L).2.2.2 : Int)]) ∧ StepsAt (w.heap.size ≤ ·) w' v (parseF L).2.1 ∧ Later w w'
theorem parsed_of {w w' : World} {L : List UInt8} {v : Value} {nm : ByteArray} {st : List StepD} {a e : Nat} (h : parseF L = (nm, st, a, e)) (hs : StepsAt (w.heap.size ≤ ·) w' v st) (hl : Later w w') :
    Parsed w L (.returned (.tuple #[.agg #[.string nm, v], .int .i64 (a : Int), .int .i64 (e : Int)])) w' := ⟨v, by rw [h], by rw [h]; exact hs, hl⟩
theorem below_later {B : Nat} {w w1 w2 : World} (h : Later w w1) (k : Below B w1 w2) (hB : w.heap.size ≤ B) : Later w w2 := Below.trans h (Below.mono k hB)

section
variable {w : World}
set_option maxHeartbeats 8000000 in
set_option maxRecDepth 100000 in
theorem parse_any (s : ByteArray) (hs : s.size ≤ 9223372036854775807) (ho : OptAt w) : Calls Tryd.prog 10 #[.string s] w (Parsed w s.data.toList) := by
  obtain ⟨L, hL⟩ : ∃ L, L = s.data.toList := ⟨_, rfl⟩
  have hlen : L.length = s.size := by rw [hL, Array.length_toList]; rfl
  have HLEN := hide hlen
  obtain ⟨x, hx⟩ : ∃ x, x = w.heap.size := ⟨_, rfl⟩
  obtain ⟨W0, hW0⟩ : ∃ W0, W0 = w.alloc (.cells #[.string ⟨#[]⟩, .slice none 0 0] 25 (0, 0)) := ⟨_, rfl⟩
  have BX0 : Hid (DefBox x ⟨#[]⟩ (.slice none 0 0) W0) := by rw [hW0, hx]; exact heap_alloc_new w _
  have L0 : Hid (Later w W0) := by rw [hW0]; exact (Below.refl _ _).alloc (Nat.le_refl _) _
  have HO := hide ho
  have CT := hide (tokens_any (w := W0) s hs)
  rw [← hL] at CT ⊢
  have HW0 := hide hW0.symm
  have HX := hide hx.symm
  have hx0 : x < W0.heap.size := lt_of_block BX0.out
  have hg0 : 0 < w.heap.size := ho.1
  obtain ⟨TS, hTS⟩ : ∃ TS, (answer L).1 = TS := ⟨_, rfl⟩
  obtain ⟨AT, hAT⟩ : ∃ AT, (answer L).2.1 = AT := ⟨_, rfl⟩
  obtain ⟨ER, hER⟩ : ∃ ER, (answer L).2.2 = ER := ⟨_, rfl⟩
  have hok : ER = 0 → TS.length ≤ 400 ∧ ∀ t ∈ TS, t.k ≠ 0 := fun h => by rw [← hTS]; exact answer_ok (hER.trans h)
  have hparse : parseF L = if ER ≠ 0 then (⟨#[]⟩, [], AT, ER) else if (d6 TS).bad then (⟨#[]⟩, [], ((d6 TS).l.head?.map (·.at_)).getD L.length, 11)
      else if (checkF (dName TS) (dSteps TS)).2 ≠ 0 then (⟨#[]⟩, [], (dPlaces TS).getD (checkF (dName TS) (dSteps TS)).1 0, (checkF (dName TS) (dSteps TS)).2) else (dName TS, dSteps TS, 0, 0) := by
    rw [← hTS, ← hAT, ← hER]; rfl
  unfold Told at CT
  rw [hTS, hAT, hER] at CT
  have HOK := hide hok
  have HPA := hide hparse
  have HE0 : Hid (∀ W' : World, (W'.heap[x]? = some (.cells #[.string ⟨#[]⟩, .slice none 0 0] 25 (0, 0))) → (W'.cell? ⟨x, 0, none⟩ = some (.string ⟨#[]⟩) ∧ W'.cell? ⟨x, 1, none⟩ = some (.slice none 0 0) ∧ W'.frozen? ⟨x, 0, none⟩ = false ∧ W'.frozen? ⟨x, 1, none⟩ = false)) := fun W' hb =>
    ⟨(cell_of_row W' x 0 _ _ _ hb).trans rfl, (cell_of_row W' x 1 _ _ _ hb).trans rfl, frozen_of_row W' x 0 _ _ hb, frozen_of_row W' x 1 _ _ hb⟩
  clear hL hlen hW0 hx ho hok hparse hTS hAT hER hs
  go_enter Tryd.func10, Tryd.ntmps10
  go_wp2_with (fail)
  have hw := HW0.out
  have hxx := HX.out
  simp only [hw, hxx]
  clear hw hxx
  refine CT.out.mono ?_
  rintro e w1 ⟨v1, rfl, hrow, hl1⟩
  have HROW := hide hrow
  have L1 := hide (L0.out.trans hl1)
  have BX1 : Hid (DefBox x ⟨#[]⟩ (.slice none 0 0) w1) := (Below.block hl1 x hx0).trans BX0.out
  have hs1 : W0.heap.size ≤ w1.heap.size := Below.size hl1
  have hxs : w.heap.size = x := HX.out
  clear CT hrow hl1
  by_cases hE : ER = 0
  · have hb : ((ER : Int) != 0) = false := by rw [hE]; rfl
    obtain ⟨hlen, hkind⟩ := HOK.out hE
    have hPA2 := HPA.out
    rw [if_neg (by simp [hE])] at hPA2
    have HPA2 := hide hPA2
    have HLT := hide hlen
    have HKI := hide hkind
    have CR := hide (newReader_any (w := w1) (z := L.length) HROW.out hs1 hlen)
    have hzl : (L.length : Int) = (s.size : Int) := by have := HLEN.out; omega
    rw [hzl] at CR
    clear hE hPA2 hlen hkind hzl HPA HOK
    go_wp2_with (fail)
    refine CR.out.mono ?_
    rintro e w2 ⟨g, rfl, hr2, hgg, hb2⟩
    have L2 := hide (below_later L1.out hb2 (by omega))
    have BX2 : Hid (DefBox x ⟨#[]⟩ (.slice none 0 0) w2) := (Below.block hb2 x hx0).trans BX1.out
    have hgs := RdRaw.lt hr2
    have hgo : 0 < g := by omega
    have CD := hide (definition_any hr2 (HO.out.later L2.out) hgo HKI.out HLT.out)
    have s2 := Below.size L2.out
    have s21 := Below.size hb2
    clear CR hr2 hb2 BX1 HLT HKI
    go_wp2_with (fail)
    refine CD.out.mono ?_
    rintro e w3 ⟨v3, rfl, hrow3, hr3, hp3⟩
    obtain ⟨A3, k3, hv3, hk31, hk32, _⟩ := FlatAt.shape hrow3.flat
    obtain ⟨n3, hn3⟩ : ∃ n3, (dSteps TS).length = n3 := ⟨_, rfl⟩
    rw [hn3] at hv3
    subst hv3
    have HROW3 := hide hrow3
    obtain ⟨y, hy⟩ : ∃ y, y = w3.heap.size := ⟨_, rfl⟩
    obtain ⟨W3, hW3⟩ : ∃ W3, W3 = w3.alloc (.cells #[.string (dName TS), .slice A3 n3 k3] 25 (0, 0)) := ⟨_, rfl⟩
    have M3 : Hid (Later w3 W3) := by rw [hW3]; exact (Below.refl _ _).alloc (Nat.le_refl _) _
    have BY3 : Hid (DefBox y (dName TS) (.slice A3 n3 k3) W3) := by rw [hW3, hy]; exact heap_alloc_new w3 _
    have L3 : Hid (Later w W3) := below_later L2.out (Below.trans (hp3.below (B := w.heap.size) (by omega) (by omega)) (Below.mono M3.out (by have := hp3.size; omega))) (Nat.le_refl _)
    have BX3 : Hid (DefBox x ⟨#[]⟩ (.slice none 0 0) W3) := (Below.block M3.out x (by have := hp3.size; have := lt_of_block BX2.out; omega)).trans ((hp3.low x (lt_of_block BX2.out) (by omega)).trans BX2.out)
    have HR3 := hide (RdRaw.later hr3 M3.out)
    have SR3 : Hid (StepsAt (x < ·) W3 (.slice A3 n3 k3) (dSteps TS)) := StepsAt.mono (StepsAt.kept hrow3.flat (Kept.of_below M3.out _)) fun i _ hi => by have h1 : w2.heap.size ≤ i := hi; show x < i; have := lt_of_block BX2.out; omega
    obtain ⟨tv, nv, c0, c1, c2, f0, f1, f2, ht, hn, hbk⟩ := RdRaw.cells hr3
    have hg3 := hr3.lt
    have HW3 := hide hW3.symm
    have HY := hide hy.symm
    obtain ⟨BAD, hBAD⟩ : ∃ BAD, (d6 TS).bad = BAD := ⟨_, rfl⟩
    rw [hBAD] at c1
    have HB := hide hBAD
    have hy3 : y < W3.heap.size := lt_of_block BY3.out
    obtain ⟨NM, hNM⟩ : ∃ NM, dName TS = NM := ⟨_, rfl⟩
    rw [hNM] at HW3 BY3 ⊢
    have HNM := hide hNM
    have HNN := hide hn
    clear CD hrow3 hr3 hp3 hk31 hk32 hW3 hy hBAD ht hn hbk c0 c2 f0 f1 f2 hn3 hNM BX2
    cases BAD with
    | true =>
      have hpl : ∃ t M, (d5 TS).l ++ [endTok L.length] = t :: M ∧ (((d6 TS).l.head?.map (·.at_)).getD L.length) = t.at_ := by
        have e1 : (d6 TS).l = (d5 TS).l := rfl
        rw [e1]
        cases (d5 TS).l with
        | nil => exact ⟨endTok L.length, [], rfl, rfl⟩
        | cons t M => exact ⟨t, M ++ [endTok L.length], rfl, rfl⟩
      obtain ⟨t, M, ht1, ht2⟩ := hpl
      have hr := HR3.out
      rw [HB.out, if_pos rfl, ht1] at hr
      have CP := hide (place_any hr)
      have hres : parseF L = (⟨#[]⟩, [], t.at_, 11) := by rw [HPA2.out, if_pos HB.out, ht2]
      have HRES := hide hres
      clear hr ht1 ht2 hres
      go_wp2_with (fail)
      have hw := HW3.out
      have hyy := HY.out
      simp only [hw, hyy]
      clear hw hyy
      go_wp2_with (fail)
      refine CP.out.mono ?_
      rintro e w4 ⟨rfl, hq⟩
      obtain rfl := hq.symm
      obtain ⟨x0, x1, xf0, xf1⟩ := HE0.out _ BX3.out
      have hxw : x < W3.heap.size := lt_of_block BX3.out
      go_wp2_with (refine wpList_store_box (by rfl) 25 _ _ (by rfl) x 0 #[.string ⟨#[]⟩, .slice none 0 0] (by rfl) (by rfl) 25 _ BX3.out (by kernel_rfl) (by simp) (by simp [Value.oneCell']) ?_; intro w5 hx5 hg5)
      have L5 : Hid (Later w w5) := Below.trans L3.out ((Below.refl _ _).grown hg5 (by omega) fun j e => by have := Option.some.inj e; omega)
      refine bodyPost_ret (results_box3 Tryd.results10 _ _ x 25 _ _ (by rfl) hx5 Tryd.underlying25 (by rfl) (by kernel_rfl) _ (by rfl) _ (by rfl)) rfl ?_
      exact parsed_of HRES.out (StepsAt.nil_ _ _) L5.out
    | false =>
      have hPA3 := HPA2.out
      rw [if_neg (by rw [HB.out]; simp)] at hPA3
      have HPA3 := hide hPA3
      have CC := hide (check_any (w := W3) (name := dName TS) SR3.out)
      rw [HNM.out] at CC
      obtain ⟨e1, he1⟩ : ∃ e1, (checkF NM (dSteps TS)).1 = e1 := ⟨_, rfl⟩
      obtain ⟨e2, he2⟩ : ∃ e2, (checkF NM (dSteps TS)).2 = e2 := ⟨_, rfl⟩
      have hle := checkF_le NM (dSteps TS)
      rw [he1] at hle
      rw [he1, he2] at CC
      have HE1 := hide he1
      have HE2 := hide he2
      have HLE := hide hle
      clear hPA3 he1 he2 hle
      go_wp2_with (fail)
      have hw := HW3.out
      have hyy := HY.out
      simp only [hw, hyy]
      clear hw hyy
      go_wp2_with (refine wpList_load_box (by rfl) 25 (.tmp 9) (by rfl) y 0 (by rfl) 25 _ BY3.out 2 _ Tryd.underlying25 (by rfl) (by kernel_rfl) [.string NM, .slice A3 n3 k3] (by rfl) (by rfl) ?_)
      refine CC.out.mono ?_
      rintro e w6 ⟨rfl, hl6⟩
      have L6 := hide (L3.out.trans hl6)
      have BX6 : Hid (DefBox x ⟨#[]⟩ (.slice none 0 0) w6) := (Below.block hl6 x (lt_of_block BX3.out)).trans BX3.out
      have BY6 : Hid (DefBox y NM (.slice A3 n3 k3) w6) := (Below.block hl6 y (lt_of_block BY3.out)).trans BY3.out
      have SR6 := hide (StepsAt.kept SR3.out (Kept.of_below hl6 _))
      have HR6 := hide (RdRaw.later HR3.out hl6)
      clear CC hl6 BX3 BY3 SR3 HR3 c1
      by_cases hE2 : e2 = 0
      · have hb2 : ((e2 : Int) != 0) = false := by rw [hE2]; rfl
        have hres : parseF L = (NM, dSteps TS, 0, 0) := by rw [HPA3.out, if_neg (by rw [HNM.out, HE2.out, hE2]; simp), HNM.out]
        have HRES := hide hres
        clear hE2 hres
        go_wp2_with (first
          | (refine wpList_load_box (by rfl) 25 (.tmp 9) (by rfl) y 0 (by rfl) 25 _ BY6.out 2 _ Tryd.underlying25 (by rfl) (by kernel_rfl) [.string NM, .slice A3 n3 k3] (by rfl) (by rfl) ?_)
          | (refine wpList_store_box (by rfl) 25 (.tmp 2) (.tmp 52) (by rfl) x 0 #[.string NM, .slice A3 n3 k3] (by rfl) (by rfl) 25 _ BX6.out (by kernel_rfl) (by simp) (by simp [Value.oneCell']) ?_; intro w7 hx7 hg7))
        have L7 : Hid (Later w w7) := Below.trans L6.out ((Below.refl _ _).grown hg7 (Below.size L6.out) fun j e => by have := Option.some.inj e; omega)
        have SR7 : Hid (StepsAt (w.heap.size ≤ ·) w7 (.slice A3 n3 k3) (dSteps TS)) := StepsAt.mono (StepsAt.kept SR6.out (Kept.of_grown hg7 fun j e hj => by have h1 := Option.some.inj e; have h2 : x < j := hj; omega)) fun i _ hi => by have h1 : x < i := hi; show w.heap.size ≤ i; omega
        refine bodyPost_ret (results_box3 Tryd.results10 _ _ x 25 _ _ (by rfl) hx7 Tryd.underlying25 (by rfl) (by kernel_rfl) _ (by rfl) _ (by rfl)) rfl ?_
        exact parsed_of HRES.out SR7.out L7.out
      · have hb2 : ((e2 : Int) != 0) = true := by simp; omega
        have hres : parseF L = (⟨#[]⟩, [], (dPlaces TS).getD e1 0, e2) := by rw [HPA3.out, if_pos (by rw [HNM.out, HE2.out]; exact hE2), HNM.out, HE1.out, HE2.out]
        have HRES := hide hres
        obtain ⟨tv, nv, c0, c1, c2, f0, f1, f2, ht, hn, hbk⟩ := RdRaw.cells HR6.out
        have hpl : e1 < (dPlaces TS).length := by
          have := HLE.out
          unfold dPlaces
          unfold dSteps at this
          simp at this ⊢
          omega
        obtain ⟨q, cp, rfl, hqc⟩ := plc_at hn hpl
        obtain ⟨np, hnp⟩ : ∃ np, (dPlaces TS).length = np := ⟨_, rfl⟩
        obtain ⟨pv, hpv⟩ : ∃ pv, (dPlaces TS).getD e1 0 = pv := ⟨_, rfl⟩
        rw [hnp] at c2 hpl
        rw [hpv] at hqc HRES
        have hgx : x < g := by omega
        have hq1 : g < q := by
          have := (hn.lt q rfl).1
          omega
        have hqs : q < w6.heap.size := (hn.lt q rfl).2
        have hg6 : g < w6.heap.size := HR6.out.lt
        have hx6 : x < w6.heap.size := lt_of_block BX6.out
        obtain ⟨x0, x1, xf0, xf1⟩ := HE0.out _ BX6.out
        have hpl' : (e1 : Int) < (np : Int) := by omega
        have L7 : Hid (Later w ((w6.setCell ⟨x, 0, none⟩ (.string ⟨#[]⟩)).setCell ⟨x, 1, none⟩ (.slice none 0 0)).drew) := ((L6.out.setCell (by show w.heap.size ≤ x; omega) _).setCell (by show w.heap.size ≤ x; omega) _).drew
        have hx7 : ((w6.setCell ⟨x, 0, none⟩ (.string ⟨#[]⟩)).setCell ⟨x, 1, none⟩ (.slice none 0 0)).drew.heap[x]? = some (.cells #[.string ⟨#[]⟩, .slice none 0 0] 25 (0, 0)) := by
          have h1 := heap_setCell_same w6 x 0 _ _ (.string ⟨#[]⟩) BX6.out
          exact heap_setCell_same _ x 1 _ _ (.slice none 0 0) h1
        have HX7 := hide hx7
        clear hE2 hres ht hbk hn hnp hpv hx7 c0 c1 f0 f1 f2
        go_wp2_with (fail)
        go_region
        go_wp2_with (fail)
        refine bodyPost_ret (results_box3 Tryd.results10 _ _ x 25 _ _ (by rfl) HX7.out Tryd.underlying25 (by rfl) (by kernel_rfl) _ (by rfl) _ (by rfl)) rfl ?_
        exact parsed_of HRES.out (StepsAt.nil_ _ _) L7
  · have hb : ((ER : Int) != 0) = true := by simp; omega
    have hres : parseF L = (⟨#[]⟩, [], AT, ER) := by rw [HPA.out, if_pos hE]
    have HRES := hide hres
    clear hE hres HPA HOK
    go_wp2_with (refine wpList_store_box (by rfl) 25 (.tmp 2) (.tmp 20) (by rfl) x 0 #[.string ⟨#[]⟩, .slice none 0 0] (by rfl) (by rfl) 25 _ BX1.out (by kernel_rfl) (by simp) (by simp [Value.oneCell']) ?_; intro w5 hx5 hg5)
    have L5 : Hid (Later w w5) := Below.trans L1.out ((Below.refl _ _).grown hg5 (Below.size L1.out) fun j e => by have := Option.some.inj e; omega)
    refine bodyPost_ret (results_box3 Tryd.results10 _ _ x 25 _ _ (by rfl) hx5 Tryd.underlying25 (by rfl) (by kernel_rfl) _ (by rfl) _ (by rfl)) rfl ?_
    exact parsed_of HRES.out (StepsAt.nil_ _ _) L5.out
end
end Go.Proofs.YtdahnjcoflifbaaDoor
/- The document's examples. -/
namespace Go.Proofs.YtdahnjcoflifbaaDoor
open Go.RowKit

/-- The same, by a bound on the length: Lean's kernel reckons these. -/
def toksN : Nat → List UInt8 → Nat → List Tok × Option Nat
  | _, [], _ => ([], none)
  | 0, _ :: _, _ => ([], none)
  | n + 1, b :: r, a => if kindB b.toNat = 0 then ([], some a) else
    ahead (if kindB b.toNat ≤ 3 then [tokOf (kindB b.toNat) b r a] else []) (toksN n (rest (kindB b.toNat) r) (a + 1 + (more (kindB b.toNat) r).length))
theorem toksN_eq : ∀ (n : Nat) (l : List UInt8) (a : Nat), l.length ≤ n → toksN n l a = toks l a
  | n, [], a, _ => by rw [toks_nil]; cases n <;> rfl
  | 0, _ :: _, _, h => by simp at h
  | n + 1, b :: r, a, h => by
    have hl := rest_len (kindB b.toNat) r
    simp at h
    unfold toksN
    by_cases hk : kindB b.toNat = 0
    · rw [if_pos hk, toks_bad r a hk]
    · rw [if_neg hk, toks_cons r a hk, toksN_eq n _ _ (by omega)]
def stepsN : Nat → Rd → List (StepD × Nat) × Rd
  | 0, r => ([], r)
  | n + 1, r => if isP (justF wStep) r = true then ((stepP r.go, placeP r.go) :: (stepsN n (s8 r.go)).1, (stepsN n (s8 r.go)).2) else ([], r)
theorem stepsN_eq : ∀ (n : Nat) (r : Rd), r.l.length ≤ n → stepsN n r = stepsP r
  | 0, r, h => by
    have : isP (justF wStep) r = false := by
      cases hq : isP (justF wStep) r with
      | false => rfl
      | true => have := isP_len hq; omega
    rw [stepsP_no this]; rfl
  | n + 1, r, h => by
    unfold stepsN
    cases hq : isP (justF wStep) r with
    | false => rw [stepsP_no hq]; rfl
    | true =>
      have h1 := isP_len hq
      have h2 := s8_len r.go
      have h3 := go_len r
      rw [if_pos rfl, stepsP_yes hq, stepsN_eq n (s8 r.go) (by omega)]
def answerN (l : List UInt8) : List Tok × Nat × Nat :=
  if 400 < l.length then ([], 0, 12) else match (toksN l.length l 0).2 with
    | some e => ([], e, 11)
    | none => ((toksN l.length l 0).1, 0, 0)
theorem answerN_eq (l : List UInt8) : answerN l = answer l := by
  unfold answerN answer
  rw [toksN_eq _ _ _ (Nat.le_refl _)]
  by_cases h : 400 < l.length
  · rw [if_pos h, if_pos h]
  · rw [if_neg h, if_neg h]
    cases (toks l 0).2 <;> rfl
def parseN (L : List UInt8) : ByteArray × List StepD × Nat × Nat :=
  let ts := (answerN L).1
  let st := stepsN ts.length (d3 ts)
  let e6 : Rd := mustP (justF [125]) st.2
  let nm : ByteArray := ⟨(tokP (someF 1) (d1 ts)).s.toArray⟩
  let ps := (tokP (someF 1) (d1 ts)).at_ :: st.1.map (·.2)
  if (answerN L).2.2 ≠ 0 then (⟨#[]⟩, [], (answerN L).2.1, (answerN L).2.2)
  else if e6.bad || !e6.l.isEmpty then (⟨#[]⟩, [], (e6.l.head?.map (·.at_)).getD L.length, 11)
  else if (checkF nm (st.1.map (·.1))).2 ≠ 0 then (⟨#[]⟩, [], ps.getD (checkF nm (st.1.map (·.1))).1 0, (checkF nm (st.1.map (·.1))).2)
  else (nm, st.1.map (·.1), 0, 0)
theorem parseN_eq (L : List UInt8) : parseN L = parseF L := by
  have h := stepsN_eq _ (d3 (answer L).1) (d3_len _)
  unfold parseN parseF
  simp only [answerN_eq, h]
  rfl
def text1 : List UInt8 := [115, 97, 103, 97, 32, 112, 97, 121, 32, 123, 32, 115, 116, 101, 112, 32, 104, 111, 108, 100, 32, 115, 116, 117, 98, 32, 49, 32, 117, 110, 100, 111, 59, 32, 115, 116, 101, 112, 32, 115, 104, 105, 112, 32, 115, 116, 117, 98, 32, 50, 32, 119, 97, 105, 116, 32, 53, 32, 112, 105, 118, 111, 116, 59, 32, 125]
def text2 : List UInt8 := [115, 97, 103, 97, 32, 97, 32, 123, 32, 115, 116, 101, 112, 32, 98, 32, 115, 116, 117, 98, 32, 49, 59, 32, 125]
theorem parse1 : parseF text1 = (⟨#[112, 97, 121]⟩, [⟨⟨#[104, 111, 108, 100]⟩, 1, 0, 10, true, false⟩, ⟨⟨#[115, 104, 105, 112]⟩, 2, 0, 5, false, true⟩], 0, 0) := by
  rw [← parseN_eq]
  decide +kernel
theorem parse2 : parseF text2 = (⟨#[]⟩, [], 14, 10) := by
  rw [← parseN_eq]
  decide +kernel

section
variable {w : World}
set_option maxHeartbeats 4000000 in
set_option maxRecDepth 100000 in
theorem lives_any (ho : OptAt w) : Calls Tryd.prog 9 #[] w fun e w' => e = .returned (.bool true) ∧ Later w w' := by
  have HO := hide ho
  have C1 := hide (parse_any (w := w) ⟨text1.toArray⟩ (by decide) ho)
  have e1 : (⟨text1.toArray⟩ : ByteArray).data.toList = text1 := rfl
  unfold Parsed at C1
  rw [e1, parse1] at C1
  clear ho e1
  unfold text1 at C1
  simp only [List.toArray] at C1
  go_enter Tryd.func9, Tryd.ntmps9
  go_wp2_with (fail)
  refine C1.out.mono ?_
  rintro e w1 ⟨v1, rfl, hs1, hl1⟩
  have HS1 := hide hs1
  have HL1 := hide hl1
  obtain ⟨A, c, rfl, hc1, hc2, _⟩ := FlatAt.shape hs1
  have C2 := fun (W : World) (hl : Later w W) => parse_any (w := W) ⟨text2.toArray⟩ (by decide) (HO.out.later hl)
  unfold Parsed at C2
  simp only [parse2] at C2
  unfold text2 at C2
  simp only [List.toArray] at C2
  have C2' := hide C2
  simp only [List.length_cons, List.length_nil] at hs1 hc1 HS1 ⊢
  clear hs1 hl1 C1 C2 hc2
  go_wp2_with (fail)
  have hB : Later w1 (w1.alloc (.cells #[.string ⟨#[112, 97, 121]⟩, .slice A 2 c] 25 (0, 0))) := (Below.refl _ _).alloc (Nat.le_refl _) _
  have HB := hide hB
  have X1 := hide (heap_alloc_new w1 (.cells #[.string ⟨#[112, 97, 121]⟩, .slice A 2 c] 25 (0, 0)))
  clear hB
  refine (C2'.out _ (HL1.out.trans HB.out)).mono ?_
  rintro e w2 ⟨v2, rfl, hs2, hl2⟩
  obtain ⟨A2, c2, rfl, _, _, _⟩ := FlatAt.shape hs2
  have L2 := hide (HL1.out.trans (HB.out.trans hl2))
  have HS2 := hide (StepsAt.kept (StepsAt.kept HS1.out (Kept.of_below HB.out _)) (Kept.of_below hl2 _))
  have X2 := hide ((Below.block hl2 w1.heap.size (by simp)).trans X1.out)
  obtain ⟨s, b, off, c', hx, hv, _, _, _, hr⟩ := StepsAt.at_ HS2.out (i := 1) (by simp)
  simp at hx
  subst hx
  simp only [List.length_cons, List.length_nil] at hv ⊢
  obtain ⟨rfl, rfl⟩ : A = some ⟨b, off, none⟩ ∧ c = c' := by injection hv with e1 _ e3; exact ⟨e1, e3⟩
  obtain ⟨r0, r1, r2, r3, r4, r5⟩ := range_step hr
  have d1 : w2.cell? ⟨w1.heap.size, 1, none⟩ = some (.slice (some ⟨b, off, none⟩) 2 c) := (cell_of_row w2 w1.heap.size 1 _ _ _ X2.out).trans rfl
  have hw2 : w1.heap.size < w2.heap.size := lt_of_block X2.out
  clear hs2 hl2 C2' hv hr HS1
  go_wp2_with (fail)
  go_ret
  exact ⟨rfl, L2.out.alloc (Below.size L2.out) _⟩
end
end Go.Proofs.YtdahnjcoflifbaaDoor
/- From what a row says of steps and definitions that came in to what the walks are told of them. -/
namespace Go.Proofs.YtdahnjcoflifbaaDoor
open Go.RowKit

/-- No string and no slice in the datum is too long. -/
def Sm {H : Type} (t : TypeId) (d : DataW H) : Prop := ∀ n ∈ d.weights Tryd.prog t, n ≤ reachBytes
theorem weights_mem_all {H : Type} {P : Program} {e : TypeId} {d : DataW H} : ∀ {l : List (DataW H)}, d ∈ l → ∀ n ∈ d.weights P e, n ∈ DataW.weightsAll P e l
  | [], h, _, _ => by cases h
  | y :: r, h, n, hn => by
    simp only [DataW.weightsAll, List.mem_append]
    rcases List.mem_cons.1 h with rfl | h
    · exact .inl hn
    · exact .inr (weights_mem_all h n hn)

section
variable {H : Type} {enc : TypeId × Value → H} {W : World}
/-- The reading of an argument. -/
abbrev Rdg (enc : TypeId × Value → H) (W : World) (n : Nat) (t : TypeId) (cs : List Value) (x : DataW H × List MemPlace) : Prop := DataW.trod enc Tryd.prog W 0 (fun _ => true) true n t cs = some x

/-- A struct's fields. -/
theorem open_fields {t : TypeId} {fs : Array Field} {n : Nat} {cs : List Value} {x : DataW H × List MemPlace} (ht : Tryd.prog.underlying t = some (.struct fs)) (h : Rdg enc W n t cs x) (hs : Sm t x.1) :
    ∃ m, cs.length = Tryd.prog.cellsOf t ∧ ∀ (i : Nat) (f : Field), fs[i]? = some f → ∃ y, Rdg enc W m f.type ((cs.drop f.offset).take (Tryd.prog.cellsOf f.type)) y ∧ Sm f.type y.1 := by
  obtain ⟨xs, m, _, hx, hl, hxl, hf⟩ := DataW.trod_struct ht h
  refine ⟨m, hl, fun i f hi => ?_⟩
  have hil : i < xs.length := by rw [hxl]; exact (Array.getElem?_eq_some_iff.1 hi).1
  refine ⟨xs[i], (hf i f hi).trans (List.getElem?_eq_getElem hil), fun k hk => hs k ?_⟩
  rw [hx]
  simp only [DataW.weights, ht]
  exact DataW.weights_mem_each (j := i) (t := f.type) (d := xs[i].1) (by simp [hi]) (by simp [hil]) k hk
theorem open_int1 {t : TypeId} {n : Nat} {c : Value} {x : DataW H × List MemPlace} (ht : Tryd.prog.underlying t = some (.int .i64)) (h : Rdg enc W n t [c] x) : ∃ a : Int, c = .int .i64 a ∧ I64 a := by
  obtain ⟨a, h0, _, w0⟩ := DataW.trod_int ht h
  have b0 := bounds_i64 w0
  simp only [List.cons.injEq, and_true] at h0
  exact ⟨a, h0, by unfold I64; omega⟩
theorem open_bool1 {t : TypeId} {n : Nat} {c : Value} {x : DataW H × List MemPlace} (ht : Tryd.prog.underlying t = some .bool) (h : Rdg enc W n t [c] x) : ∃ a : Bool, c = .bool a := by
  obtain ⟨a, h0, _⟩ := DataW.trod_bool ht h
  simp only [List.cons.injEq, and_true] at h0
  exact ⟨a, h0⟩
theorem open_str1 {t : TypeId} {n : Nat} {c : Value} {x : DataW H × List MemPlace} (ht : Tryd.prog.underlying t = some .string) (h : Rdg enc W n t [c] x) (hs : Sm t x.1) : ∃ s : ByteArray, c = .string s ∧ s.size ≤ 140737488355328 := by
  obtain ⟨s, h0, h1, _⟩ := DataW.trod_string ht h
  simp only [List.cons.injEq, and_true] at h0
  refine ⟨s, h0, ?_⟩
  have := hs s.data.toList.length (by rw [h1]; simp [DataW.weights])
  unfold reachBytes at this
  rw [Array.length_toList] at this
  show s.data.size ≤ _
  omega

/-- The elements of a slice. -/
theorem open_elems {α : Type} [Inhabited α] (cells : α → List Value) (good : α → Prop) {t e : TypeId} (k : Nat) (hk : 0 < k) (hck : ∀ y, (cells y).length = k) (ht : Tryd.prog.underlying t = some (.slice e)) (hc : Tryd.prog.cellsOf e = k)
    (hel : ∀ (n : Nat) (cs : List Value) (x : DataW H × List MemPlace), Rdg enc W n e cs x → Sm e x.1 → ∃ y : α, cs = cells y ∧ good y) (hone : ∀ y, good y → ∀ u ∈ cells y, u.oneCell' = true)
    {n : Nat} {v : Value} {x : DataW H × List MemPlace} (h : Rdg enc W n t [v] x) (hs : Sm t x.1) :
    ∃ ys : List α, FlatAt (· < W.heap.size) W k v ys.length (ys.flatMap cells) ∧ ∀ y ∈ ys, good y := by
  rcases Go.Deep.open_slice ht h with ⟨hcs, _⟩ | ⟨a, l, c, m, n', D, Pl, hcs, _, hl, hm, hmm, hx, hi⟩
  · obtain rfl : v = .slice none 0 0 := by simpa using hcs
    exact ⟨[], FlatAt.nil_ _ _ _, by simp⟩
  · obtain rfl : v = .slice (some a) l c := by simpa using hcs
    simp only [if_true] at hmm
    rw [hc] at hi
    obtain ⟨F, hF⟩ := Go.Deep.choose_lt (p := fun i (y : α) => (∀ j u, (cells y)[j]? = some u → W.cell? (a.add (i * k + j)) = some u) ∧ good y) fun i (hil : i < l) => by
      obtain ⟨cs', h1, h2⟩ := hi i (by omega)
      have hsm : Sm e (D i) := fun q hq => hs q (by
        rw [hx]
        simp only [DataW.weights, ht]
        exact List.mem_cons_of_mem _ (List.mem_append_left _ (weights_mem_all (List.mem_map.2 ⟨i, List.mem_range.2 hil, rfl⟩) q hq)))
      obtain ⟨y, hy, hg⟩ := hel n' cs' (D i, Pl i) h2 hsm
      obtain ⟨_, hlen, hat⟩ := World.cells?_some h1
      refine ⟨y, fun j u hu => ?_, hg⟩
      have hj : j < k := by rw [← hck y]; exact (List.getElem?_eq_some_iff.1 hu).1
      rw [← Go.Deep.add_add, hat j hj, hy, hu]
    refine ⟨(List.range l).map F, ⟨?_, ?_, some a, c, by simp, by simpa using hl, hm, (fun e => by cases e), fun hn => ?_⟩, fun y hy => ?_⟩
    · exact flat_len cells k _ (fun y _ => hck y)
    · intro u hu
      obtain ⟨y, hy, hu⟩ := List.mem_flatMap.1 hu
      obtain ⟨i, hi, rfl⟩ := List.mem_map.1 hy
      exact hone _ (hF i (List.mem_range.1 hi)).2 u hu
    · have hn' : 0 < l := by simpa using hn
      obtain ⟨b, off, spot⟩ := a
      have hk0 : (cells (F 0))[0]? = some ((cells (F 0))[0]'(by rw [hck]; exact hk)) := List.getElem?_eq_getElem (by rw [hck]; exact hk)
      have h0 := (hF 0 hn').1 0 _ hk0
      have hspot : spot = none := by simpa [Addr.add] using World.cell?_spot h0
      subst hspot
      have hblt : b < W.heap.size := World.block_lt_of_cell? W _ (by simpa [Addr.add] using h0)
      refine ⟨b, off, rfl, hblt, hblt, fun j u hj => ?_⟩
      have hjl : j < l * k := by
        have := (List.getElem?_eq_some_iff.1 hj).1
        rw [flat_len cells k _ (fun y _ => hck y)] at this
        simpa using this
      have hq : j / k < l := Nat.div_lt_of_lt_mul (by rwa [Nat.mul_comm])
      have hr : j % k < k := Nat.mod_lt _ hk
      have hj2 : j = j / k * k + j % k := by rw [Nat.mul_comm]; exact (Nat.div_add_mod j k).symm
      have hge := flat_get cells k ((List.range l).map F) (j / k) (F (j / k)) (fun y _ => hck y) (by simp [hq])
      have hu : (cells (F (j / k)))[j % k]? = some u := by
        rw [← hge, List.getElem?_take_of_lt hr, List.getElem?_drop, ← hj2, hj]
      have := (hF (j / k) hq).1 (j % k) u hu
      rwa [Addr.add_lit, ← hj2] at this
    · obtain ⟨i, hi, rfl⟩ := List.mem_map.1 hy
      exact (hF i (List.mem_range.1 hi)).2
end

instance : Inhabited StepD := ⟨⟨⟨#[]⟩, 0, 0, 0, false, false⟩⟩
instance : Inhabited (OpD × Value) := ⟨⟨.zero, .slice none 0 0⟩⟩
section
variable {H : Type} {enc : TypeId × Value → H} {W : World}
set_option maxRecDepth 100000

theorem open_step {n : Nat} {cs : List Value} {x : DataW H × List MemPlace} (h : Rdg enc W n 41 cs x) (hs : Sm 41 x.1) :
    ∃ s : StepD, cs = s.cells ∧ s.wf := by
  obtain ⟨m, hl, hf⟩ := open_fields Tryd.underlying41 h hs
  have hl : cs.length = 6 := hl
  match cs, hl with
  | [c0, c1, c2, c3, c4, c5], _ =>
    obtain ⟨y0, g0, s0⟩ := hf 0 _ rfl
    have g0 : Rdg enc W m 9 [c0] y0 := (congrArg (fun q => DataW.trod enc Tryd.prog W 0 (fun _ => true) true m 9 q) (show ([c0, c1, c2, c3, c4, c5].drop 0).take (Tryd.prog.cellsOf 9) = [c0] from by rw [show Tryd.prog.cellsOf 9 = 1 from by kernel_rfl]; rfl)).symm.trans g0
    obtain ⟨a0, e0, w0⟩ := open_str1 Tryd.underlying9 g0 s0
    obtain ⟨y1, g1, s1⟩ := hf 1 _ rfl
    have g1 : Rdg enc W m 3 [c1] y1 := (congrArg (fun q => DataW.trod enc Tryd.prog W 0 (fun _ => true) true m 3 q) (show ([c0, c1, c2, c3, c4, c5].drop 1).take (Tryd.prog.cellsOf 3) = [c1] from by rw [show Tryd.prog.cellsOf 3 = 1 from by kernel_rfl]; rfl)).symm.trans g1
    obtain ⟨a1, e1, w1⟩ := open_int1 Tryd.underlying3 g1
    obtain ⟨y2, g2, s2⟩ := hf 2 _ rfl
    have g2 : Rdg enc W m 3 [c2] y2 := (congrArg (fun q => DataW.trod enc Tryd.prog W 0 (fun _ => true) true m 3 q) (show ([c0, c1, c2, c3, c4, c5].drop 2).take (Tryd.prog.cellsOf 3) = [c2] from by rw [show Tryd.prog.cellsOf 3 = 1 from by kernel_rfl]; rfl)).symm.trans g2
    obtain ⟨a2, e2, w2⟩ := open_int1 Tryd.underlying3 g2
    obtain ⟨y3, g3, s3⟩ := hf 3 _ rfl
    have g3 : Rdg enc W m 3 [c3] y3 := (congrArg (fun q => DataW.trod enc Tryd.prog W 0 (fun _ => true) true m 3 q) (show ([c0, c1, c2, c3, c4, c5].drop 3).take (Tryd.prog.cellsOf 3) = [c3] from by rw [show Tryd.prog.cellsOf 3 = 1 from by kernel_rfl]; rfl)).symm.trans g3
    obtain ⟨a3, e3, w3⟩ := open_int1 Tryd.underlying3 g3
    obtain ⟨y4, g4, s4⟩ := hf 4 _ rfl
    have g4 : Rdg enc W m 4 [c4] y4 := (congrArg (fun q => DataW.trod enc Tryd.prog W 0 (fun _ => true) true m 4 q) (show ([c0, c1, c2, c3, c4, c5].drop 4).take (Tryd.prog.cellsOf 4) = [c4] from by rw [show Tryd.prog.cellsOf 4 = 1 from by kernel_rfl]; rfl)).symm.trans g4
    obtain ⟨a4, e4⟩ := open_bool1 Tryd.underlying4 g4
    obtain ⟨y5, g5, s5⟩ := hf 5 _ rfl
    have g5 : Rdg enc W m 4 [c5] y5 := (congrArg (fun q => DataW.trod enc Tryd.prog W 0 (fun _ => true) true m 4 q) (show ([c0, c1, c2, c3, c4, c5].drop 5).take (Tryd.prog.cellsOf 4) = [c5] from by rw [show Tryd.prog.cellsOf 4 = 1 from by kernel_rfl]; rfl)).symm.trans g5
    obtain ⟨a5, e5⟩ := open_bool1 Tryd.underlying4 g5
    subst e0 e1 e2 e3 e4 e5
    exact ⟨⟨a0, a1, a2, a3, a4, a5⟩, rfl, w0, w1, w2, w3⟩

theorem open_steps {n : Nat} {v : Value} {x : DataW H × List MemPlace} (h : Rdg enc W n 23 [v] x) (hs : Sm 23 x.1) : ∃ l, StepsAt (· < W.heap.size) W v l ∧ ∀ s ∈ l, s.wf := by
  obtain ⟨ys, h1, h2⟩ := open_elems StepD.cells StepD.wf 6 (by decide) StepD.len Tryd.underlying23 (by kernel_rfl) (fun n cs x h hs => open_step h hs) (fun y _ => y.one) h hs
  exact ⟨ys, h1, h2⟩

theorem open_def {n : Nat} {cs : List Value} {x : DataW H × List MemPlace} (h : Rdg enc W n 25 cs x) (hs : Sm 25 x.1) :
    ∃ (nm : ByteArray) (v : Value) (l : List StepD), cs = [.string nm, v] ∧ nm.size ≤ 140737488355328 ∧ StepsAt (· < W.heap.size) W v l ∧ ∀ s ∈ l, s.wf := by
  obtain ⟨m, hl, hf⟩ := open_fields Tryd.underlying25 h hs
  have hl : cs.length = 2 := hl
  match cs, hl with
  | [c0, c1], _ =>
    obtain ⟨y0, g0, s0⟩ := hf 0 _ rfl
    have g0 : Rdg enc W m 9 [c0] y0 := (congrArg (fun q => DataW.trod enc Tryd.prog W 0 (fun _ => true) true m 9 q) (show ([c0, c1].drop 0).take (Tryd.prog.cellsOf 9) = [c0] from by rw [show Tryd.prog.cellsOf 9 = 1 from by kernel_rfl]; rfl)).symm.trans g0
    obtain ⟨a0, e0, w0⟩ := open_str1 Tryd.underlying9 g0 s0
    obtain ⟨y1, g1, s1⟩ := hf 1 _ rfl
    have g1 : Rdg enc W m 23 [c1] y1 := (congrArg (fun q => DataW.trod enc Tryd.prog W 0 (fun _ => true) true m 23 q) (show ([c0, c1].drop 1).take (Tryd.prog.cellsOf 23) = [c1] from by rw [show Tryd.prog.cellsOf 23 = 1 from by kernel_rfl]; rfl)).symm.trans g1
    obtain ⟨l, hl1, hl2⟩ := open_steps g1 s1
    subst e0
    exact ⟨a0, _, l, rfl, w0, hl1, hl2⟩
/-- Arguments: a struct by value, a slice. -/
theorem sm_of {ts : List TypeId} {ds : List (DataW H)} (hsz : (DataW.weightsEach Tryd.prog ts ds).all (· ≤ reachBytes) = true) {j : Nat} {t : TypeId} {d : DataW H} (ht : ts[j]? = some t) (hd : ds[j]? = some d) : Sm t d := fun n hn => by
  have := List.all_eq_true.1 hsz n (DataW.weights_mem_each ht hd n hn)
  simpa using this
theorem arg_def {cs : Array Value} {d : DataW H} {p : List MemPlace} (h : DataW.Trod enc Tryd.prog W 0 (fun _ => true) true 25 (.agg cs) d p) (hs : Sm 25 d) :
    ∃ (nm : ByteArray) (v : Value) (l : List StepD), cs = #[.string nm, v] ∧ StepsAt (· < W.heap.size) W v l ∧ nm.size ≤ 140737488355328 ∧ ∀ s ∈ l, s.wf := by
  obtain ⟨fuel, hf⟩ := h
  obtain ⟨nm, v, l, e, h1, h2, h3⟩ := open_def (n := fuel) (x := (d, p)) hf hs
  refine ⟨nm, v, l, ?_, h2, h1, h3⟩
  have e2 : cs.toList = [.string nm, v] := e
  exact Array.toList_inj.1 (by rw [e2])
theorem arg_step {cs : Array Value} {d : DataW H} {p : List MemPlace} (h : DataW.Trod enc Tryd.prog W 0 (fun _ => true) true 41 (.agg cs) d p) (hs : Sm 41 d) : ∃ s : StepD, cs = s.cells.toArray ∧ s.wf := by
  obtain ⟨fuel, hf⟩ := h
  obtain ⟨s, e, wf⟩ := open_step (n := fuel) (x := (d, p)) hf hs
  refine ⟨s, ?_, wf⟩
  have e2 : cs.toList = s.cells := e
  rw [← e2]
end
end Go.Proofs.YtdahnjcoflifbaaDoor
/- From the row's condition to the words and the powers of ten that lie in package-level variables. -/
namespace Go.Proofs.YtdahnjcoflifbaaDoor
open Go.RowKit

theorem cells_of_words {H : Type} {enc : TypeId × Value → H} {P : Program} {w : World} {base : Nat} {sp : Nat → Bool} {held : Bool} {fuel : Nat} {t e : TypeId} {n : Nat} {cs : List Value} {zs : List (List UInt8)} {p : List MemPlace}
    (ht : P.underlying t = some (.array n e)) (he : P.underlying e = some .string) (hce : P.cellsOf e = 1) (hct : P.cellsOf t = n)
    (h : DataW.trod enc P w base sp held fuel t cs = some (.agg (zs.map fun z => .lit (.string z)), p)) : cs = zs.map fun z => Value.string ⟨z.toArray⟩ := by
  cases fuel with
  | zero => simp [DataW.trod] at h
  | succ fuel =>
    simp only [DataW.trod, ht, hce, hct, Nat.mul_one] at h
    split at h
    · rename_i hl
      obtain ⟨xs, hm, hx⟩ := Option.map_eq_some_iff.1 h
      have hxs : xs.map (·.1) = zs.map fun z => (DataW.lit (.string z) : DataW H) := by
        have := congrArg Prod.fst hx
        simpa using this
      have hxl : xs.length = n := by simpa using Lib.mapM_length hm
      have hzl : zs.length = n := by
        have := congrArg List.length hxs
        simp at this
        omega
      apply List.ext_getElem?
      intro i
      by_cases hi : i < n
      · obtain ⟨b, hb, hf⟩ := Lib.mapM_at hm i i (by simp [hi])
        obtain ⟨s, hc, h1, _⟩ := DataW.trod_string he hf
        have h2 : cs[i]? = some (.string s) := by
          have := congrArg (·[0]?) hc
          simpa [List.getElem?_take, List.getElem?_drop] using this
        have h3 : (xs.map (·.1))[i]? = some (DataW.lit (.string s.data.toList) : DataW H) := by simp [hb, h1]
        rw [hxs] at h3
        simp only [List.getElem?_map, Option.map_eq_some_iff, DataW.lit.injEq, Lit.string.injEq] at h3
        obtain ⟨z', hz', rfl⟩ := h3
        simp [h2, hz']
      · rw [List.getElem?_eq_none (by omega), List.getElem?_eq_none (by simp; omega)]
    · cases h
/-- A variable of the list: what it holds. -/
theorem laid_mem {P : Program} {W : World} : ∀ {l : List (String × DataW Unit)} {ps : List MemPlace}, DataW.LaidVars P W l ps → ∀ {n : String} {d : DataW Unit}, (n, d) ∈ l →
    ∃ g t cs fuel p, P.globalNamed n = some g ∧ (P.globals[g]?).map (·.type) = some t ∧ W.var? P n = some cs ∧ DataW.trod (fun _ => ()) P W 0 (fun _ => true) false fuel t cs.toList = some (d, p)
  | [], _, _, _, _, hm => by simp at hm
  | (n', d') :: r, ps, h, n, d, hm => by
    obtain ⟨g, t, cs, fuel, p, q, h1, h2, h3, h4, h5, _⟩ := h
    rcases List.mem_cons.1 hm with e | hm
    · injection e with e1 e2
      subst e1 e2
      exact ⟨g, t, cs, fuel, p, h1, h2, h3, h4⟩
    · exact laid_mem h5 hm

def laid1 : List (String × DataW Unit) := [("drover/def.optional", Rows.laid_drover_def_optional)]
def laid4 : List (String × DataW Unit) := [("math/bits.deBruijn32tab", Rows.laid_math_bits_deBruijn32tab), ("math/bits.deBruijn64tab", Rows.laid_math_bits_deBruijn64tab), ("internal/strconv.uint64pow10", Rows.laid_internal_strconv_uint64pow10), ("drover/def.optional", Rows.laid_drover_def_optional)]
theorem tab_start1 (os : Os) (args : Array Value) : laidMetH Tryd.prog laid1 ((World.doorLaid Tryd.prog 400 os).forCall (fun _ _ => 0) ⟨#[], args, []⟩).memory :=
  laidMetH_of_parts3 (fuel := 8) (laidMet_of_run' 8 (by kernel_rfl) (by kernel_rfl)) (by kernel_rfl) (by kernel_rfl)
theorem tab_start4 (os : Os) (args : Array Value) : laidMetH Tryd.prog laid4 ((World.doorLaid Tryd.prog 400 os).forCall (fun _ _ => 0) ⟨#[], args, []⟩).memory :=
  laidMetH_of_parts3 (fuel := 8) (laidMet_of_run' 8 (by kernel_rfl) (by kernel_rfl)) (by kernel_rfl) (by kernel_rfl)
theorem opt_of_laid {W : World} {l : List (String × DataW Unit)} (h : laidMet Tryd.prog l W) (hm : ("drover/def.optional", Rows.laid_drover_def_optional) ∈ l) : OptAt W := by
  obtain ⟨ps, hv, _⟩ := h
  obtain ⟨g, t, cs, fuel, p, h1, h2, h3, h4⟩ := laid_mem hv hm
  have hN : Tryd.prog.globalNamed "drover/def.optional" = some 0 := by kernel_rfl
  have hT : (Tryd.prog.globals[0]?).map (·.type) = some 106 := by kernel_rfl
  obtain rfl := Option.some.inj (hN.symm.trans h1)
  obtain rfl := Option.some.inj (hT.symm.trans h2)
  have hc := cells_of_words (zs := [wRetry, wWait, wUndo, wPivot]) Tryd.underlying106 Tryd.underlying9 (by kernel_rfl) (by kernel_rfl) h4
  have hcell : ∀ i v, optWords[i]? = some v → W.cell? ⟨0, i, none⟩ = some v := fun i v hi => by
    rw [World.var?_cell hN h3 i]
    have e : cs.toList = optWords := hc
    rw [← Array.getElem?_toList, e]
    exact hi
  refine ⟨?_, fun j v hj => by rw [Nat.zero_add]; exact hcell j v hj⟩
  rcases Nat.lt_or_ge 0 W.heap.size with h0 | h0
  · exact h0
  · have h5 := hcell 0 _ rfl
    have h6 : W.heap[0]? = none := Array.getElem?_eq_none h0
    simp [World.cell?, h6] at h5
theorem pow_of_laid {W : World} {l : List (String × DataW Unit)} (h : laidMet Tryd.prog l W) (hm : ("internal/strconv.uint64pow10", Rows.laid_internal_strconv_uint64pow10) ∈ l) : Lib.TabIs Tryd.prog W "internal/strconv.uint64pow10" .u64 Lib.pow10Tab := by
  obtain ⟨ps, hv, _⟩ := h
  obtain ⟨g, t, cs, fuel, p, h1, h2, h3, h4⟩ := laid_mem hv hm
  have hN : Tryd.prog.globalNamed "internal/strconv.uint64pow10" = some 1 := by kernel_rfl
  have hT : (Tryd.prog.globals[1]?).map (·.type) = some (((Tryd.prog.globals[1]?).map (·.type)).getD 0) := by kernel_rfl
  obtain rfl := Option.some.inj (hN.symm.trans h1)
  have hU : ∀ t', (Tryd.prog.globals[1]?).map (·.type) = some t' → Tryd.prog.underlying t' = some (.array 20 102) ∧ Tryd.prog.cellsOf t' = 20 := by
    intro t' h'
    rw [hT] at h'
    obtain rfl := Option.some.inj h'
    exact ⟨by kernel_rfl, by kernel_rfl⟩
  obtain ⟨u1, u2⟩ := hU t h2
  have hc := Lib.cells_of_tab (zs := Lib.pow10Tab) (k := .u64) u1 Tryd.underlying102 (by kernel_rfl) u2 h4
  unfold Lib.TabIs
  rw [h3, ← hc]
theorem opt1 {W : World} (h : laidMetH Tryd.prog laid1 W) : OptAt W := by
  rw [MakeChecks.laidMetH_plain _ _ _ (by kernel_rfl)] at h
  exact opt_of_laid h (by simp [laid1])
theorem opt4 {W : World} (h : laidMetH Tryd.prog laid4 W) : OptAt W ∧ Lib.TabIs Tryd.prog W "internal/strconv.uint64pow10" .u64 Lib.pow10Tab := by
  rw [MakeChecks.laidMetH_plain _ _ _ (by kernel_rfl)] at h
  exact ⟨opt_of_laid h (by simp [laid4]), pow_of_laid h (by simp [laid4])⟩
end Go.Proofs.YtdahnjcoflifbaaDoor
/- Two definitions that are alike; one that is too long to be looked at. -/
namespace Go.Proofs.YtdahnjcoflifbaaDoor
open Go.RowKit

def longF (name : ByteArray) (l : List StepD) : Bool := decide (400 < name.size) || (decide (40 < l.length) || l.any fun s => decide (400 < s.name.size))
section
variable {w : World}
set_option maxHeartbeats 2000000 in
theorem same13_any {F G : Nat → Prop} {a1 a2 : ByteArray} {v v2 : Value} {l m : List StepD} (hl : StepsAt F w v l) (hm : StepsAt G w v2 m) :
    Calls Tryd.prog 18 #[.agg #[.string a1, v], .agg #[.string a2, v2]] w fun e w' => e = .returned (.bool (decide (a1 = a2 ∧ l = m))) ∧ Later w w' := by
  obtain ⟨A, c, rfl, h1, h2, _⟩ := FlatAt.shape hl
  obtain ⟨A2, c2, rfl, h3, h4, _⟩ := FlatAt.shape hm
  obtain ⟨n, hn⟩ : ∃ n, l.length = n := ⟨_, rfl⟩
  obtain ⟨n2, hn2⟩ : ∃ n2, m.length = n2 := ⟨_, rfl⟩
  rw [hn] at h1 hl ⊢
  rw [hn2] at h3 hm ⊢
  have hbw : Later w ((w.alloc (.cells #[.string a1, .slice A n c] 25 (0, 0))).alloc (.cells #[.string a2, .slice A2 n2 c2] 25 (0, 0))) := ((Below.refl _ _).alloc (Nat.le_refl _) _).alloc (by simp) _
  have CE := hide (Sd.equal_steps F G (.slice A n c) (.slice A2 n2 c2) l m _ (hl.kept (Kept.of_below hbw F)) (hm.kept (Kept.of_below hbw G)))
  have HBW := hide hbw
  clear hl hm hbw hn hn2 h1 h2 h3 h4
  by_cases ha : a1 = a2
  · subst ha
    have hs1 : (a1.toList == a1.toList) = true := by simp
    go_enter Tryd.func18, Tryd.ntmps18
    go_wp2_with (fail)
    refine CE.out.mono ?_
    rintro e w1 ⟨rfl, q, rfl⟩
    go_wp2
    go_ret
    exact ⟨ret_bool (by simp), HBW.out.trans (below_drewN _ _ _)⟩
  · have hs0 : (a1.toList == a2.toList) = false := by rw [Sd.str_eq]; simpa using ha
    have HE := hide ha
    clear ha
    go_enter Tryd.func18, Tryd.ntmps18
    go_wp2
    go_ret
    exact ⟨ret_bool (by simp [HE.out]), HBW.out⟩
set_option maxHeartbeats 2000000 in
theorem rsame13_any {F G : Nat → Prop} {a1 a2 : ByteArray} {v v2 : Value} {l m : List StepD} (hl : StepsAt F w v l) (hm : StepsAt G w v2 m) :
    Calls Tryd.prog 12 #[.agg #[.string a1, v], .agg #[.string a2, v2]] w fun e w' => e = .returned (.bool (decide (a1 = a2 ∧ l = m))) ∧ Later w w' := by
  obtain ⟨A, c, rfl, h1, h2, _⟩ := FlatAt.shape hl
  obtain ⟨A2, c2, rfl, h3, h4, _⟩ := FlatAt.shape hm
  obtain ⟨n, hn⟩ : ∃ n, l.length = n := ⟨_, rfl⟩
  obtain ⟨n2, hn2⟩ : ∃ n2, m.length = n2 := ⟨_, rfl⟩
  rw [hn] at h1 hl ⊢
  rw [hn2] at h3 hm ⊢
  have hbw : Later w ((w.alloc (.cells #[.string a1, .slice A n c] 25 (0, 0))).alloc (.cells #[.string a2, .slice A2 n2 c2] 25 (0, 0))) := ((Below.refl _ _).alloc (Nat.le_refl _) _).alloc (by simp) _
  have CE := hide (Sd.same_def F G a1 a2 (.slice A n c) (.slice A2 n2 c2) l m _ (hl.kept (Kept.of_below hbw F)) (hm.kept (Kept.of_below hbw G)))
  have HBW := hide hbw
  clear hl hm hbw hn hn2 h1 h2 h3 h4
  obtain ⟨q, hq⟩ : ∃ q, decide (a1 = a2 ∧ l = m) = q := ⟨_, rfl⟩
  rw [hq] at CE ⊢
  clear hq
  go_enter Tryd.func12, Tryd.ntmps12
  go_wp2_with (fail)
  refine CE.out.mono ?_
  rintro e w1 ⟨rfl, hl1⟩
  have HL := hide (HBW.out.trans hl1)
  clear hl1 CE
  go_wp2
  go_ret
  exact ⟨rfl, HL.out⟩

set_option maxHeartbeats 4000000 in
theorem long_any {F : Nat → Prop} {a : ByteArray} {v : Value} {l : List StepD} (hl : StepsAt F w v l) (hb : l.length ≤ 9223372036854775807) :
    Calls Tryd.prog 13 #[.agg #[.string a, v]] w fun e w' => e = .returned (.bool (longF a l)) ∧ Later w w' := by
  obtain ⟨A, c, rfl, h1, h2, _⟩ := FlatAt.shape hl
  obtain ⟨n, hn⟩ : ∃ n, l.length = n := ⟨_, rfl⟩
  rw [hn] at h1 hl hb ⊢
  obtain ⟨W1, hW1⟩ : ∃ W1, W1 = w.alloc (.cells #[.string a, .slice A n c] 25 (0, 0)) := ⟨_, rfl⟩
  have L1 : Hid (Later w W1) := by rw [hW1]; exact (Below.refl _ _).alloc (Nat.le_refl _) _
  have H := hide hl
  have HN := hide hn
  have HW1 := hide hW1.symm
  obtain ⟨Q, hQ⟩ : ∃ Q, longF a l = Q := ⟨_, rfl⟩
  rw [hQ]
  have HQ := hide hQ
  clear hl hn hW1 hQ h2
  by_cases ha : 400 < a.size
  · have hq : Q = true := by rw [← HQ.out]; unfold longF; simp [ha]
    subst hq
    have ha' : (400 : Int) < (a.size : Int) := by omega
    go_enter Tryd.func13, Tryd.ntmps13
    go_wp2
    rw [HW1.out]
    go_ret
    exact ⟨rfl, L1.out⟩
  · have ha' : ¬ (400 : Int) < (a.size : Int) := by omega
    by_cases hn4 : 40 < n
    · have hq : Q = true := by rw [← HQ.out]; unfold longF; rw [HN.out]; simp [hn4]
      subst hq
      have hn' : (40 : Int) < (n : Int) := by omega
      go_enter Tryd.func13, Tryd.ntmps13
      go_wp2
      rw [HW1.out]
      go_ret
      exact ⟨rfl, L1.out⟩
    · have hn' : ¬ (40 : Int) < (n : Int) := by omega
      have hq : Q = l.any fun s => decide (400 < s.name.size) := by rw [← HQ.out]; unfold longF; rw [HN.out]; simp [ha, hn4]
      have HQ2 := hide hq
      clear hq HQ
      go_enter Tryd.func13, Tryd.ntmps13
      go_wp2_with (fail)
      rw [HW1.out]
      go_loopw [18] (fun v wr => ∃ i : Nat, v = .int .i64 (i : Int) ∧ i ≤ n ∧ (l.take i).any (fun s => decide (400 < s.name.size)) = false ∧ Later W1 wr) (fun v _ => n - (intOf v).toNat)
      case atStart => exact ⟨0, rfl, by omega, by simp, Later.refl _⟩
      case round =>
        obtain ⟨i, rfl, hi, hall, hlat⟩ := hrel
        have HA := hide hall
        have HL := hide hlat
        clear hall hlat
        by_cases hlt : i < n
        · obtain ⟨s, b, off, c', hs', hvv, _, _, _, hr⟩ := StepsAt.at_ (StepsAt.kept H.out (Kept.of_below (L1.out.trans HL.out) F)) (i := i) (by rw [HN.out]; exact hlt)
          rw [HN.out] at hvv
          obtain ⟨rfl, rfl⟩ : A = some ⟨b, off, none⟩ ∧ c = c' := by injection hvv with e1 _ e3; exact ⟨e1, e3⟩
          obtain ⟨r0, r1, r2, r3, r4, r5⟩ := range_step hr
          have HP := hide hs'
          have HL2 := fun (o : Obj) => hide (HL.out.alloc (Below.size HL.out) o)
          clear hs' hvv hr
          by_cases hs4 : 400 < s.name.size
          · have hs5 : (400 : Int) < (s.name.size : Int) := by omega
            have hyes : Q = true := by
              rw [HQ2.out, List.any_eq_true]
              exact ⟨s, List.mem_of_getElem? HP.out, by simpa using hs4⟩
            subst hyes
            go_wp2
            go_ret
            exact ⟨rfl, L1.out.trans (HL2 _).out⟩
          · have hs5 : ¬ (400 : Int) < (s.name.size : Int) := by omega
            have HS4 := hide hs4
            clear hs4
            go_wp2
            go_roundw
            case rel =>
              refine ⟨i + 1, by go_num, by omega, ?_, (HL2 _).out⟩
              rw [List.take_add_one, HP.out, List.any_append, HA.out]
              simp [HS4.out]
            case measure => simp [intOf]; omega
        · have hno : Q = false := by
            rw [HQ2.out]
            have h1 := HA.out
            rwa [List.take_of_length_le (by have := HN.out; omega)] at h1
          subst hno
          go_wp2
          go_ret
          exact ⟨rfl, L1.out.trans HL.out⟩
end
end Go.Proofs.YtdahnjcoflifbaaDoor
/- The text of a definition, as data: it is that definition again. -/
namespace Go.Proofs.YtdahnjcoflifbaaDoor
open Go.RowKit

/-- The text of a step. -/
def stepT (s : StepD) : List UInt8 :=
  ([32, 115, 116, 101, 112, 32] ++ s.name.data.toList) ++ ([32, 115, 116, 117, 98, 32] ++ Lib.itoa s.stub) ++ ([32, 114, 101, 116, 114, 121, 32] ++ Lib.itoa s.retry) ++ ([32, 119, 97, 105, 116, 32] ++ Lib.itoa s.wait)
    ++ (if s.undo then [32, 117, 110, 100, 111] else []) ++ (if s.pivot then [32, 112, 105, 118, 111, 116] else []) ++ [59]
def printF (name : ByteArray) (steps : List StepD) : List UInt8 := ([115, 97, 103, 97, 32] ++ name.data.toList ++ [32, 123]) ++ steps.flatMap stepT ++ [32, 125]

/-- A token, and whether a blank stands ahead of it. -/
def pieceF (p : Bool × Tok) : List UInt8 := if p.1 then 32 :: p.2.s else p.2.s
def stepPs (s : StepD) : List (Bool × Tok) :=
  [(true, ⟨1, wStep, 0, 0⟩), (true, ⟨1, s.name.data.toList, 0, 0⟩), (true, ⟨1, wStub, 0, 0⟩), (true, ⟨2, Lib.itoa s.stub, s.stub.toNat, 0⟩), (true, ⟨1, wRetry, 0, 0⟩), (true, ⟨2, Lib.itoa s.retry, s.retry.toNat, 0⟩),
    (true, ⟨1, wWait, 0, 0⟩), (true, ⟨2, Lib.itoa s.wait, s.wait.toNat, 0⟩)] ++ (if s.undo then [(true, ⟨1, wUndo, 0, 0⟩)] else []) ++ (if s.pivot then [(true, ⟨1, wPivot, 0, 0⟩)] else []) ++ [(false, ⟨3, [59], 0, 0⟩)]
theorem stepPs_text (s : StepD) : (stepPs s).flatMap pieceF = stepT s := by
  unfold stepPs stepT
  cases s.undo <;> cases s.pivot <;> simp [pieceF]
def defPs (name : ByteArray) (steps : List StepD) : List (Bool × Tok) := [(true, ⟨1, name.data.toList, 0, 0⟩), (true, ⟨3, [123], 0, 0⟩)] ++ steps.flatMap stepPs ++ [(true, ⟨3, [125], 0, 0⟩)]
theorem defPs_text (name : ByteArray) (steps : List StepD) : wSaga ++ (defPs name steps).flatMap pieceF = printF name steps := by
  unfold defPs printF
  have h : ∀ l : List StepD, (l.flatMap stepPs).flatMap pieceF = l.flatMap stepT := by
    intro l
    induction l with
    | nil => rfl
    | cons s l ih => rw [List.flatMap_cons, List.flatMap_append, ih, stepPs_text, List.flatMap_cons]
  rw [List.flatMap_append, List.flatMap_append, h]
  simp [pieceF]

theorem goB_sign (k b : Nat) (h1 : 1 ≤ k) (h3 : k ≤ 3) (hb : kindB b = 3) : goB k b = false := by
  have hb2 : b = 123 ∨ b = 125 ∨ b = 59 := by
    have hs : signB b = true := by
      unfold kindB at hb
      cases h : signB b with
      | true => rfl
      | false =>
        rw [h] at hb
        repeat' split at hb
        all_goals first | omega | cases ‹false = true›
    simpa [signB] using hs
  have : k = 1 ∨ k = 2 ∨ k = 3 := by omega
  rcases this with rfl | rfl | rfl <;> rcases hb2 with rfl | rfl | rfl <;> decide

/-- What follows a token ends it. -/
theorem next_ends (ps : List (Bool × Tok)) (h : ∀ p ∈ ps, p.2.wf ∧ (p.1 = false → p.2.k = 3)) (k : Nat) (h1 : 1 ≤ k) (h3 : k ≤ 3) (c : UInt8) (u : List UInt8) (e : ps.flatMap pieceF = c :: u) : goB k c.toNat = false := by
  cases ps with
  | nil => simp at e
  | cons p ps =>
    obtain ⟨bl, t⟩ := p
    obtain ⟨hw, hk⟩ := h (bl, t) (by simp)
    obtain ⟨b, m, hs, hkb, _, _, _, _⟩ := hw
    rw [List.flatMap_cons] at e
    cases bl with
    | true =>
      simp only [pieceF, if_true, List.cons_append, List.cons.injEq] at e
      rw [← e.1]
      exact goB_blank k h1 h3
    | false =>
      simp only at hs
      simp only [pieceF, Bool.false_eq_true, if_false] at e
      rw [hs, List.cons_append, List.cons.injEq] at e
      rw [← e.1]
      exact goB_sign k _ h1 h3 (hkb.trans (hk rfl))
theorem back_pieces : ∀ (ps : List (Bool × Tok)) (a : Nat), (∀ p ∈ ps, p.2.wf ∧ (p.1 = false → p.2.k = 3)) → (toks (ps.flatMap pieceF) a).2 = none ∧ Alike (toks (ps.flatMap pieceF) a).1 (ps.map (·.2))
  | [], a, _ => by simp [toks_nil, Alike]
  | (bl, t) :: ps, a, h => by
    have hw := (h (bl, t) (by simp)).1
    have hr := fun p hp => h p (List.mem_cons_of_mem _ hp)
    obtain ⟨b, m, _, _, h1, h3, _⟩ := id hw
    have hn := next_ends ps hr t.k h1 h3
    rw [List.flatMap_cons]
    cases bl with
    | true =>
      have ih := back_pieces ps (a + 1 + t.s.length) hr
      simp only [pieceF, if_true, List.cons_append]
      rw [blank_step 32 (by decide), tok_step hw _ _ hn]
      unfold ahead
      simp only [ih.1]
      exact ⟨trivial, by have := ih.2; unfold Alike at *; simp [this]⟩
    | false =>
      have ih := back_pieces ps (a + t.s.length) hr
      simp only [pieceF, Bool.false_eq_true, if_false]
      rw [tok_step hw _ _ hn]
      unfold ahead
      simp only [ih.1]
      exact ⟨trivial, by have := ih.2; unfold Alike at *; simp [this]⟩

/-- A step of a definition that may be. -/
def stepOK (s : StepD) : Prop := nameF s.name.data.toList = true ∧ 1 ≤ s.stub ∧ s.stub ≤ 4 ∧ 0 ≤ s.retry ∧ s.retry ≤ 9 ∧ 1 ≤ s.wait ∧ s.wait ≤ 99
theorem stepBad_ok {s : StepD} (h : stepBad s = false) : stepOK s := by
  simp only [stepBad, outB, Bool.or_eq_false_iff, Bool.not_eq_false', decide_eq_false_iff_not] at h
  obtain ⟨h1, ⟨h2, h3⟩, ⟨h4, h5⟩, h6, h7⟩ := h
  exact ⟨h1, by omega, by omega, by omega, by omega, by omega, by omega⟩
theorem stepErr_ok {l : List StepD} {s : StepD} (h : stepErr l s = 0) : stepOK s := by
  unfold stepErr at h
  split at h
  · cases h
  · rename_i h2
    exact stepBad_ok (by simpa using h2)
theorem firstBad_ok : ∀ (r done : List StepD), (firstBad done r).2 = 0 → ∀ s ∈ r, stepOK s
  | [], _, _, s, h => by simp at h
  | x :: r, done, h, s, hs => by
    unfold firstBad at h
    split at h
    · rcases List.mem_cons.1 hs with rfl | hs
      · exact stepErr_ok ‹_›
      · exact firstBad_ok r _ h s hs
    · exact absurd h ‹_›
theorem checkF_ok {name : ByteArray} {steps : List StepD} (h : (checkF name steps).2 = 0) : nameF name.data.toList = true ∧ 1 ≤ steps.length ∧ steps.length ≤ 8 ∧ ∀ s ∈ steps, stepOK s := by
  unfold checkF at h
  split at h
  · cases h
  · rename_i hn
    simp only [Bool.or_eq_true, Bool.not_eq_eq_eq_not, Bool.not_true, decide_eq_true_eq, not_or, Bool.not_eq_false] at hn
    exact ⟨hn.1, by omega, by omega, firstBad_ok steps [] h⟩

theorem itoa_small (n : Nat) (h : n < 100) : ∃ b m, Lib.itoa (n : Int) = b :: m ∧ kindB b.toNat = 2 ∧ (∀ c ∈ m, goB 2 c.toNat = true) ∧ valF (b :: m) = n ∧ m.length ≤ 1 := by
  have e : Lib.itoa (n : Int) = Lib.decDigits n := by unfold Lib.itoa; rw [if_neg (by omega)]; simp
  rw [e]
  by_cases h10 : n < 10
  · rw [Lib.decDigits, dif_pos h10]
    have : ∀ n : Fin 10, kindB (UInt8.ofNat (48 + n.1)).toNat = 2 ∧ valF [UInt8.ofNat (48 + n.1)] = n.1 := by decide +kernel
    exact ⟨_, [], rfl, (this ⟨n, h10⟩).1, by simp, (this ⟨n, h10⟩).2, by simp⟩
  · rw [Lib.decDigits, dif_neg h10, Lib.decDigits, dif_pos (by omega)]
    have : ∀ n : Fin 100, kindB (UInt8.ofNat (48 + n.1 / 10)).toNat = 2 ∧ goB 2 (UInt8.ofNat (48 + n.1 % 10)).toNat = true ∧ valF [UInt8.ofNat (48 + n.1 / 10), UInt8.ofNat (48 + n.1 % 10)] = n.1 := by decide +kernel
    obtain ⟨a, b, c⟩ := this ⟨n, h⟩
    exact ⟨_, [_], rfl, a, by simpa using b, c, by simp⟩
theorem num_wf {z : Int} (h0 : 0 ≤ z) (h : z < 100) : (Tok.mk 2 (Lib.itoa z) z.toNat 0).wf := by
  obtain ⟨n, rfl⟩ := Int.eq_ofNat_of_zero_le h0
  obtain ⟨b, m, e, h1, h2, h3, _⟩ := itoa_small n (by omega)
  refine ⟨b, m, e, h1, by simp, by simp, h2, ?_⟩
  simp [e, h3]
theorem name_wf {l : List UInt8} (h : nameF l = true) : (Tok.mk 1 l 0 0).wf := by
  cases l with
  | nil => simp [nameF] at h
  | cons b r =>
    simp only [nameF, Bool.and_eq_true, decide_eq_true_eq, List.all_eq_true] at h
    exact ⟨b, r, rfl, by simp [kindB, h.2.1], by simp, by simp, fun c hc => by simpa [goB] using h.2.2 c hc, by simp⟩
theorem word_wf (l : List UInt8) (h : nameF l = true) : (Tok.mk 1 l 0 0).wf := name_wf h
theorem stepPs_wf {s : StepD} (h : stepOK s) : ∀ p ∈ stepPs s, p.2.wf ∧ (p.1 = false → p.2.k = 3) := by
  obtain ⟨h1, h2, h3, h4, h5, h6, h7⟩ := h
  have hs : (Tok.mk 3 [59] 0 0).wf := ⟨59, [], rfl, by decide, by simp, by simp, by simp, by simp⟩
  have n1 := num_wf (show 0 ≤ s.stub by omega) (by omega)
  have n2 := num_wf (show 0 ≤ s.retry by omega) (by omega)
  have n3 := num_wf (show 0 ≤ s.wait by omega) (by omega)
  intro p hp
  unfold stepPs at hp
  simp only [List.mem_append, List.mem_cons, List.not_mem_nil, or_false] at hp
  rcases hp with (((((rfl | rfl | rfl | rfl | rfl | rfl | rfl | rfl) | hp) | hp)) | rfl)
  · exact ⟨word_wf _ (by decide), by simp⟩
  · exact ⟨name_wf h1, by simp⟩
  · exact ⟨word_wf _ (by decide), by simp⟩
  · exact ⟨n1, by simp⟩
  · exact ⟨word_wf _ (by decide), by simp⟩
  · exact ⟨n2, by simp⟩
  · exact ⟨word_wf _ (by decide), by simp⟩
  · exact ⟨n3, by simp⟩
  · split at hp
    · simp only [List.mem_singleton] at hp
      subst hp
      exact ⟨word_wf _ (by decide), by simp⟩
    · simp at hp
  · split at hp
    · simp only [List.mem_singleton] at hp
      subst hp
      exact ⟨word_wf _ (by decide), by simp⟩
    · simp at hp
  · exact ⟨hs, by simp⟩
theorem defPs_wf {name : ByteArray} {steps : List StepD} (h : nameF name.data.toList = true) (hs : ∀ s ∈ steps, stepOK s) : ∀ p ∈ defPs name steps, p.2.wf ∧ (p.1 = false → p.2.k = 3) := by
  intro p hp
  unfold defPs at hp
  simp only [List.mem_append, List.mem_cons, List.not_mem_nil, or_false, List.mem_flatMap] at hp
  rcases hp with ((rfl | rfl) | ⟨s, h1, h2⟩) | rfl
  · exact ⟨name_wf h, by simp⟩
  · exact ⟨⟨123, [], rfl, by decide, by simp, by simp, by simp, by simp⟩, by simp⟩
  · exact stepPs_wf (hs s h1) p h2
  · exact ⟨⟨125, [], rfl, by decide, by simp, by simp, by simp, by simp⟩, by simp⟩

/-- A token but for its place. -/
def bare (t : Tok) : Nat × List UInt8 × Nat := (t.k, t.s, t.n)
theorem bare_cons {l : List Tok} {t : Tok} {p : List Tok} (h : l.map bare = (t :: p).map bare) : ∃ x l', l = x :: l' ∧ x.k = t.k ∧ x.s = t.s ∧ x.n = t.n ∧ l'.map bare = p.map bare := by
  cases l with
  | nil => simp at h
  | cons x l' =>
    simp only [List.map_cons, List.cons.injEq, bare, Prod.mk.injEq] at h
    exact ⟨x, l', rfl, h.1.1, h.1.2.1, h.1.2.2, h.2⟩
theorem is_just {x : Tok} {l : List Tok} {s : List UInt8} (h : x.s = s) : isP (justF s) ⟨x :: l, false⟩ = true := by simp [isP, justF, h]
theorem is_not {x : Tok} {l : List Tok} {s : List UInt8} (h : x.s ≠ s) : isP (justF s) ⟨x :: l, false⟩ = false := by simp [isP, justF, h]
theorem is_some {x : Tok} {l : List Tok} {k : Nat} (h : x.k = k) : isP (someF k) ⟨x :: l, false⟩ = true := by simp [isP, someF, h]
theorem must_yes {f : Tok → Bool} {x : Tok} {l : List Tok} (h : isP f ⟨x :: l, false⟩ = true) : mustP f ⟨x :: l, false⟩ = ⟨l, false⟩ := by simp [mustP, h, Rd.go]
theorem tok_yes {f : Tok → Bool} {x : Tok} {l : List Tok} (h : isP f ⟨x :: l, false⟩ = true) : tokP f ⟨x :: l, false⟩ = x := by simp [tokP, h]
theorem num_yes {s : List UInt8} {d : Nat} {x y : Tok} {l : List Tok} (hx : x.s = s) (hy : y.k = 2) : numP s d ⟨x :: y :: l, false⟩ = y.n ∧ numR s ⟨x :: y :: l, false⟩ = ⟨l, false⟩ := by
  have h1 := is_just (l := y :: l) hx
  have h2 := is_some (l := l) hy
  unfold numP numR
  rw [if_pos h1, if_pos h1]
  exact ⟨congrArg Tok.n (tok_yes h2), must_yes h2⟩
theorem numbers_eq {z : Int} (h : 0 ≤ z) : ((z.toNat : Nat) : Int) = z := Int.toNat_of_nonneg h

theorem step_back {l : List Tok} {s : StepD} (hs : stepOK s) {p : List Tok} (h : l.map bare = ((stepPs s).map (·.2) ++ p).map bare) :
    isP (justF wStep) ⟨l, false⟩ = true ∧ stepP (Rd.go ⟨l, false⟩) = s ∧ ∃ l', s8 (Rd.go ⟨l, false⟩) = ⟨l', false⟩ ∧ l'.map bare = p.map bare := by
  obtain ⟨_, h2, h3, h4, h5, h6, h7⟩ := hs
  obtain ⟨name, stub, retry, wait, undo, pivot⟩ := s
  simp only at h2 h3 h4 h5 h6 h7
  have hl : (stepPs ⟨name, stub, retry, wait, undo, pivot⟩).map (·.2) ++ p = ⟨1, wStep, 0, 0⟩ :: ⟨1, name.data.toList, 0, 0⟩ :: ⟨1, wStub, 0, 0⟩ :: ⟨2, Lib.itoa stub, stub.toNat, 0⟩ :: ⟨1, wRetry, 0, 0⟩ :: ⟨2, Lib.itoa retry, retry.toNat, 0⟩ ::
      ⟨1, wWait, 0, 0⟩ :: ⟨2, Lib.itoa wait, wait.toNat, 0⟩ :: ((if undo then [⟨1, wUndo, 0, 0⟩] else []) ++ ((if pivot then [⟨1, wPivot, 0, 0⟩] else []) ++ (⟨3, [59], 0, 0⟩ :: p))) := by cases undo <;> cases pivot <;> rfl
  rw [hl] at h
  clear hl
  obtain ⟨t1, l, rfl, k1, e1, _, h⟩ := bare_cons h
  obtain ⟨t2, l, rfl, k2, e2, _, h⟩ := bare_cons h
  obtain ⟨t3, l, rfl, k3, e3, _, h⟩ := bare_cons h
  obtain ⟨t4, l, rfl, k4, e4, n4, h⟩ := bare_cons h
  obtain ⟨t5, l, rfl, k5, e5, _, h⟩ := bare_cons h
  obtain ⟨t6, l, rfl, k6, e6, n6, h⟩ := bare_cons h
  obtain ⟨t7, l, rfl, k7, e7, _, h⟩ := bare_cons h
  obtain ⟨t8, l, rfl, k8, e8, n8, h⟩ := bare_cons h
  simp only at k1 e1 k2 e2 k3 e3 k4 e4 n4 k5 e5 k6 e6 n6 k7 e7 k8 e8 n8
  refine ⟨is_just e1, ?_⟩
  have hgo : Rd.go ⟨t1 :: t2 :: t3 :: t4 :: t5 :: t6 :: t7 :: t8 :: l, false⟩ = ⟨t2 :: t3 :: t4 :: t5 :: t6 :: t7 :: t8 :: l, false⟩ := rfl
  rw [hgo]
  have q1 : s1 ⟨t2 :: t3 :: t4 :: t5 :: t6 :: t7 :: t8 :: l, false⟩ = ⟨t3 :: t4 :: t5 :: t6 :: t7 :: t8 :: l, false⟩ := must_yes (is_some k2)
  have q2 : s2 ⟨t2 :: t3 :: t4 :: t5 :: t6 :: t7 :: t8 :: l, false⟩ = ⟨t4 :: t5 :: t6 :: t7 :: t8 :: l, false⟩ := by unfold s2; rw [q1]; exact must_yes (is_just e3)
  have q3 : s3 ⟨t2 :: t3 :: t4 :: t5 :: t6 :: t7 :: t8 :: l, false⟩ = ⟨t5 :: t6 :: t7 :: t8 :: l, false⟩ := by unfold s3; rw [q2]; exact must_yes (is_some k4)
  have q4 : s4 ⟨t2 :: t3 :: t4 :: t5 :: t6 :: t7 :: t8 :: l, false⟩ = ⟨t7 :: t8 :: l, false⟩ := by unfold s4; rw [q3]; exact (num_yes (d := 0) e5 k6).2
  have q5 : s5 ⟨t2 :: t3 :: t4 :: t5 :: t6 :: t7 :: t8 :: l, false⟩ = ⟨l, false⟩ := by unfold s5; rw [q4]; exact (num_yes (d := 0) e7 k8).2
  have q0 : tokP (someF 1) ⟨t2 :: t3 :: t4 :: t5 :: t6 :: t7 :: t8 :: l, false⟩ = t2 := tok_yes (is_some k2)
  have b1 : (tokP (someF 2) (s2 ⟨t2 :: t3 :: t4 :: t5 :: t6 :: t7 :: t8 :: l, false⟩)).n = stub.toNat := by rw [q2, tok_yes (is_some k4), n4]
  have b2 : numP wRetry 0 (s3 ⟨t2 :: t3 :: t4 :: t5 :: t6 :: t7 :: t8 :: l, false⟩) = retry.toNat := by rw [q3, (num_yes e5 k6).1, n6]
  have b3 : numP wWait 10 (s4 ⟨t2 :: t3 :: t4 :: t5 :: t6 :: t7 :: t8 :: l, false⟩) = wait.toNat := by rw [q4, (num_yes e7 k8).1, n8]
  unfold stepP s8 s7 s6
  rw [q0, b1, b2, b3, q5, e2, numbers_eq (by omega), numbers_eq (by omega), numbers_eq (by omega)]
  clear q0 q1 q2 q3 q4 q5 b1 b2 b3 hgo
  cases undo with
  | true =>
    replace h : l.map bare = (Tok.mk 1 wUndo 0 0 :: ((if pivot then [Tok.mk 1 wPivot 0 0] else []) ++ (Tok.mk 3 [59] 0 0 :: p))).map bare := h
    obtain ⟨t9, l, rfl, k9, e9, _, h⟩ := bare_cons h
    have i9 : isP (justF wUndo) ⟨t9 :: l, false⟩ = true := is_just e9
    have m9 : mayP (justF wUndo) ⟨t9 :: l, false⟩ = ⟨l, false⟩ := by simp [mayP, i9, Rd.go]
    rw [i9, m9]
    cases pivot with
    | true =>
      replace h : l.map bare = (Tok.mk 1 wPivot 0 0 :: Tok.mk 3 [59] 0 0 :: p).map bare := h
      obtain ⟨t10, l, rfl, k10, e10, _, h⟩ := bare_cons h
      obtain ⟨t11, l, rfl, k11, e11, _, h⟩ := bare_cons h
      have i10 : isP (justF wPivot) ⟨t10 :: t11 :: l, false⟩ = true := is_just e10
      have m10 : mayP (justF wPivot) ⟨t10 :: t11 :: l, false⟩ = ⟨t11 :: l, false⟩ := by simp [mayP, i10, Rd.go]
      rw [i10, m10]
      exact ⟨rfl, l, must_yes (is_just e11), h⟩
    | false =>
      replace h : l.map bare = (Tok.mk 3 [59] 0 0 :: p).map bare := h
      obtain ⟨t11, l, rfl, k11, e11, _, h⟩ := bare_cons h
      have i10 : isP (justF wPivot) ⟨t11 :: l, false⟩ = false := is_not (by rw [e11]; decide)
      have m10 : mayP (justF wPivot) ⟨t11 :: l, false⟩ = ⟨t11 :: l, false⟩ := by simp [mayP, i10]
      rw [i10, m10]
      exact ⟨rfl, l, must_yes (is_just e11), h⟩
  | false =>
    cases pivot with
    | true =>
      replace h : l.map bare = (Tok.mk 1 wPivot 0 0 :: Tok.mk 3 [59] 0 0 :: p).map bare := h
      obtain ⟨t10, l, rfl, k10, e10, _, h⟩ := bare_cons h
      obtain ⟨t11, l, rfl, k11, e11, _, h⟩ := bare_cons h
      have i9 : isP (justF wUndo) ⟨t10 :: t11 :: l, false⟩ = false := is_not (by rw [e10]; decide)
      have m9 : mayP (justF wUndo) ⟨t10 :: t11 :: l, false⟩ = ⟨t10 :: t11 :: l, false⟩ := by simp [mayP, i9]
      rw [i9, m9]
      have i10 : isP (justF wPivot) ⟨t10 :: t11 :: l, false⟩ = true := is_just e10
      have m10 : mayP (justF wPivot) ⟨t10 :: t11 :: l, false⟩ = ⟨t11 :: l, false⟩ := by simp [mayP, i10, Rd.go]
      rw [i10, m10]
      exact ⟨rfl, l, must_yes (is_just e11), h⟩
    | false =>
      replace h : l.map bare = (Tok.mk 3 [59] 0 0 :: p).map bare := h
      obtain ⟨t11, l, rfl, k11, e11, _, h⟩ := bare_cons h
      have i9 : isP (justF wUndo) ⟨t11 :: l, false⟩ = false := is_not (by rw [e11]; decide)
      have m9 : mayP (justF wUndo) ⟨t11 :: l, false⟩ = ⟨t11 :: l, false⟩ := by simp [mayP, i9]
      rw [i9, m9]
      have i10 : isP (justF wPivot) ⟨t11 :: l, false⟩ = false := is_not (by rw [e11]; decide)
      have m10 : mayP (justF wPivot) ⟨t11 :: l, false⟩ = ⟨t11 :: l, false⟩ := by simp [mayP, i10]
      rw [i10, m10]
      exact ⟨rfl, l, must_yes (is_just e11), h⟩

theorem steps_back : ∀ (steps : List StepD) (l : List Tok) (q : Tok) (p : List Tok), (∀ s ∈ steps, stepOK s) → q.s ≠ wStep → l.map bare = ((steps.flatMap stepPs).map (·.2) ++ q :: p).map bare →
    (stepsP ⟨l, false⟩).1.map (·.1) = steps ∧ ∃ l', (stepsP ⟨l, false⟩).2 = ⟨l', false⟩ ∧ l'.map bare = (q :: p).map bare
  | [], l, q, p, _, hq, h => by
    obtain ⟨x, l', rfl, _, e, _, _⟩ := bare_cons (by simpa using h)
    rw [stepsP_no (is_not (by rw [e]; exact hq))]
    exact ⟨rfl, _, rfl, by simpa using h⟩
  | s :: steps, l, q, p, hs, hq, h => by
    replace h : l.map bare = ((stepPs s).map (·.2) ++ ((steps.flatMap stepPs).map (·.2) ++ q :: p)).map bare := by rw [h]; simp
    obtain ⟨h1, h2, l', h3, h4⟩ := step_back (hs s (by simp)) h
    obtain ⟨i1, i2⟩ := steps_back steps l' q p (fun x hx => hs x (List.mem_cons_of_mem _ hx)) hq h4
    rw [stepsP_yes h1, h2, h3]
    exact ⟨by simp [i1], i2⟩

/-- The text of a definition that may be is that definition; if it is not too long. -/
theorem parse_back {name : ByteArray} {steps : List StepD} (h : (checkF name steps).2 = 0) :
    parseF (printF name steps) = if 400 < (printF name steps).length then (⟨#[]⟩, [], 0, 12) else (name, steps, 0, 0) := by
  obtain ⟨h1, _, _, h4⟩ := checkF_ok h
  have hwf := defPs_wf h1 h4
  have hw0 : (Tok.mk 1 wSaga 0 0).wf := word_wf _ (by decide)
  have hb := back_pieces (defPs name steps) (0 + wSaga.length) hwf
  have ht : toks (printF name steps) 0 = ahead [⟨1, wSaga, 0, 0⟩] (toks ((defPs name steps).flatMap pieceF) (0 + wSaga.length)) := by
    rw [← defPs_text]
    exact tok_step hw0 _ _ (next_ends _ hwf 1 (by omega) (by omega))
  have ht2 : (toks (printF name steps) 0).2 = none := by rw [ht, ahead_err]; exact hb.1
  have ht1 : (toks (printF name steps) 0).1 = ⟨1, wSaga, 0, 0⟩ :: (toks ((defPs name steps).flatMap pieceF) (0 + wSaga.length)).1 := by
    rw [ht]; unfold ahead; rw [hb.1]; rfl
  have hbare : (toks ((defPs name steps).flatMap pieceF) (0 + wSaga.length)).1.map bare = ((defPs name steps).map (·.2)).map bare := hb.2
  generalize (toks ((defPs name steps).flatMap pieceF) (0 + wSaga.length)).1 = l at ht1 hbare
  unfold parseF
  by_cases hl : 400 < (printF name steps).length
  · rw [if_pos hl]
    have ea : answer (printF name steps) = ([], 0, 12) := by unfold answer; rw [if_pos hl]
    rw [ea]
    rfl
  · rw [if_neg hl]
    have ea : answer (printF name steps) = (⟨1, wSaga, 0, 0⟩ :: l, 0, 0) := by unfold answer; rw [if_neg hl, ht2, ht1]
    rw [ea]
    replace hbare : l.map bare = (Tok.mk 1 name.data.toList 0 0 :: Tok.mk 3 [123] 0 0 :: ((steps.flatMap stepPs).map (·.2) ++ [Tok.mk 3 [125] 0 0])).map bare := by
      rw [hbare]
      simp [defPs]
    obtain ⟨t1, l1, rfl, k1, e1, _, hbare⟩ := bare_cons hbare
    obtain ⟨t2, l2, rfl, k2, e2, _, hbare⟩ := bare_cons hbare
    simp only at k1 e1 k2 e2
    have q1 : d1 (⟨1, wSaga, 0, 0⟩ :: t1 :: t2 :: l2) = ⟨t1 :: t2 :: l2, false⟩ := must_yes (is_just rfl)
    have q2 : d2 (⟨1, wSaga, 0, 0⟩ :: t1 :: t2 :: l2) = ⟨t2 :: l2, false⟩ := by unfold d2; rw [q1]; exact must_yes (is_some k1)
    have q3 : d3 (⟨1, wSaga, 0, 0⟩ :: t1 :: t2 :: l2) = ⟨l2, false⟩ := by unfold d3; rw [q2]; exact must_yes (is_just e2)
    obtain ⟨i1, l3, i2, i3⟩ := steps_back steps l2 ⟨3, [125], 0, 0⟩ [] h4 (by decide) hbare
    obtain ⟨t4, l4, rfl, k4, e4, _, i4⟩ := bare_cons i3
    have hl4 : l4 = [] := by simpa using i4
    subst hl4
    have qn : dName (⟨1, wSaga, 0, 0⟩ :: t1 :: t2 :: l2) = name := by
      unfold dName
      rw [q1, tok_yes (is_some k1), e1]
    have qs : dSteps (⟨1, wSaga, 0, 0⟩ :: t1 :: t2 :: l2) = steps := by
      unfold dSteps
      rw [q3]; exact i1
    have q5 : d5 (⟨1, wSaga, 0, 0⟩ :: t1 :: t2 :: l2) = ⟨[], false⟩ := by
      unfold d5 d4
      rw [q3, i2]; exact must_yes (is_just e4)
    have q6 : d6 (⟨1, wSaga, 0, 0⟩ :: t1 :: t2 :: l2) = ⟨[], false⟩ := by
      unfold d6
      rw [q5]; rfl
    rw [q6, qn, qs, h]
    simp
end Go.Proofs.YtdahnjcoflifbaaDoor
