/- The law droverlaw11.CoreNone is true at every act: a node that no call made does nothing. -/
import Derived.Test.YtaiegmhlgjogmaaGreatAlM1
import Derived.Test.YtaiegmhlgjogmaaGreatAlM2
import Derived.Test.YtaiegmhlgjogmaaGreatAlM3
import Derived.Test.YtaiegmhlgjogmaaGreatAlM4
import Derived.Test.YtaiegmhlgjogmaaGreatNoM5
import Derived.Test.YtaiegmhlgjogmaaGreatNoM6
import Derived.Test.YtaiegmhlgjogmaaGreatRows
import Derived.ProofKit
import Derived.OpenShut
import Derived.ShutString
import Derived.ChangeOld
/- The document's examples of package core. -/
namespace Go.Proofs.YtaiegmhlgjogmaaGreat
open Go.RowKit Go.Maps

/-- The operation, and what is sent. -/
def lop : OpD := ⟨0, 0, 0, ⟨#[]⟩, [], 7, 0, 0, false, false⟩
def lm1 : MsgD := { MsgD.zero with kind := 3, src := 1, dst := 2, num := 1, op := lop, incs := [0, 0, 0] }
def lm2 : MsgD := { MsgD.zero with kind := 4, src := 2, dst := 1, num := 1, incs := [0, 0, 0] }
theorem reach_110 : reachI [1, 1, 0] 1 3 = 1 := by
  unfold reachI
  rw [if_neg (by decide)]
  simp [falling, List.mergeSort, quorI, okN]
  decide
def la1 (iv : Value) : RepD := addLog (newR 1 3 iv) lop
def lb1 (iv iv2 : Value) : RepD := ledR (learnR (newR 2 3 iv) [0, 0, 0] iv2) lm1
def la2 (iv iv2 : Value) : RepD := ackedR (learnR (la1 iv) [0, 0, 0] iv2) lm2
theorem la1_msgs (iv : Value) : allM (la1 iv) (prepM (la1 iv) lop) = [lm1, signM (la1 iv) 3 (prepM (la1 iv) lop)] := rfl
theorem lb1_msg (iv iv2 : Value) : signM (lb1 iv iv2) 1 (okM (lb1 iv iv2)) = lm2 := rfl
theorem lb1_com (iv iv2 : Value) : (lb1 iv iv2).com = 0 := rfl
theorem lb1_leads (iv iv2 : Value) : leadsR (lb1 iv iv2) = false := by rfl
theorem la2_com (iv iv2 : Value) : (la2 iv iv2).com = 1 := by
  have e : acksL (ackedK (learnR (la1 iv) [0, 0, 0] iv2) lm2) = [1, 1, 0] := by rfl
  unfold la2 ackedR commitR
  simp only
  rw [e]
  have e2 : ((learnR (la1 iv) [0, 0, 0] iv2).log.length : Int) = 1 := rfl
  have e3 : (learnR (la1 iv) [0, 0, 0] iv2).n = 3 := rfl
  rw [e2, e3, reach_110]
  rfl
theorem la2_leads (iv iv2 : Value) : leadsR (la2 iv iv2) = true := by rfl
theorem comes_1 (iv : Value) : Comes (newR 2 3 iv) lm1 := ⟨rfl, by show (1 : Int) ≠ 2; decide, rfl, by intro n hn; simp [lm1, MsgD.zero] at hn; omega, rfl, by show I64 1; unfold I64; omega⟩
theorem comes_2 (iv : Value) : Comes (la1 iv) lm2 := ⟨rfl, by show (2 : Int) ≠ 1; decide, rfl, by intro n hn; simp [lm2, MsgD.zero] at hn; omega, rfl, by show I64 2; unfold I64; omega⟩
theorem fit_000 : Fit [0, 0, 0] := by
  intro x hx
  simp at hx
  omega

theorem two_of {l : List MsgV} (h : l.length = 2) : ∃ a b, l = [a, b] := by
  cases l with
  | nil => simp at h
  | cons a t =>
    have ht : t.length = 1 := by simpa using h
    obtain ⟨b, rfl⟩ := List.length_eq_one_iff.1 ht
    exact ⟨a, b, rfl⟩
theorem one_of {l : List MsgV} (h : l.length = 1) : ∃ a, l = [a] := List.length_eq_one_iff.1 h
theorem la1_prop (iv : Value) : propR (newR 1 3 iv) lop = la1 iv := by rfl
theorem prop_told {iv : Value} {c : Nat → Nat} {w w' : World} {e : Ending} (h : Proposed (newR 1 3 iv) lop c w e w') : ∃ v, SentC c [lm1, signM (la1 iv) 3 (prepM (la1 iv) lop)] w (.returned v) w' ∧ e = .returned (.tuple #[v, .int .i64 0]) := by
  unfold Proposed at h
  rw [if_neg (by show ¬ (true = false); decide), if_pos (by show 0 < 2000; decide)] at h
  obtain ⟨v, h1, h2⟩ := h
  refine ⟨v, ?_, h2⟩
  rw [← la1_msgs iv]
  exact h1
section
variable {col : Nat → Nat} {B r : Nat} {w : World} {p : RepP} {s o i : Value}
theorem prep_told {iv iv2 : Value} (h : RepAt col 10 B w r p (learnR (newR 2 3 iv) [0, 0, 0] iv2) 1) (hm : Lists (fun i => col i = 0) w lm1 s o i) :
    Calls Tryz.prog 108 #[.pointer (some ⟨p.s, 0, none⟩), .agg (lm1.cells s o i).toArray, .int .i64 1] w (Told 10 B r p col w (lb1 iv iv2) [lm2] 2) := by
  have e1 : leadI lm1.view (learnR (newR 2 3 iv) [0, 0, 0] iv2).n = lm1.src := by rfl
  have e2 : lm1.num ≤ ((takeR (setT (learnR (newR 2 3 iv) [0, 0, 0] iv2) 2) lm1).log.length : Int) := by
    have e3 : (takeR (setT (learnR (newR 2 3 iv) [0, 0, 0] iv2) 2) lm1).log.length = 1 := by rfl
    rw [e3]
    decide
  have h1 := hearprep_any h hm (by decide) e1 e2 (by decide)
  rw [← lb1_msg iv iv2]
  exact h1
theorem hear_told {iv iv2 : Value} (h : RepAt col 10 B w r p (learnR (newR 2 3 iv) lm1.incs iv2) 1) (hm : Lists (fun i => col i = 0) w lm1 s o i) :
    Calls Tryz.prog 57 #[.pointer (some ⟨p.s, 0, none⟩), .agg (lm1.cells s o i).toArray] w (Told 10 B r p col w (lb1 iv iv2) [lm2] 2) := by
  have e0 : lm1.incs = [0, 0, 0] := by rfl
  rw [e0] at h
  have e1 : follI (learnR (newR 2 3 iv) [0, 0, 0] iv2).phase (learnR (newR 2 3 iv) [0, 0, 0] iv2).view lm1.view = 1 := by rfl
  exact hear_3 h hm (by rfl) e1 (fun W hl => prep_told (h.later hl) (hm.kept (Kept.of_below hl _)))
theorem ack_told {iv iv2 : Value} (h : RepAt col 0 B w r p (learnR (la1 iv) [0, 0, 0] iv2) 1) (hm : Lists (fun i => col i = 0) w lm2 s o i) :
    Calls Tryz.prog 109 #[.pointer (some ⟨p.s, 0, none⟩), .agg (lm2.cells s o i).toArray, .int .i64 1] w (Told 0 B r p col w (la2 iv iv2) [] 2) := by
  have e1 : leadsR (learnR (la1 iv) [0, 0, 0] iv2) = true := by rfl
  have e2 : lm2.src = 2 := by rfl
  have e3 : (learnR (la1 iv) [0, 0, 0] iv2).n = 3 := by rfl
  exact hearok_any h hm e1 (by rw [e2, e3]; decide) (by decide)
theorem hear_acked {iv iv2 : Value} (h : RepAt col 0 B w r p (learnR (la1 iv) lm2.incs iv2) 1) (hm : Lists (fun i => col i = 0) w lm2 s o i) :
    Calls Tryz.prog 57 #[.pointer (some ⟨p.s, 0, none⟩), .agg (lm2.cells s o i).toArray] w (Told 0 B r p col w (la2 iv iv2) [] 2) := by
  have e0 : lm2.incs = [0, 0, 0] := by rfl
  rw [e0] at h
  have e1 : follI (learnR (la1 iv) [0, 0, 0] iv2).phase (learnR (la1 iv) [0, 0, 0] iv2).view lm2.view = 1 := by rfl
  exact hear_4 h hm (by rfl) e1 (fun W hl => ack_told (h.later hl) (hm.kept (Kept.of_below hl _)))
theorem hears_1 {iv : Value} (h : RepAt col 10 B w r p (newR 2 3 iv) 1) (hm : Lists (fun i => col i = 0) w lm1 s o i) :
    Calls Tryz.prog 25 #[.pointer (some ⟨r, 0, none⟩), .agg (lm1.cells s o i).toArray] w fun e w' => ∃ iv2, Told 10 B r p col w (lb1 iv iv2) [lm2] 2 e w' :=
  hears_any (Y := fun iv2 => lb1 iv iv2) (M := fun _ => [lm2]) (g' := 2) h hm (comes_1 iv) (by show (1 : Int) ≠ 3; decide) fit_000 (fun _ _ _ hR hL => hear_told hR hL)
theorem hears_2 {iv : Value} (h : RepAt col 0 B w r p (la1 iv) 1) (hm : Lists (fun i => col i = 0) w lm2 s o i) :
    Calls Tryz.prog 25 #[.pointer (some ⟨r, 0, none⟩), .agg (lm2.cells s o i).toArray] w fun e w' => ∃ iv2, Told 0 B r p col w (la2 iv iv2) [] 2 e w' :=
  hears_any (Y := fun iv2 => la2 iv iv2) (M := fun _ => []) (g' := 2) h hm (comes_2 iv) (by show (1 : Int) ≠ 3; decide) fit_000 (fun _ _ _ hR hL => hear_acked hR hL)
end

set_option maxHeartbeats 8000000 in
set_option maxRecDepth 100000 in
theorem lives_any (w : World) : Calls Tryz.prog 12 #[] w fun e w' => e = .returned (.bool true) ∧ Later w w' := by
  have C1 := hide (new_any (q := 0) (n := 3) (id := 1) (w := w) (col := fun _ => 0) (fun _ _ => rfl) (fun i e => by have e : 0 < (0 : Nat) ∧ (0 : Nat) ≤ 0 + 5 := e; omega) ⟨by decide, by decide⟩ ⟨by decide, by decide⟩)
  go_enter Tryz.func12, Tryz.ntmps12
  go_wp2_with (fail)
  refine C1.out.mono ?_
  rintro e w1 ⟨ra, pa, c1, iva, rfl, hma⟩
  have HMA := hide hma
  have C2 := hide (new_any (q := 10) (n := 3) (id := 2) (w := w1) (col := c1) hma.rep.fresh (made_free hma) ⟨by decide, by decide⟩ ⟨by decide, by decide⟩)
  clear hma C1
  go_wp2_with (fail)
  refine C2.out.mono ?_
  rintro e w2 ⟨rb, pb, c2, ivb, rfl, hmb⟩
  have T2 : Hid (Two w c2 w2 w.heap.size w1.heap.size ra rb pa pb (newR 1 3 iva) (newR 2 3 ivb) 1 1) := Two.made HMA.out hmb
  clear hmb HMA C2
  have C3 : Hid (Calls Tryz.prog 24 #[.pointer (some ⟨ra, 0, none⟩), .agg #[.int .i64 0, .int .i64 0, .int .i64 0, .string ⟨#[]⟩, .slice none 0 0, .int .i64 7, .int .i64 0, .int .i64 0, .bool false, .bool false]] w2 fun e w' => ∃ col', Since 0 w.heap.size w2 c2 col' w' ra pa (propR (newR 1 3 iva) lop) 1 ∧ Proposed (newR 1 3 iva) lop col' w2 e w') := propose_any (o := lop) (s := .slice none 0 0) T2.out.a (StepsAt.nil_ _ _) (by decide)
  go_wp2_with (fail)
  refine C3.out.mono ?_
  rintro e w3 ⟨c3, hs3, hp3⟩
  replace hp3 := prop_told hp3
  obtain ⟨v, ⟨v', ps, base, hv, hb, hf, hrow, hps⟩, rfl⟩ := hp3
  injection hv with hv
  subst hv
  have T3 : Hid (Two w c3 w3 w.heap.size w1.heap.size ra rb pa pb (la1 iva) (newR 2 3 ivb) 1 1) := T2.out.left (by rw [← la1_prop]; exact hs3)
  have hl2 : ps.length = 2 := by rw [← List.length_map (f := MsgV.m), hps]; rfl
  obtain ⟨⟨m1, s1, o1, i1⟩, p2, rfl⟩ : ∃ p1 p2, ps = [p1, p2] := two_of hl2
  obtain rfl : m1 = lm1 := (List.cons.inj hps).1
  obtain ⟨p', bb, off, c', hx, hv, _, hfb, hbl, hr, hli⟩ := hrow.msgs.at_ (k := 0) (by simp)
  obtain rfl := Option.some.inj hx
  obtain ⟨gb, cb, hv2, _, _⟩ := hrow.shape (by simp)
  rw [hv2] at hv
  injection hv with hv _ _
  injection hv with hv
  injection hv with hv1 hv3
  subst hv1 hv3 hv2
  have HR3 : Hid (w3.rangeAt gb 0 (lm1.cells s1 o1 i1)) := hr
  have HL3 : Hid (Lists (fun i => c3 i = 0) w3 lm1 s1 o1 i1) := hli.mono fun i _ e => hf i e
  have C4 := hide (hears_1 T3.out.b HL3.out)
  clear hs3 hx hr hli hrow hps hl2 hb hf hbl hfb C3
  simp only [List.length_cons, List.length_nil, Nat.zero_add, Nat.reduceAdd]
  go_wp2_with (refine wpList_load_mid (by rfl) 42 _ (by rfl) gb 0 (by rfl) _ _ HR3.out Tryz.underlying42 (by rfl) (by kernel_rfl) ?_)
  refine C4.out.mono ?_
  rintro e w4 ⟨iv2, c4, hs4, v4, ps, base4, rfl, hb, hf, hrow, hps⟩
  have T4 : Hid (Two w c4 w4 w.heap.size w1.heap.size ra rb pa pb (la1 iva) (lb1 ivb iv2) 1 2) := T3.out.right hs4
  have hl2 : ps.length = 1 := by rw [← List.length_map (f := MsgV.m), hps]; rfl
  obtain ⟨⟨m2, s2, o2, i2⟩, rfl⟩ : ∃ p1, ps = [p1] := one_of hl2
  obtain rfl : m2 = lm2 := (List.cons.inj hps).1
  obtain ⟨p', bb, off, c', hx, hv, _, hfb, hbl, hr, hli⟩ := hrow.msgs.at_ (k := 0) (by simp)
  obtain rfl := Option.some.inj hx
  obtain ⟨gb4, cb4, hv2, _, _⟩ := hrow.shape (by simp)
  rw [hv2] at hv
  injection hv with hv _ _
  injection hv with hv
  injection hv with hv1 hv3
  subst hv1 hv3 hv2
  have HR4 : Hid (w4.rangeAt gb4 0 (lm2.cells s2 o2 i2)) := hr
  have HL4 : Hid (Lists (fun i => c4 i = 0) w4 lm2 s2 o2 i2) := hli.mono fun i _ e => hf i e
  have k0 : w4.cell? ⟨gb4, 0, none⟩ = some (.int .i64 4) := HR4.out 0 (.int .i64 4) (by rfl)
  have C5 := hide (hears_2 T4.out.a HL4.out)
  clear hs4 hx hr hli hrow hps hl2 hb hf hbl hfb C4 HR3 HL3
  simp only [List.length_cons, List.length_nil, Nat.zero_add]
  go_wp2_with (refine wpList_load_mid (by rfl) 42 _ (by rfl) gb4 0 (by rfl) _ _ HR4.out Tryz.underlying42 (by rfl) (by kernel_rfl) ?_)
  refine C5.out.mono ?_
  rintro e w5 ⟨iv3, c5, hs5, v5, ps, base5, rfl, _⟩
  have T5 : Hid (Two w c5 w5 w.heap.size w1.heap.size ra rb pa pb (la2 iva iv3) (lb1 ivb iv2) 2 2) := T4.out.left hs5
  have D1 := hide (rcommitted_any T5.out.a)
  rw [la2_com] at D1
  have D2 := hide (rcommitted_any T5.out.b)
  rw [lb1_com] at D2
  have D3 := hide (rleads_any T5.out.a)
  rw [la2_leads] at D3
  clear hs5 C5 HR4 HL4 k0
  go_wp2_with (fail)
  refine D1.out.mono ?_
  rintro e v1 ⟨rfl, rfl⟩
  go_wp2_with (fail)
  refine D2.out.mono ?_
  rintro e v1 ⟨rfl, rfl⟩
  go_wp2_with (fail)
  refine D3.out.mono ?_
  rintro e w6 ⟨rfl, hl6⟩
  have T6 := hide (T5.out.on hl6)
  have D4 := hide (rleads_any T6.out.b)
  rw [lb1_leads] at D4
  clear D1 D2 D3 hl6
  go_wp2_with (fail)
  refine D4.out.mono ?_
  rintro e w7 ⟨rfl, hl7⟩
  have HL7 := hide hl7
  clear D4 hl7
  go_wp2
  go_ret
  exact ⟨rfl, T6.out.later.trans HL7.out⟩
end Go.Proofs.YtaiegmhlgjogmaaGreat
/- The walk over the law CoreNone: a node that no call made does nothing. -/
namespace Go.Proofs.YtaiegmhlgjogmaaGreat
open Go.RowKit Go.Maps

theorem field_n (a b c d e : Int) (w : World) : (Instr.field 76 (.agg #[.int .i64 a, .int .i64 b, .int .i64 c, .int .i64 d, .int .i64 e]) 1).run Tryz.prog w = .ok (.int .i64 b) w := by kernel_rfl
theorem index_none0 (x y : Option Addr) (w : World) : (Instr.index 71 (.agg #[.pointer x, .pointer y]) (.int .i64 0)).run Tryz.prog w = .ok (.pointer x) w := by kernel_rfl
theorem index_none1 (x y : Option Addr) (w : World) : (Instr.index 71 (.agg #[.pointer x, .pointer y]) (.int .i64 1)).run Tryz.prog w = .ok (.pointer y) w := by kernel_rfl
theorem Tryz.infoAct : (Tryz.prog.info? 44).map (fun i => (i.zero, i.size, i.bytes)) = some (some (.agg ActV.nil.cells.toArray), 45, 408) := by kernel_rfl

set_option maxHeartbeats 16000000 in
set_option maxRecDepth 100000 in
theorem law_none (a : ActV) (w : World) (ha : ActLists (· < w.heap.size) w a) (hw : a.wf) :
    Calls Tryz.prog 8 #[.agg a.cells.toArray] w fun e w' => e = .returned (.bool true) ∧ Below w.heap.size w w' := by
  obtain ⟨i0, hi, hz0, hz1, hz2⟩ := info_parts Tryz.infoAct
  obtain ⟨W, hW⟩ : ∃ W, W = w.alloc (.cells a.cells.toArray 44 (0, 0)) := ⟨_, rfl⟩
  have LB : Hid (Later w W) := by rw [hW]; exact (Below.refl _ _).alloc (Nat.le_refl _) _
  have XB : Hid (W.heap[w.heap.size]? = some (.cells a.cells.toArray 44 (0, 0))) := by rw [hW]; exact heap_alloc_new _ _
  obtain ⟨W2, hW2⟩ : ∃ W2, W2 = W.alloc (.cells a.cells.toArray 44 (0, 0)) := ⟨_, rfl⟩
  have L2 : Hid (Later w W2) := by rw [hW2]; exact LB.out.trans ((Below.refl _ _).alloc (Nat.le_refl _) _)
  have X2 : Hid (W2.heap[W.heap.size]? = some (.cells a.cells.toArray 44 (0, 0))) := by rw [hW2]; exact heap_alloc_new _ _
  have hsz : W.heap.size = w.heap.size + 1 := by rw [hW]; simp
  rw [hsz] at X2
  have LIVE : Hid (∀ w', Calls Tryz.prog 12 #[] w' fun e w'' => e = .returned (.bool true) ∧ Later w' w'') := lives_any
  have hone := ActV.one ha
  have CLi := hide (light_one X2.out ⟨ha.1.kept (Kept.of_below L2.out _), ha.2.kept (Kept.of_below L2.out _)⟩ hw)
  obtain ⟨k1, k2, k3⟩ := ha.1.cell
  have k4 : a.t.oneCell' = true := FlatAt.oneCell ha.2
  have HX0 : Hid (∀ w', Later W w' → w'.heap[w.heap.size]? = some (.cells a.cells.toArray 44 (0, 0))) := fun w' hl => (hl.block _ (lt_of_block XB.out)).trans XB.out
  have LW2 : Hid (Later W W2) := by rw [hW2]; exact (Below.refl _ _).alloc (Nat.le_refl _) _
  have HONE := hide hone
  have XBw := XB
  rw [hW] at XBw
  have hnz : ∀ (x : World), x.heap.size = x.heap.size := fun _ => rfl
  clear ha hw hone hnz hsz
  go_enter Tryz.func8, Tryz.ntmps8
  go_wp2_with (first
    | (refine wpList_load_box (by rfl) 44 _ (by rfl) w.heap.size 0 (by rfl) 44 _ XBw.out 45 _ Tryz.underlying44 (by rfl) (by kernel_rfl) a.cells (by rfl) (by rfl) ?_)
    | (refine wpList_buildSlice_one (by rfl) 22 44 _ (by rfl) i0 _ 45 Tryz.underlying22 hi hz0 hz1 (by decide) (by decide) a.cells.toArray (by rfl) (by rfl) ?_))
  rw [← hW, ← hW2]
  clear hW2 XBw
  refine CLi.out.mono ?_
  rintro e w3 ⟨⟨x, rfl⟩, hl3⟩
  have L3 : Hid (Later W w3) := LW2.out.trans hl3
  clear hW CLi hl3 X2 L2 LW2
  cases x with
  | false =>
    go_wp2_with (fail)
    refine (LIVE.out _).mono ?_
    rintro e w4 ⟨rfl, hl⟩
    have HL := hide hl
    clear hl
    go_wp2
    go_ret
    exact ⟨rfl, LB.out.trans (L3.out.trans HL.out)⟩
  | true =>
    obtain ⟨W4, hW4⟩ : ∃ W4, W4 = w3.alloc (.cells #[.pointer none] 70 (0, 0)) := ⟨_, rfl⟩
    have L4 : Hid (Later W W4) := by rw [hW4]; exact L3.out.trans ((Below.refl _ _).alloc (Nat.le_refl _) _)
    have XZ : Hid (W4.heap[w3.heap.size]? = some (.cells #[.pointer none] 70 (0, 0))) := by rw [hW4]; exact heap_alloc_new _ _
    go_wp2
    rw [← hW4]
    clear hW4
    go_loopw [14] (fun j wr => (j = .int .i64 0 ∨ j = .int .i64 1 ∨ j = .int .i64 2) ∧ Later W4 wr) (fun j _ => 3 - (Go.RowKit.intOf j).toNat)
    case atStart => exact ⟨.inl rfl, Below.refl _ _⟩
    case round =>
      obtain ⟨hj, hl⟩ := hrel
      have HL := hide hl
      have LW : Hid (Later W wr) := L4.out.trans hl
      clear hl
      rcases hj with rfl | rfl | rfl
      · have NN : Hid (NoNode wr (.pointer none)) := .inl rfl
        have q0 : wr.cell? ⟨w.heap.size, 35, none⟩ = some (.int .i64 a.o.kind) := box_cell (HX0.out wr LW.out) 35 _ (by rfl)
        have q1 : wr.cell? ⟨w.heap.size, 36, none⟩ = some (.int .i64 a.o.client) := box_cell (HX0.out wr LW.out) 36 _ (by rfl)
        have q2 : wr.cell? ⟨w.heap.size, 37, none⟩ = some (.int .i64 a.o.request) := box_cell (HX0.out wr LW.out) 37 _ (by rfl)
        have q3 : wr.cell? ⟨w.heap.size, 38, none⟩ = some (.string a.o.name) := box_cell (HX0.out wr LW.out) 38 _ (by rfl)
        have q4 : wr.cell? ⟨w.heap.size, 39, none⟩ = some (a.t) := box_cell (HX0.out wr LW.out) 39 _ (by rfl)
        have q5 : wr.cell? ⟨w.heap.size, 40, none⟩ = some (.int .i64 a.o.saga) := box_cell (HX0.out wr LW.out) 40 _ (by rfl)
        have q6 : wr.cell? ⟨w.heap.size, 41, none⟩ = some (.int .i64 a.o.step) := box_cell (HX0.out wr LW.out) 41 _ (by rfl)
        have q7 : wr.cell? ⟨w.heap.size, 42, none⟩ = some (.int .i64 a.o.try_) := box_cell (HX0.out wr LW.out) 42 _ (by rfl)
        have q8 : wr.cell? ⟨w.heap.size, 43, none⟩ = some (.bool a.o.back) := box_cell (HX0.out wr LW.out) 43 _ (by rfl)
        have q9 : wr.cell? ⟨w.heap.size, 44, none⟩ = some (.bool a.o.good) := box_cell (HX0.out wr LW.out) 44 _ (by rfl)
        have C1 := hide (npropose_no (o := a.o) NN.out k4)
        have ixA := index_none0
        have ixB := index_none1
        unfold OpD.cells at C1
        go_wp2_with (fail)
        refine C1.out.mono ?_
        rintro e w5 ⟨rfl, hl5⟩
        have NN5 := hide (NN.out.later hl5)
        have LW5 : Hid (Later W w5) := LW.out.trans hl5
        have L5 : Hid (Later W4 w5) := HL.out.trans hl5
        have C2 := hide (nleads_no NN5.out)
        clear C1 hl5 q0 q1 q2 q3 q4 q5 q6 q7 q8 q9
        go_wp2_with (fail)
        refine C2.out.mono ?_
        rintro e v1 ⟨rfl, rfl⟩
        have HX5 := hide (HX0.out w5 LW5.out)
        have C3 := hide (nhear_no (m := a.p.m) NN5.out k1 k2 k3)
        clear C2
        go_wp2_with (refine wpList_val rfl (by rfl) (exec_load_box 42 _ (by rfl) w.heap.size 1 (by rfl) 44 _ HX5.out 34 _ Tryz.underlying42 (by rfl) (by kernel_rfl) (a.p.m.cells a.p.s a.p.o a.p.i) (by rfl) (by rfl)) ?_)
        refine C3.out.mono ?_
        rintro e w6 ⟨rfl, hl6⟩
        have NN6 := hide (NN5.out.later hl6)
        have L6 : Hid (Later W4 w6) := L5.out.trans hl6
        have D1 := hide (ntick_no NN6.out)
        have D2 := hide (ntake_no NN6.out)
        have D3 := hide (nlog_no NN6.out)
        have D4 := hide (nincs_no NN6.out)
        have D5 := hide (ncommitted_no NN6.out)
        have D6 := hide (nstatus_no NN6.out)
        clear hl6 C3 HX5
        go_wp2_with (fail)
        refine D1.out.mono ?_
        rintro e v1 ⟨rfl, rfl⟩
        go_wp2_with (fail)
        refine D2.out.mono ?_
        rintro e v1 ⟨rfl, rfl⟩
        go_wp2_with (fail)
        refine D3.out.mono ?_
        rintro e v1 ⟨rfl, rfl⟩
        go_wp2_with (fail)
        refine D4.out.mono ?_
        rintro e v1 ⟨rfl, rfl⟩
        go_wp2_with (fail)
        refine D5.out.mono ?_
        rintro e v1 ⟨rfl, rfl⟩
        go_wp2_with (fail)
        refine D6.out.mono ?_
        rintro e w7 ⟨rfl, hl7⟩
        have L7 : Hid (Later W4 w7) := L6.out.trans hl7
        have fn := field_n
        clear hl7 D1 D2 D3 D4 D5 D6
        go_wp2
        go_roundw
        case rel => exact ⟨.inr (.inl (by go_num)), L7.out⟩
        case measure => simp [Go.RowKit.intOf]
      · have NN : Hid (NoNode wr (.pointer (some ⟨w3.heap.size, 0, none⟩))) := .inr ⟨_, rfl, (HL.out.block _ (lt_of_block XZ.out)).trans XZ.out⟩
        have q0 : wr.cell? ⟨w.heap.size, 35, none⟩ = some (.int .i64 a.o.kind) := box_cell (HX0.out wr LW.out) 35 _ (by rfl)
        have q1 : wr.cell? ⟨w.heap.size, 36, none⟩ = some (.int .i64 a.o.client) := box_cell (HX0.out wr LW.out) 36 _ (by rfl)
        have q2 : wr.cell? ⟨w.heap.size, 37, none⟩ = some (.int .i64 a.o.request) := box_cell (HX0.out wr LW.out) 37 _ (by rfl)
        have q3 : wr.cell? ⟨w.heap.size, 38, none⟩ = some (.string a.o.name) := box_cell (HX0.out wr LW.out) 38 _ (by rfl)
        have q4 : wr.cell? ⟨w.heap.size, 39, none⟩ = some (a.t) := box_cell (HX0.out wr LW.out) 39 _ (by rfl)
        have q5 : wr.cell? ⟨w.heap.size, 40, none⟩ = some (.int .i64 a.o.saga) := box_cell (HX0.out wr LW.out) 40 _ (by rfl)
        have q6 : wr.cell? ⟨w.heap.size, 41, none⟩ = some (.int .i64 a.o.step) := box_cell (HX0.out wr LW.out) 41 _ (by rfl)
        have q7 : wr.cell? ⟨w.heap.size, 42, none⟩ = some (.int .i64 a.o.try_) := box_cell (HX0.out wr LW.out) 42 _ (by rfl)
        have q8 : wr.cell? ⟨w.heap.size, 43, none⟩ = some (.bool a.o.back) := box_cell (HX0.out wr LW.out) 43 _ (by rfl)
        have q9 : wr.cell? ⟨w.heap.size, 44, none⟩ = some (.bool a.o.good) := box_cell (HX0.out wr LW.out) 44 _ (by rfl)
        have C1 := hide (npropose_no (o := a.o) NN.out k4)
        have ixA := index_none0
        have ixB := index_none1
        unfold OpD.cells at C1
        go_wp2_with (fail)
        refine C1.out.mono ?_
        rintro e w5 ⟨rfl, hl5⟩
        have NN5 := hide (NN.out.later hl5)
        have LW5 : Hid (Later W w5) := LW.out.trans hl5
        have L5 : Hid (Later W4 w5) := HL.out.trans hl5
        have C2 := hide (nleads_no NN5.out)
        clear C1 hl5 q0 q1 q2 q3 q4 q5 q6 q7 q8 q9
        go_wp2_with (fail)
        refine C2.out.mono ?_
        rintro e v1 ⟨rfl, rfl⟩
        have HX5 := hide (HX0.out w5 LW5.out)
        have C3 := hide (nhear_no (m := a.p.m) NN5.out k1 k2 k3)
        clear C2
        go_wp2_with (refine wpList_val rfl (by rfl) (exec_load_box 42 _ (by rfl) w.heap.size 1 (by rfl) 44 _ HX5.out 34 _ Tryz.underlying42 (by rfl) (by kernel_rfl) (a.p.m.cells a.p.s a.p.o a.p.i) (by rfl) (by rfl)) ?_)
        refine C3.out.mono ?_
        rintro e w6 ⟨rfl, hl6⟩
        have NN6 := hide (NN5.out.later hl6)
        have L6 : Hid (Later W4 w6) := L5.out.trans hl6
        have D1 := hide (ntick_no NN6.out)
        have D2 := hide (ntake_no NN6.out)
        have D3 := hide (nlog_no NN6.out)
        have D4 := hide (nincs_no NN6.out)
        have D5 := hide (ncommitted_no NN6.out)
        have D6 := hide (nstatus_no NN6.out)
        clear hl6 C3 HX5
        go_wp2_with (fail)
        refine D1.out.mono ?_
        rintro e v1 ⟨rfl, rfl⟩
        go_wp2_with (fail)
        refine D2.out.mono ?_
        rintro e v1 ⟨rfl, rfl⟩
        go_wp2_with (fail)
        refine D3.out.mono ?_
        rintro e v1 ⟨rfl, rfl⟩
        go_wp2_with (fail)
        refine D4.out.mono ?_
        rintro e v1 ⟨rfl, rfl⟩
        go_wp2_with (fail)
        refine D5.out.mono ?_
        rintro e v1 ⟨rfl, rfl⟩
        go_wp2_with (fail)
        refine D6.out.mono ?_
        rintro e w7 ⟨rfl, hl7⟩
        have L7 : Hid (Later W4 w7) := L6.out.trans hl7
        have fn := field_n
        clear hl7 D1 D2 D3 D4 D5 D6
        go_wp2
        go_roundw
        case rel => exact ⟨.inr (.inr (by go_num)), L7.out⟩
        case measure => simp [Go.RowKit.intOf]
      · go_wp2_with (fail)
        refine (LIVE.out _).mono ?_
        rintro e w5 ⟨rfl, hl⟩
        have HL5 := hide hl
        clear hl
        go_wp2
        go_ret
        exact ⟨rfl, LB.out.trans (LW.out.trans HL5.out)⟩
end Go.Proofs.YtaiegmhlgjogmaaGreat
/- From what a row says of arguments that came in to what the walks are told of them. -/
namespace Go.Proofs.YtaiegmhlgjogmaaGreat
open Go.RowKit Go.WideShapes

section
variable {H : Type} {enc : TypeId × Value → H} {W : World}
theorem trod_array2 {P : Program} {t e : TypeId} {fuel : Nat} {c0 c1 : Value} {base : Nat} {spare : Nat → Bool} {held : Bool} {x : DataW H × List MemPlace} (ht : P.underlying t = some (.array 2 e)) (hce : P.cellsOf e = 1)
    (h : DataW.trod enc P W base spare held fuel t [c0, c1] = some x) :
    ∃ y0 y1 n, x = (.agg [y0.1, y1.1], y0.2 ++ y1.2) ∧ DataW.trod enc P W base spare held n e [c0] = some y0 ∧ DataW.trod enc P W base spare held n e [c1] = some y1 := by
  cases fuel with
  | zero => simp [DataW.trod] at h
  | succ n =>
    unfold DataW.trod at h
    rw [ht] at h
    have r2 : List.range 2 = [0, 1] := rfl
    simp [r2, hce] at h
    obtain ⟨_, h⟩ := h
    cases h0 : DataW.trod enc P W base spare held n e [c0] with
    | none => simp [h0] at h
    | some y0 =>
      cases h1 : DataW.trod enc P W base spare held n e [c1] with
      | none => simp [h0, h1] at h
      | some y1 =>
        simp [h0, h1] at h
        exact ⟨y0, y1, n, h.symm, h0, h1⟩
set_option maxRecDepth 100000 in
theorem arg_pair {v : Value} {d : DataW H} {p : List MemPlace} {base : Nat} (hv : Value.okWide Tryz.prog W .any base 81 v) (h : DataW.Trod enc Tryz.prog W 0 (fun _ => true) true 81 v d p) :
    ∃ U V : Nat, v = .agg #[.int .u64 (U : Int), .int .u64 (V : Int)] ∧ U < 18446744073709551616 ∧ V < 18446744073709551616 := by
  simp only [Value.okWide, Tryz.underlying81] at hv
  obtain ⟨cs, rfl, hsz, _⟩ := hv
  have hsz : cs.size = 2 := hsz
  obtain ⟨fuel, hf⟩ := h
  rcases cs with ⟨l⟩
  match l, hsz with
  | [c0, c1], _ =>
    obtain ⟨y0, y1, n, _, h0, h1⟩ := trod_array2 Tryz.underlying81 (by kernel_rfl) hf
    obtain ⟨a, ha, _, wa⟩ := DataW.trod_int Tryz.underlying48 h0
    obtain ⟨b, hb, _, wb⟩ := DataW.trod_int Tryz.underlying48 h1
    have ba := bounds_u64 wa
    have bb := bounds_u64 wb
    simp only [List.cons.injEq, and_true] at ha hb
    subst ha hb
    obtain ⟨U, rfl⟩ := Int.eq_ofNat_of_zero_le ba.1
    obtain ⟨V, rfl⟩ := Int.eq_ofNat_of_zero_le bb.1
    exact ⟨U, V, rfl, by omega, by omega⟩
set_option maxRecDepth 100000 in
theorem arg_ops {A : Option Addr} {len cap : Nat} {d : DataW H} {p : List MemPlace} (h : DataW.Trod enc Tryz.prog W 0 (fun _ => true) true 39 (.slice A len cap) d p) (hs : Sm 39 d) : ∃ l : List OpD, OpsAt (· < W.heap.size) W (.slice A len cap) l ∧ ∀ o ∈ l, o.wf := by
  obtain ⟨fuel, hf⟩ := h
  exact open_ops (n := fuel) (x := (d, p)) hf hs
end
end Go.Proofs.YtaiegmhlgjogmaaGreat
/- From what a row says of an act of package core's laws to what the walks are told of it. -/
namespace Go.Proofs.YtaiegmhlgjogmaaGreat
open Go.RowKit Go.WideShapes

section
variable {H : Type} {enc : TypeId × Value → H} {W : World}
set_option maxRecDepth 100000 in
theorem open_act {n : Nat} {cs : List Value} {x : DataW H × List MemPlace} (h : Rd enc W n 44 cs x) (hs : Sm 44 x.1) :
    ∃ a : ActV, cs = a.cells ∧ ActLists (· < W.heap.size) W a ∧ a.wf := by
  obtain ⟨m, hl, hf⟩ := open_fields Tryz.underlying44 h hs
  have hl : cs.length = 45 := hl
  cases cs with
  | nil => simp at hl
  | cons c0 r =>
    have hr : r.length = 44 := by simpa using hl
    obtain ⟨y0, g0, s0⟩ := hf 0 _ rfl
    have g0 : Rd enc W m 3 [c0] y0 := (congrArg (fun q => DataW.trod enc Tryz.prog W 0 (fun _ => true) true m 3 q) (show ((c0 :: r).drop 0).take (Tryz.prog.cellsOf 3) = [c0] from by rw [show Tryz.prog.cellsOf 3 = 1 from by kernel_rfl]; rfl)).symm.trans g0
    obtain ⟨a0, e0, _⟩ := open_int1 Tryz.underlying3 g0
    obtain ⟨y1, g1, s1⟩ := hf 1 _ rfl
    have g1 : Rd enc W m 42 (r.take 34) y1 := (congrArg (fun q => DataW.trod enc Tryz.prog W 0 (fun _ => true) true m 42 q) (show ((c0 :: r).drop 1).take (Tryz.prog.cellsOf 42) = r.take 34 from by rw [show Tryz.prog.cellsOf 42 = 34 from by kernel_rfl]; rfl)).symm.trans g1
    obtain ⟨mm, s, o, i, e1, l1, wf1⟩ := open_msg g1 s1
    obtain ⟨y2, g2, s2⟩ := hf 2 _ rfl
    have g2 : Rd enc W m 33 (r.drop 34) y2 := (congrArg (fun q => DataW.trod enc Tryz.prog W 0 (fun _ => true) true m 33 q) (show ((c0 :: r).drop 35).take (Tryz.prog.cellsOf 33) = r.drop 34 from by rw [show Tryz.prog.cellsOf 33 = 10 from by kernel_rfl, List.drop_succ_cons, List.take_of_length_le (by simp [hr])])).symm.trans g2
    obtain ⟨p, e2, st, wf2⟩ := open_op g2 s2
    refine ⟨⟨a0, ⟨mm, s, o, i⟩, p.1, p.2⟩, ?_, ⟨l1, st⟩, wf1, wf2⟩
    have hsplit : r = r.take 34 ++ r.drop 34 := (List.take_append_drop 34 r).symm
    rw [e0, hsplit, e1, e2]
    rfl
theorem arg_act {cs : Array Value} {d : DataW H} {p : List MemPlace} (h : DataW.Trod enc Tryz.prog W 0 (fun _ => true) true 44 (.agg cs) d p) (hs : Sm 44 d) : ∃ a : ActV, cs = a.cells.toArray ∧ ActLists (· < W.heap.size) W a ∧ a.wf := by
  obtain ⟨fuel, hf⟩ := h
  obtain ⟨q, e, hl⟩ := open_act (n := fuel) (x := (d, p)) hf hs
  refine ⟨q, ?_, hl⟩
  have e2 : cs.toList = q.cells := e
  rw [← e2]
end
theorem law_none1 (a : ActV) (w : World) (h : ActLists (· < w.heap.size) w a ∧ a.wf) :
    Calls Tryz.prog 8 #[.agg a.cells.toArray] w fun e w' => e = .returned (.bool true) ∧ Below w.heap.size w w' := law_none a w h.1 h.2
end Go.Proofs.YtaiegmhlgjogmaaGreat
namespace Go.Proofs.YtaiegmhlgjogmaaGreat
open Go.ChangeShapes Go.WideShapes Go.ChangeAt Go.RowKit

theorem coreNone_lawKnobs : ownKnob Tryz.prog.godebug = none := by kernel_rfl
theorem coreNone_allLaid : laidOutB Tryz.prog = true := by kernel_rfl

set_option maxRecDepth 100000 in
set_option maxHeartbeats 1000000 in
theorem coreNone_lifted (os : Os) (started : os.Started) (H : Type) (enc : TypeId × Value → H) :
    ReturnsInHanded {} Tryz.checked os 8 .any (Rows.coreNoneSpec.pre6 enc Tryz.prog Tryz.f8 Rows.coreNoneRow.domain false) (Rows.coreNoneSpec.post enc Tryz.prog Tryz.f8 false true false false) := by
  refine returnsInHanded_of_change_sized (C := Tryz.checked) coreNone_lawKnobs started (by kernel_rfl) Tryz.func8
    (ChangeSpec.witness6 (enc := enc) (C := Tryz.checked) false ⟨#[], #[.agg ActV.nil.cells.toArray], []⟩ 8 (by kernel_rfl) (by kernel_rfl) (by kernel_rfl) (by kernel_rfl)) ?_
  intro W base args ds gs before hval0 hW hcnd hsz _
  have hval : ∀ (j : Nat) t v, Tryz.f8.params[j]? = some t → args[j]? = some v → Value.okWide Tryz.prog W .any base t v := hval0
  have hW' := hW
  obtain ⟨p, q, hA0, hV, rfl, _, _⟩ := hW
  have hA : DataW.TrodAll enc Tryz.prog W 0 (fun _ => true) true Tryz.f8.params.toList args.toList ds p := hA0
  rw [Tryz.params8] at hA hval
  obtain ⟨v0, vs0, d0, ds0, p0, q0, hargs, rfl, rfl, h0, r0⟩ := trodAll_cons hA
  obtain ⟨rfl, rfl, rfl⟩ := trodAll_nil r0
  obtain rfl : args = #[v0] := by cases args; simp_all
  obtain ⟨rfl, rfl⟩ := trodVars_none hV
  have k0 := h0
  have lt0 : ∀ x ∈ p0, x.block < W.heap.size := by obtain ⟨m, hm⟩ := k0; exact DataW.trod_lt m _ _ _ hm
  have s0 : Sm 44 d0 := sm_of hsz (j := 0) rfl rfl
  obtain ⟨cs0, rfl, _⟩ := okWide_struct Tryz.underlying44 (hval 0 44 v0 rfl rfl)
  obtain ⟨a0, rfl, wf0⟩ := arg_act h0 s0
  clear hA0 hval0
  refine (law_none1 a0 W wf0).mono fun e W' ⟨he, bel⟩ => ?_
  subst he
  exact ⟨_, rfl, _, _, _, [], _, [], hW', trodAll_mk1 (shut_bool Tryz.underlying4 _), (trodAll_cons_mk (Below.trod coreNone_allLaid (by kernel_rfl) (of_decide_eq_true (by kernel_rfl)) k0 bel lt0) trodAll_mk0), rfl, bel.frame _, fun h => by cases h⟩

theorem coreNone_over : Rows.coreNoneRow.holds Tryz.pinned (OpenSpec.ofChange Rows.coreNoneSpec) :=
  OpenClaim.holds_of_wide 8 Tryz.f8 rfl rfl rfl rfl rfl rfl rfl ⟨rfl, rfl, rfl, rfl, rfl⟩ rfl rfl rfl rfl rfl (by kernel_rfl) Tryz.func8 (by kernel_rfl)
    (of_decide_eq_true (by kernel_rfl)) (by unfold Func.isWrapper; first | (rw [if_pos (by decide +kernel)]; kernel_rfl) | (rw [if_neg (by decide +kernel)]; exact ⟨rfl, rfl⟩))
    (fun os started H enc _ => coreNone_lifted os started H enc)

theorem coreNone_holds : Rows.CoreNoneSaid := coreNone_over
#print axioms coreNone_holds
end Go.Proofs.YtaiegmhlgjogmaaGreat
