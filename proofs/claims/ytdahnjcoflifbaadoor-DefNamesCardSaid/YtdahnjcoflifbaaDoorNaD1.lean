/- Whatever definition and numbers come in: DefNames returns true and changes no argument. Conditions: the package-level table of package def starts as the program's text lays it; each argument takes up what the row allows. -/
import Derived.Test.YtdahnjcoflifbaaDoorBaseD1
import Derived.Test.YtdahnjcoflifbaaDoorBaseD2
import Derived.Test.YtdahnjcoflifbaaDoorBaseD3
import Derived.Deep.CutBlock
import Derived.Deep.DeepCutAuto
import Derived.RegionTactic
import Derived.BigRegion
import Derived.Test.YtdahnjcoflifbaaDoorCards
import Derived.Test.YtdahnjcoflifbaaDoorTie
import Derived.SevenTiedAt
import Derived.ShutString
import Derived.ChangeOld
import Derived.ChangeMaps5
/- A name that comes twice; a number that may not be. -/
namespace Go.Proofs.YtdahnjcoflifbaaDoor
open Go.RowKit

theorem firstBad_go {l : List StepD} : ∀ (j : Nat), (∀ i s, i < j → l[i]? = some s → stepErr (l.take i) s = 0) → j ≤ l.length → firstBad [] l = firstBad (l.take j) (l.drop j)
  | 0, _, _ => by simp
  | j + 1, h, hj => by
    have ih := firstBad_go j (fun i s hi hs => h i s (by omega) hs) (by omega)
    have hx : l[j]? = some l[j] := List.getElem?_eq_getElem (by omega)
    rw [ih, firstBad_at hx, h j _ (by omega) hx, if_pos rfl]
theorem firstBad_hit {l : List StepD} {j : Nat} {s : StepD} (h : ∀ i t, i < j → l[i]? = some t → stepErr (l.take i) t = 0) (hs : l[j]? = some s) (he : stepErr (l.take j) s ≠ 0) : firstBad [] l = (j + 1, stepErr (l.take j) s) := by
  have hj := (List.getElem?_eq_some_iff.1 hs).1
  rw [firstBad_go j h (by omega), firstBad_at hs, if_neg he]
theorem firstBad_all {l : List StepD} (h : (firstBad [] l).2 = 0) : ∀ i s, l[i]? = some s → stepErr (l.take i) s = 0 := by
  intro i
  induction i using Nat.strongRecOn with
  | ind i ih =>
    intro s hs
    by_cases he : stepErr (l.take i) s = 0
    · exact he
    · rw [firstBad_hit (fun k t hk ht => ih k hk t ht) hs he] at h
      exact absurd h he
theorem check_all {name : ByteArray} {l : List StepD} (h : (checkF name l).2 = 0) : (firstBad [] l).2 = 0 ∧ ∀ m : List StepD, m.length = l.length → checkF name m = firstBad [] m := by
  obtain ⟨h1, h2, h3, _⟩ := checkF_ok h
  have hm : ∀ m : List StepD, m.length = l.length → checkF name m = firstBad [] m := fun m hm => by
    unfold checkF
    rw [if_neg]
    simp only [h1, Bool.not_true, Bool.false_or, Bool.or_eq_true, decide_eq_true_eq, not_or]
    omega
  exact ⟨by rw [← hm l rfl]; exact h, hm⟩
/-- The name of an elder step given to a later one. -/
theorem check_twice {name : ByteArray} {l : List StepD} {a b : Nat} {sa sb : StepD} (h : (checkF name l).2 = 0) (hab : a < b) (ha : l[a]? = some sa) (hb : l[b]? = some sb) : checkF name (l.set b { sb with name := sa.name }) = (b + 1, 9) := by
  obtain ⟨h1, h2⟩ := check_all h
  have hbl := (List.getElem?_eq_some_iff.1 hb).1
  have hall := firstBad_all h1
  have hoa := stepErr_ok (hall a sa ha)
  have hob := stepErr_ok (hall b sb hb)
  have ht : ∀ i, i ≤ b → (l.set b { sb with name := sa.name }).take i = l.take i := fun i hi => List.take_set_of_le hi
  have herr : stepErr (l.take b) { sb with name := sa.name } = 9 := by
    obtain ⟨n1, n2, n3, n4, n5, n6, n7⟩ := hob
    have hbad : stepBad { sb with name := sa.name } = false := by
      simp only [stepBad, outB, Bool.or_eq_false_iff, Bool.not_eq_false', decide_eq_false_iff_not]
      exact ⟨hoa.1, ⟨by omega, by omega⟩, ⟨by omega, by omega⟩, by omega, by omega⟩
    have hnm : namedB (l.take b) { sb with name := sa.name } = true := by
      unfold namedB
      rw [List.any_eq_true]
      refine ⟨sa, ?_, by simp⟩
      exact List.mem_of_getElem? (i := a) (by rw [List.getElem?_take_of_lt hab]; exact ha)
    unfold stepErr
    rw [if_neg (by simp [hbad]), if_pos (by simp [hnm])]
  have hA : ∀ i t, i < b → (l.set b { sb with name := sa.name })[i]? = some t → stepErr ((l.set b { sb with name := sa.name }).take i) t = 0 := fun i t hi hti => by
    rw [ht i (by omega)]
    rw [List.getElem?_set_ne (by omega)] at hti
    exact hall i t hti
  have hE : stepErr ((l.set b { sb with name := sa.name }).take b) { sb with name := sa.name } = 9 := by rw [ht b (Nat.le_refl _), herr]
  rw [h2 _ (by simp), firstBad_hit (s := { sb with name := sa.name }) hA (by simp [hbl]) (by rw [hE]; omega), hE]
/-- And then a number of the elder one that may not be. -/
theorem check_stub {name : ByteArray} {l : List StepD} {a b : Nat} {sa sb : StepD} (h : (checkF name l).2 = 0) (hab : a < b) (ha : l[a]? = some sa) (_ : l[b]? = some sb) : checkF name ((l.set b { sb with name := sa.name }).set a { sa with stub := 0 }) = (a + 1, 2) := by
  obtain ⟨h1, h2⟩ := check_all h
  have hal := (List.getElem?_eq_some_iff.1 ha).1
  have hall := firstBad_all h1
  have ht : ∀ i, i ≤ a → ((l.set b { sb with name := sa.name }).set a { sa with stub := 0 }).take i = l.take i := fun i hi => by
    rw [List.take_set_of_le hi, List.take_set_of_le (by omega)]
  have herr : stepErr (l.take a) { sa with stub := 0 } = 2 := by
    unfold stepErr
    rw [if_pos]
    simp [stepBad, outB]
  have hA : ∀ i t, i < a → ((l.set b { sb with name := sa.name }).set a { sa with stub := 0 })[i]? = some t → stepErr (((l.set b { sb with name := sa.name }).set a { sa with stub := 0 }).take i) t = 0 := fun i t hi hti => by
    rw [ht i (by omega)]
    rw [List.getElem?_set_ne (by omega), List.getElem?_set_ne (by omega)] at hti
    exact hall i t hti
  have hE : stepErr (((l.set b { sb with name := sa.name }).set a { sa with stub := 0 }).take a) { sa with stub := 0 } = 2 := by rw [ht a (Nat.le_refl _), herr]
  rw [h2 _ (by simp), firstBad_hit (s := { sa with stub := 0 }) hA (by simp [hal]) (by rw [hE]; omega), hE]
end Go.Proofs.YtdahnjcoflifbaaDoor
/- DefNames. -/
namespace Go.Proofs.YtdahnjcoflifbaaDoor
open Go.RowKit

theorem run_append_gen {P : Program} {w : World} (base : Nat) (t ty e : TypeId) (i : TypeInfo) (z : Value) (k bytes : Nat) (ht : P.underlying t = some (.slice e)) (hi : P.info? e = some i) (hz : i.zero = some z)
    (hsize : i.size = k) (hby : i.bytes = bytes) (hzs : z.cells.size = k) (hk : 0 < k)
    (v : Value) (n : Nat) (xs : List Value) (hown : w.ownsRow base e k v n xs)
    (F : Nat → Prop) (A : Option Addr) (m c : Nat) (ys : List Value) (hl : FlatAt F w k (.slice A m c) m ys) (hroom : n + m ≤ maxLen) (hbytes : (n + m) * bytes ≤ 140737488355328) (hbase : base ≤ w.heap.size) :
    ∃ v' w', (Builtin.append_ #[t, t] ty #[v, .slice A m c]).run P w = .ok v' w' ∧ w'.ownsRow base e k v' (n + m) (xs ++ ys) ∧ w.grownBy w' v.ownBlock :=
  run_append_flat (P := P) w base t ty e i z k bytes ht hi hz hsize hby hzs hk v n xs hown F A m c ys hl hroom hbytes hbase
section
variable {P : Program} {w : World} {op : Oper} {a : Act} {K : Act → World → Prop} {Q : Exit → Act → World → Prop}
theorem wp_append_gen (s x : Operand) (t : TypeId) (ho : op.op = .call { callee := .builtin .append, args := #[s, x], argTypes := #[t, t] })
    (base : Nat) (e : TypeId) (i : TypeInfo) (z : Value) (k bytes : Nat) (ht : P.underlying t = some (.slice e)) (hi : P.info? e = some i) (hz : i.zero = some z)
    (hsize : i.size = k) (hby : i.bytes = bytes) (hzs : z.cells.size = k) (hk : 0 < k)
    (v : Value) (n : Nat) (xs : List Value) (hs : a.eval s = v) (hown : w.ownsRow base e k v n xs)
    (F : Nat → Prop) (A : Option Addr) (m c : Nat) (ys : List Value) (hx : a.eval x = .slice A m c) (hl : FlatAt F w k (.slice A m c) m ys) (hroom : n + m ≤ maxLen) (hbytes : (n + m) * bytes ≤ 140737488355328) (hbase : base ≤ w.heap.size)
    (h : ∀ v' w', w'.ownsRow base e k v' (n + m) (xs ++ ys) → w.grownBy w' v.ownBlock → K (a.put op.dst v') w') : op.wp P a w K Q := by
  obtain ⟨v', w', hr, h2, h3⟩ := run_append_gen (P := P) (w := w) base t op.type e i z k bytes ht hi hz hsize hby hzs hk v n xs hown F A m c ys hl hroom hbytes hbase
  unfold Oper.wp execOp
  simp only [ho, resolve, invoke, builtin, Sem.run_bind, Sem.run_pure, Result.andThen_ok, List.map_toArray, List.map_cons, List.map_nil, hs, hx, hr]
  exact h v' w' h2 h3
theorem run_buildSlice_zero (t e : TypeId) (i : TypeInfo) (ht : P.underlying t = some (.slice e)) (hi : P.info? e = some i) :
    (Instr.buildSlice t 0 #[]).run P w = .ok (.slice (some ⟨w.heap.size, 0, none⟩) 0 0) (w.alloc (.cells #[] e (0, 0))) := by
  simp [Instr.buildSlice, run_underlying ht, sizeOf, typeInfo, hi, Instr.fill, newRow]
  congr 2
  exact Array.ext (by simp) (fun i h1 _ => by simp at h1)
theorem owns_empty (w : World) (e k B : Nat) (hB : B ≤ w.heap.size) : (w.alloc (.cells #[] e (0, 0))).ownsRow B e k (.slice (some ⟨w.heap.size, 0, none⟩) 0 0) 0 [] :=
  ⟨by simp, .inr ⟨w.heap.size, 0, #[], rfl, hB, heap_alloc_new w _, Nat.le_refl _, by unfold maxLen; omega, by simp, by simp⟩⟩
end
theorem wp_empty_steps {w : World} {op : Oper} {a : Act} {K : Act → World → Prop} {Q : Exit → Act → World → Prop} (B : Nat) (hB : B ≤ w.heap.size) (ho : op.op = .buildSlice 23 0 #[])
    (h : ∀ q w', w'.ownsRow B 41 6 (.slice (some ⟨q, 0, none⟩) 0 0) 0 [] → Later w w' → K (a.put op.dst (.slice (some ⟨q, 0, none⟩) 0 0)) w') : op.wp Tryd.prog a w K Q := by
  obtain ⟨i0, hi, _⟩ := info_parts info_step
  have hr := run_buildSlice_zero (P := Tryd.prog) (w := w) 23 41 i0 Tryd.underlying23 hi
  unfold Oper.wp
  simp only [execOp, ho, List.map_toArray, List.map_nil, Sem.run_bind, Sem.run_pure, hr, Result.andThen_ok]
  exact h _ _ (owns_empty w _ 6 B hB) ((Below.refl _ _).alloc (Nat.le_refl _) _)
theorem pre_below (B : Nat) : Pre (Below B) := ⟨fun w => Below.refl B w, Below.trans⟩
/-- A cell of one step written. -/
theorem steps_set : ∀ (l : List StepD) (i j : Nat) (s s' : StepD) (v : Value), l[i]? = some s → j < 6 → s'.cells = s.cells.set j v → (l.flatMap StepD.cells).set (i * 6 + j) v = (l.set i s').flatMap StepD.cells
  | [], i, j, s, s', v, h, _, _ => by simp at h
  | x :: r, 0, j, s, s', v, h, hj, hs => by
    simp at h
    subst h
    rw [List.flatMap_cons, List.set_cons_zero, List.flatMap_cons, hs, Nat.zero_mul, Nat.zero_add, List.set_append_left _ _ (by rw [x.len]; exact hj)]
  | x :: r, i + 1, j, s, s', v, h, hj, hs => by
    have ih := steps_set r i j s s' v (by simpa using h) hj hs
    rw [List.flatMap_cons, List.set_cons_succ, List.flatMap_cons, ← ih, List.set_append_right _ _ (by rw [x.len]; omega), x.len, show (i + 1) * 6 + j - 6 = i * 6 + j from by omega]
/-- What a definition of the call's own is, and where. -/
structure NRel (W : World) (y q : Nat) (name : ByteArray) (n c : Nat) (l : List StepD) (wr : World) : Prop where
  db : DefBox y name (.slice (some ⟨q, 0, none⟩) n c) wr
  row : wr.ownsRow W.heap.size 41 6 (.slice (some ⟨q, 0, none⟩) n c) n (l.flatMap StepD.cells)
  len : l.length = n
  lat : Later W wr
theorem NRel.later {W wr w' : World} {y q n c : Nat} {name : ByteArray} {l : List StepD} (h : NRel W y q name n c l wr) (hl : Later wr w') : NRel W y q name n c l w' :=
  ⟨(Below.block hl y (lt_of_block h.db)).trans h.db, own_later h.row hl, h.len, h.lat.trans hl⟩
theorem NRel.steps {W wr : World} {y q n c : Nat} {name : ByteArray} {l : List StepD} (h : NRel W y q name n c l wr) : StepsAt (W.heap.size ≤ ·) wr (.slice (some ⟨q, 0, none⟩) n c) l := by
  have := h.row
  rw [← h.len] at this ⊢
  exact StepRow.flat this
theorem NRel.set {W wr : World} {y q n c i j : Nat} {name : ByteArray} {l : List StepD} {s s' : StepD} {v : Value} (h : NRel W y q name n c l wr) (hi : l[i]? = some s) (hj : j < 6) (hs : s'.cells = s.cells.set j v) : NRel W y q name n c (l.set i s') (wr.setCell ⟨q, i * 6 + j, none⟩ v) := by
  obtain ⟨h1, h2⟩ := h.row.stored (i * 6 + j) v
  have hq := h.row.lt q rfl
  refine ⟨?_, ?_, by rw [List.length_set]; exact h.len, h.lat.grown h2 (Below.size h.lat) fun k e => by have := Option.some.inj e; omega⟩
  · exact (h2.block y (lt_of_block h.db) (apart_own h.row h.db (by decide))).trans h.db
  · rw [← steps_set l i j s s' v hi hj hs]
    exact h1
theorem NRel.cell {W wr : World} {y q n c i : Nat} {name : ByteArray} {l : List StepD} {s : StepD} (h : NRel W y q name n c l wr) (hi : l[i]? = some s) : wr.rangeAt q (i * 6) s.cells ∧ ∀ k, wr.frozen? ⟨q, k, none⟩ = false := by
  obtain ⟨t, b, off, c', ht, hv, _, _, _, hr⟩ := StepsAt.at_ h.steps (i := i) (List.getElem?_eq_some_iff.1 hi).1
  rw [hi] at ht
  obtain rfl := Option.some.inj ht
  have e1 : q = b ∧ 0 = off := by injection hv with e _ _; injection e with e; injection e with e1 e2 _; exact ⟨e1, e2⟩
  obtain ⟨rfl, rfl⟩ := e1
  obtain ⟨cs, hc⟩ := own_type h.row rfl
  exact ⟨by rwa [Nat.zero_add] at hr, fun k => frozen_of_row wr q k _ _ hc⟩

section
variable {w : World}
set_option maxHeartbeats 8000000 in
set_option maxRecDepth 100000 in
theorem law_names {F : Nat → Prop} {name : ByteArray} {v : Value} {l : List StepD} {V1 V2 : Nat} (hl : StepsAt F w v l) (hV1 : V1 < 18446744073709551616) (hV2 : V2 < 18446744073709551616) (ho : OptAt w) :
    Calls Tryd.prog 8 #[.agg #[.string name, v], .int .u64 (V1 : Int), .int .u64 (V2 : Int)] w fun e w' => e = .returned (.bool true) ∧ Later w w' := by
  obtain ⟨A, cap, rfl, hc1, hc2, _⟩ := FlatAt.shape hl
  obtain ⟨n, hn⟩ : ∃ n, l.length = n := ⟨_, rfl⟩
  rw [hn] at hl hc1 ⊢
  obtain ⟨W1, hW1⟩ : ∃ W1, W1 = w.alloc (.cells #[.string name, .slice A n cap] 25 (0, 0)) := ⟨_, rfl⟩
  obtain ⟨x, hx⟩ : ∃ x, x = w.heap.size := ⟨_, rfl⟩
  have X1 : Hid (DefBox x name (.slice A n cap) W1) := by rw [hW1, hx]; exact heap_alloc_new w _
  have L1 : Hid (Later w W1) := by rw [hW1]; exact (Below.refl _ _).alloc (Nat.le_refl _) _
  have CLV : Hid (∀ W, Later w W → Calls Tryd.prog 9 #[] W fun e w' => e = .returned (.bool true) ∧ Later W w') := fun W h => lives_any (ho.later h)
  have CK := hide (check_any (w := W1) (name := name) (steps := l) (by rw [← hn] at hl; exact (hn ▸ StepsAt.kept hl (Kept.of_below L1.out _) : StepsAt F W1 (.slice A n cap) l)))
  obtain ⟨c1, hc1'⟩ : ∃ c, (checkF name l).1 = c := ⟨_, rfl⟩
  obtain ⟨c2, hc2'⟩ : ∃ c, (checkF name l).2 = c := ⟨_, rfl⟩
  rw [hc1', hc2'] at CK
  have HC2 := hide hc2'
  have H := hide hl
  have HN := hide hn
  have HW1 := hide hW1.symm
  have HX := hide hx.symm
  clear hl hn hW1 hx hc1' hc2' ho
  go_enter Tryd.func8, Tryd.ntmps8
  go_wp2_with (fail)
  have hw := HW1.out
  have hxx := HX.out
  simp only [hw, hxx]
  clear hw hxx
  refine CK.out.mono ?_
  rintro e w2 ⟨rfl, hl2⟩
  have L2 := hide (L1.out.trans hl2)
  have X2 : Hid (DefBox x name (.slice A n cap) w2) := (Below.block hl2 x (lt_of_block X1.out)).trans X1.out
  have HL2 := hide (H.out.kept (Kept.of_below L2.out _))
  obtain ⟨d0, d1, df⟩ := X2.out.cells
  have hx2 : x < w2.heap.size := lt_of_block X2.out
  clear hl2 CK X1
  by_cases hE : c2 = 0
  · have hb : ((c2 : Int) != 0) = false := by rw [hE]; rfl
    by_cases hn2 : n < 2
    · have hn2' : (n : Int) < 2 := by omega
      clear hE
      go_wp2_with (fail)
      refine (CLV.out _ L2.out).mono ?_
      rintro e w99 ⟨rfl, hl99⟩
      have L99 := hide (L2.out.trans hl99)
      clear hl99
      go_wp2_with (fail)
      go_ret
      exact ⟨rfl, L99.out⟩
    · have hn2' : ¬ (n : Int) < 2 := by omega
      have hchk : (checkF name l).2 = 0 := by rw [HC2.out]; exact hE
      have HCHK := hide hchk
      have hn8 : n ≤ 8 := by have := (checkF_ok hchk).2.2.1; rw [HN.out] at this; exact this
      obtain ⟨a, ha⟩ : ∃ a, V1 % n = a := ⟨_, rfl⟩
      obtain ⟨b, hb'⟩ : ∃ b, V2 % n = b := ⟨_, rfl⟩
      have han : a < n := by rw [← ha]; exact Nat.mod_lt _ (by omega)
      have hbn : b < n := by rw [← hb']; exact Nat.mod_lt _ (by omega)
      have hae : (V1 : Int) % (n : Int) = (a : Int) := by rw [← ha, Int.natCast_emod]
      have hbe : (V2 : Int) % (n : Int) = (b : Int) := by rw [← hb', Int.natCast_emod]
      have HAE := hide hae
      have HBE := hide hbe
      have HTA : Hid ((V1 : Int).tmod (n : Int) = (a : Int)) := by show _ = _; rw [Int.tmod_eq_emod_of_nonneg (by omega)]; exact hae
      have HTB : Hid ((V2 : Int).tmod (n : Int) = (b : Int)) := by show _ = _; rw [Int.tmod_eq_emod_of_nonneg (by omega)]; exact hbe
      have HU : Hid (IntKind.u64.wrap (n : Int) = (n : Int)) := IntWalk.u64_in _ (by omega)
      have HWA : Hid (IntKind.i64.wrap (a : Int) = (a : Int)) := IntWalk.i64_in _ (by omega)
      have HWB : Hid (IntKind.i64.wrap (b : Int) = (b : Int)) := IntWalk.i64_in _ (by omega)
      clear hE hchk ha hb' hae hbe
      go_wp2_with (fail)
      refine wp_region_L (by kernel_rfl) ?_
      refine wpAnyL_take (i := 0) (d := some 30) (v := ?var0) rfl rfl (by kernel_rfl) (by kernel_rfl) (by kernel_rfl) (fun _ _ _ h => h) (by rfl) ?yar0 ?_
      case yar0 => (intro w' hw'; go_simp; try (with_reducible rfl))
      simp only [Act.put]; try simp only [List.setIfInBounds_toArray]; try simp only [List.set_cons_zero, List.set_cons_succ]
      refine wpAnyL_take (i := 1) (d := some 31) (v := ?var1) rfl rfl (by kernel_rfl) (by kernel_rfl) (by kernel_rfl) (fun _ _ _ h => h) (by rfl) ?yar1 ?_
      case yar1 => (intro w' hw'; go_simp; try (with_reducible rfl))
      simp only [Act.put]; try simp only [List.setIfInBounds_toArray]; try simp only [List.set_cons_zero, List.set_cons_succ]
      refine wpAnyL_take (i := 2) (d := some 32) (v := .slice A n cap) rfl rfl (by kernel_rfl) (by kernel_rfl) (by kernel_rfl) (fun _ _ _ h => h) (by rfl) ?yar2 ?_
      case yar2 => (intro w' hw'; have y := later_cell ((Later.drew _).trans hw') d1; go_simp)
      simp only [Act.put]; try simp only [List.setIfInBounds_toArray]; try simp only [List.set_cons_zero, List.set_cons_succ]
      refine wpAnyL_take (i := 3) (d := some 33) (v := ?var3) rfl rfl (by kernel_rfl) (by kernel_rfl) (by kernel_rfl) (fun _ _ _ h => h) (by rfl) ?yar3 ?_
      case yar3 => (intro w' hw'; go_simp; try (with_reducible rfl))
      simp only [Act.put]; try simp only [List.setIfInBounds_toArray]; try simp only [List.set_cons_zero, List.set_cons_succ]
      refine wpAnyL_take (i := 4) (d := some 34) (v := .int .u64 (n : Int)) rfl rfl (by kernel_rfl) (by kernel_rfl) (by kernel_rfl) (fun _ _ _ h => h) (by rfl) ?yar4 ?_
      case yar4 => (intro w' hw'; go_simp; rw [HU.out])
      simp only [Act.put]; try simp only [List.setIfInBounds_toArray]; try simp only [List.set_cons_zero, List.set_cons_succ]
      refine wpAnyL_take (i := 5) (d := some 35) (v := .int .u64 (a : Int)) rfl rfl (by kernel_rfl) (by kernel_rfl) (by kernel_rfl) (fun _ _ _ h => h) (by rfl) ?yar5 ?_
      case yar5 => (intro w' hw'; go_simp; rw [if_neg (by omega), HTA.out])
      simp only [Act.put]; try simp only [List.setIfInBounds_toArray]; try simp only [List.set_cons_zero, List.set_cons_succ]
      refine wpAnyL_take (i := 6) (d := some 36) (v := .int .i64 (a : Int)) rfl rfl (by kernel_rfl) (by kernel_rfl) (by kernel_rfl) (fun _ _ _ h => h) (by rfl) ?yar6 ?_
      case yar6 => (intro w' hw'; go_simp; rw [HWA.out])
      simp only [Act.put]; try simp only [List.setIfInBounds_toArray]; try simp only [List.set_cons_zero, List.set_cons_succ]
      refine wpAnyL_take (i := 7) (d := some 37) (v := ?var7) rfl rfl (by kernel_rfl) (by kernel_rfl) (by kernel_rfl) (fun _ _ _ h => h) (by rfl) ?yar7 ?_
      case yar7 => (intro w' hw'; go_simp; try (with_reducible rfl))
      simp only [Act.put]; try simp only [List.setIfInBounds_toArray]; try simp only [List.set_cons_zero, List.set_cons_succ]
      refine wpAnyL_take (i := 8) (d := some 38) (v := ?var8) rfl rfl (by kernel_rfl) (by kernel_rfl) (by kernel_rfl) (fun _ _ _ h => h) (by rfl) ?yar8 ?_
      case yar8 => (intro w' hw'; go_simp; try (with_reducible rfl))
      simp only [Act.put]; try simp only [List.setIfInBounds_toArray]; try simp only [List.set_cons_zero, List.set_cons_succ]
      refine wpAnyL_take (i := 9) (d := some 39) (v := .slice A n cap) rfl rfl (by kernel_rfl) (by kernel_rfl) (by kernel_rfl) (fun _ _ _ h => h) (by rfl) ?yar9 ?_
      case yar9 => (intro w' hw'; have y := later_cell ((Later.drew _).trans hw') d1; go_simp)
      simp only [Act.put]; try simp only [List.setIfInBounds_toArray]; try simp only [List.set_cons_zero, List.set_cons_succ]
      refine wpAnyL_take (i := 10) (d := some 40) (v := ?var10) rfl rfl (by kernel_rfl) (by kernel_rfl) (by kernel_rfl) (fun _ _ _ h => h) (by rfl) ?yar10 ?_
      case yar10 => (intro w' hw'; go_simp; try (with_reducible rfl))
      simp only [Act.put]; try simp only [List.setIfInBounds_toArray]; try simp only [List.set_cons_zero, List.set_cons_succ]
      refine wpAnyL_take (i := 11) (d := some 41) (v := .int .u64 (n : Int)) rfl rfl (by kernel_rfl) (by kernel_rfl) (by kernel_rfl) (fun _ _ _ h => h) (by rfl) ?yar11 ?_
      case yar11 => (intro w' hw'; go_simp; rw [HU.out])
      simp only [Act.put]; try simp only [List.setIfInBounds_toArray]; try simp only [List.set_cons_zero, List.set_cons_succ]
      refine wpAnyL_take (i := 12) (d := some 42) (v := .int .u64 (b : Int)) rfl rfl (by kernel_rfl) (by kernel_rfl) (by kernel_rfl) (fun _ _ _ h => h) (by rfl) ?yar12 ?_
      case yar12 => (intro w' hw'; go_simp; rw [if_neg (by omega), HTB.out])
      simp only [Act.put]; try simp only [List.setIfInBounds_toArray]; try simp only [List.set_cons_zero, List.set_cons_succ]
      refine wpAnyL_take (i := 13) (d := some 43) (v := .int .i64 (b : Int)) rfl rfl (by kernel_rfl) (by kernel_rfl) (by kernel_rfl) (fun _ _ _ h => h) (by rfl) ?yar13 ?_
      case yar13 => (intro w' hw'; go_simp; rw [HWB.out])
      simp only [Act.put]; try simp only [List.setIfInBounds_toArray]; try simp only [List.set_cons_zero, List.set_cons_succ]
      refine wpAnyL_take (i := 14) (d := some 9) (v := ?var14) rfl rfl (by kernel_rfl) (by kernel_rfl) (by kernel_rfl) (fun _ _ _ h => h) (by rfl) ?yar14 ?_
      case yar14 => (intro w' hw'; go_simp; try (with_reducible rfl))
      simp only [Act.put]; try simp only [List.setIfInBounds_toArray]; try simp only [List.set_cons_zero, List.set_cons_succ]
      refine wpAnyL_take (i := 15) (d := some 10) (v := ?var15) rfl rfl (by kernel_rfl) (by kernel_rfl) (by kernel_rfl) (fun _ _ _ h => h) (by rfl) ?yar15 ?_
      case yar15 => (intro w' hw'; go_simp; try (with_reducible rfl))
      simp only [Act.put]; try simp only [List.setIfInBounds_toArray]; try simp only [List.set_cons_zero, List.set_cons_succ]
      refine wpAnyL_done (by kernel_rfl) ?_ _
      by_cases hab : a = b
      · have hab' : ((a : Int) == (b : Int)) = true := by rw [hab]; simp
        clear hab
        have L2D := hide (L2.out.trans (Later.drew w2))
        go_wp2_with (fail)
        refine (CLV.out _ L2D.out).mono ?_
        rintro e w99 ⟨rfl, hl99⟩
        have L99 := hide (L2D.out.trans hl99)
        clear hl99
        go_wp2_with (fail)
        go_ret
        exact ⟨rfl, L99.out⟩
      · have hab' : ((a : Int) == (b : Int)) = false := by rw [beq_eq_false_iff_ne]; omega
        go_upto_if 50 with (fail)
        go_cut [9, 10] (fun s9 s10 wx => ∃ lo hi : Nat, s9 = .int .i64 (lo : Int) ∧ s10 = .int .i64 (hi : Int) ∧ lo < hi ∧ hi < n ∧ wx = w2.drew)
        case first =>
          by_cases hlt : b < a
          · have hlt' : (b : Int) < (a : Int) := by omega
            go_wp2_with (fail)
            go_meet
            exact ⟨b, a, rfl, rfl, hlt, han, rfl⟩
          · have hlt' : ¬ (b : Int) < (a : Int) := by omega
            go_wp2_with (fail)
            go_meet
            exact ⟨a, b, rfl, rfl, by omega, hbn, rfl⟩
        case rest =>
          obtain ⟨lo, hi, rfl, rfl, hlh, hhn, rfl⟩ := hcut
          obtain ⟨sl, hsl⟩ : ∃ sl, l[lo]? = some sl := ⟨_, List.getElem?_eq_getElem (by have := HN.out; omega)⟩
          obtain ⟨sh, hsh⟩ : ∃ sh, l[hi]? = some sh := ⟨_, List.getElem?_eq_getElem (by have := HN.out; omega)⟩
          have HSL := hide hsl
          have HSH := hide hsh
          have ht1 := check_twice HCHK.out hlh hsl hsh
          have ht2 := check_stub HCHK.out hlh hsl hsh
          have HT1 := hide ht1
          have HT2 := hide ht2
          have HLD := hide (HL2.out.kept (Kept.of_below (Later.drew w2) _))
          obtain ⟨i0, hi0, hz0, hz1, hz2⟩ := info_parts info_step
          have HI := hide hi0
          have HZ0 := hide hz0
          have HZ1 := hide hz1
          have HZ2 := hide hz2
          have LD2 := hide (L2.out.trans (Later.drew w2))
          obtain ⟨W3, hW3⟩ : ∃ W3, W3 = w2.drew := ⟨_, rfl⟩
          rw [← hW3] at HLD LD2 ⊢
          have d0' : W3.cell? ⟨x, 0, none⟩ = some (.string name) := by rw [hW3]; exact d0
          have d1' : W3.cell? ⟨x, 1, none⟩ = some (.slice A n cap) := by rw [hW3]; exact d1
          have hx3 : x < W3.heap.size := by rw [hW3]; exact hx2
          have hwx3 : w.heap.size ≤ W3.heap.size := Below.size LD2.out
          clear hsl hsh ht1 ht2 hi0 hz0 hz1 hz2 hW3 d0 d1 hx2 df HAE HBE HTA HTB HU HWA HWB hab hab' HCHK
          go_upto_region 9 with (fail)
          go_cut [11] (fun s11 wx => ∃ y q c, s11 = .pointer (some ⟨y, 0, none⟩) ∧ x < y ∧ NRel W3 y q name n c l wx)
          case first =>
            refine wp_region_R (R := Below W3.heap.size) (by kernel_rfl) ?_
            refine wpAnyR_take (pre_below W3.heap.size) (i := 0) (d := some 53) (v := ?van0) rfl rfl (by kernel_rfl) (by kernel_rfl) (by kernel_rfl) (fun _ _ _ h => h) (by rfl) ?yan0 ?_
            case yan0 => (intro w' hw'; go_simp; try (with_reducible rfl))
            simp only [Act.put]; try simp only [List.setIfInBounds_toArray]; try simp only [List.set_cons_zero, List.set_cons_succ]
            refine wpAnyR_take (pre_below W3.heap.size) (i := 1) (d := some 54) (v := .string name) rfl rfl (by kernel_rfl) (by kernel_rfl) (by kernel_rfl) (fun _ _ _ h => h) (by rfl) ?yan1 ?_
            case yan1 => (intro w' hw'; have y := (show w'.cell? ⟨x, 0, none⟩ = some (.string name) from (Below.cell hw' (p := ⟨x, 0, none⟩) hx3).trans d0'); go_simp)
            simp only [Act.put]; try simp only [List.setIfInBounds_toArray]; try simp only [List.set_cons_zero, List.set_cons_succ]
            refine wpAnyR_take (pre_below W3.heap.size) (i := 3) (d := some 56) (v := ?van3) rfl rfl (by kernel_rfl) (by kernel_rfl) (by kernel_rfl) (fun _ _ _ h => h) (by rfl) ?yan3 ?_
            case yan3 => (intro w' hw'; go_simp; try (with_reducible rfl))
            simp only [Act.put]; try simp only [List.setIfInBounds_toArray]; try simp only [List.set_cons_zero, List.set_cons_succ]
            refine wpAnyR_take (pre_below W3.heap.size) (i := 4) (d := some 57) (v := .slice A n cap) rfl rfl (by kernel_rfl) (by kernel_rfl) (by kernel_rfl) (fun _ _ _ h => h) (by rfl) ?yan4 ?_
            case yan4 => (intro w' hw'; have y := (show w'.cell? ⟨x, 1, none⟩ = some (.slice A n cap) from (Below.cell hw' (p := ⟨x, 1, none⟩) hx3).trans d1'); go_simp)
            simp only [Act.put]; try simp only [List.setIfInBounds_toArray]; try simp only [List.set_cons_zero, List.set_cons_succ]
            refine wpAnyR_two (i := 2) (j := 7) rfl rfl (by kernel_rfl) (by rfl) (by rfl) (fun K hK => ?_) (fun K hK => ?_)
            · skip
              have hB0 : W3.heap.size ≤ W3.drew.heap.size := by exact Nat.le_refl _
              refine wp_empty_steps W3.heap.size (by exact hB0) (by rfl) ?_
              intro q0 wa1 ho hl
              have RW := hide ho
              have BB1 : Hid (Below W3.heap.size W3 wa1) := Below.trans (Later.drew W3) hl
              refine hK.out _ _ (Below.mono hl (by exact hB0)) (?_ : wpAnyR _ _ _ _ _ _ _ (Act.put _ (some 55) _) _)
              clear ho hl hB0
              clear hK K
              try (simp only [Act.put]; try simp only [List.setIfInBounds_toArray]; try simp only [List.set_cons_zero, List.set_cons_succ])
              refine wpAnyR_two (i := 5) (j := 7) rfl rfl (by kernel_rfl) (by rfl) (by rfl) (fun K hK => ?_) (fun K hK => ?_)
              · skip
                have FL2 := hide (HLD.out.kept (Kept.of_below BB1.out F))
                refine wp_append_gen _ _ 23 (by rfl) W3.heap.size 41 i0 _ 6 48 Tryd.underlying23 HI.out HZ0.out HZ1.out HZ2.out (by rfl) (by omega) (.slice (some ⟨q0, 0, none⟩) 0 0) 0 [] (by rfl) RW.out F A n cap (l.flatMap StepD.cells) (by rfl) (by have h := FL2.out; unfold StepsAt at h; rw [HN.out] at h; exact h) (by unfold maxLen; omega) (by omega) (Below.size BB1.out) ?_
                intro v6 wp2 ho hg
                rw [Nat.zero_add, List.nil_append] at ho
                obtain ⟨q6, k6, rfl⟩ : ∃ q6 k6, v6 = .slice (some ⟨q6, 0, none⟩) n k6 := by
                  rcases ho.2 with ⟨_, h0⟩ | ⟨g, cap', cur, rfl, _⟩
                  · have := ho.1; rw [h0] at this; simp at this; omega
                  · exact ⟨g, cap', rfl⟩
                have ROW := hide ho
                have BB2 : Hid (Below W3.heap.size W3 wp2) := BB1.out.trans (later_own RW.out (Below.size BB1.out) hg)
                refine hK.out _ _ (later_own RW.out (Below.size BB1.out) hg) (?_ : wpAnyR _ _ _ _ _ _ _ (Act.put _ (some 58) _) _)
                clear ho hg
                clear hK K
                try (simp only [Act.put]; try simp only [List.setIfInBounds_toArray]; try simp only [List.set_cons_zero, List.set_cons_succ])
                refine wpAnyR_take (pre_below W3.heap.size) (i := 6) (d := some 59) (v := .agg #[.string name, .slice (some ⟨q6, 0, none⟩) n k6]) rfl rfl (by kernel_rfl) (by kernel_rfl) (by kernel_rfl) (fun _ _ _ h => h) (by rfl) ?yanxx6 ?_
                case yanxx6 => (intro w' hw'; go_simp; try (with_reducible rfl))
                simp only [Act.put]; try simp only [List.setIfInBounds_toArray]; try simp only [List.set_cons_zero, List.set_cons_succ]
                refine wpAnyR_only (i := 7) rfl (by kernel_rfl) (by rfl) fun K hK => ?_
                go_simp
                refine hK.out _ _ (show Below W3.heap.size wp2 (wp2.alloc (.cells #[.string ⟨#[]⟩, .slice none 0 0] 25 (0, 0))) from (Below.refl W3.heap.size wp2).alloc (Below.size BB2.out) _) ?_
                obtain ⟨wy3, hwy3⟩ : ∃ wy3, wy3 = wp2.alloc (.cells #[.string ⟨#[]⟩, .slice none 0 0] 25 (0, 0)) := ⟨_, rfl⟩
                obtain ⟨y0, hy0⟩ : ∃ y0, y0 = wp2.heap.size := ⟨_, rfl⟩
                have DY3 : Hid (wy3.heap[y0]? = some (.cells #[.string ⟨#[]⟩, .slice none 0 0] 25 (0, 0))) := by rw [hwy3, hy0]; exact heap_alloc_new _ _
                have BB3 : Hid (Below W3.heap.size W3 wy3) := by rw [hwy3]; exact BB2.out.alloc (Below.size BB2.out) _
                have RW3 := hide (own_later ROW.out (show Later wp2 wy3 by rw [hwy3]; exact (Below.refl _ _).alloc (Nat.le_refl _) _))
                have hxy0 : x < y0 := by rw [hy0]; have := Below.size BB2.out; omega
                have hWy0 : W3.heap.size ≤ y0 := by rw [hy0]; exact Below.size BB2.out
                rw [← hwy3, ← hy0]
                clear hwy3 hy0
                clear hK K
                try (simp only [Act.put]; try simp only [List.setIfInBounds_toArray]; try simp only [List.set_cons_zero, List.set_cons_succ])
                refine wpAnyR_only (i := 8) rfl (by kernel_rfl) (by rfl) fun K hK => ?_
                refine wp_store_box 25 _ _ (by rfl) y0 0 #[.string name, .slice (some ⟨q6, 0, none⟩) n k6] (by rfl) (by rfl) 25 _ DY3.out (by kernel_rfl) (by simp) (by simp [Value.oneCell']) ?_
                intro wz hz hgz
                have NRZ : Hid (NRel W3 y0 q6 name n k6 l wz) := ⟨hz, own_apart RW3.out DY3.out (by decide) hgz, HN.out, BB3.out.grown hgz (Below.size BB3.out) fun j e => by have := Option.some.inj e; omega⟩
                refine hK.out _ _ ((Below.refl _ _).grown hgz (Below.size BB3.out) fun j e => by have := Option.some.inj e; omega) ?_
                clear hz hgz
                clear hK K
                try simp only [Act.put]
                refine wpAnyR_done (by kernel_rfl) ?_ _
                go_wp2_with (fail)
                go_meet
                exact ⟨_, q6, k6, rfl, hxy0, NRZ.out⟩
              · go_simp
                refine hK.out _ _ (show Below W3.heap.size wa1 (wa1.alloc (.cells #[.string ⟨#[]⟩, .slice none 0 0] 25 (0, 0))) from (Below.refl W3.heap.size wa1).alloc (Below.size BB1.out) _) ?_
                obtain ⟨wy2, hwy2⟩ : ∃ wy2, wy2 = wa1.alloc (.cells #[.string ⟨#[]⟩, .slice none 0 0] 25 (0, 0)) := ⟨_, rfl⟩
                obtain ⟨y0, hy0⟩ : ∃ y0, y0 = wa1.heap.size := ⟨_, rfl⟩
                have DY2 : Hid (wy2.heap[y0]? = some (.cells #[.string ⟨#[]⟩, .slice none 0 0] 25 (0, 0))) := by rw [hwy2, hy0]; exact heap_alloc_new _ _
                have BB2 : Hid (Below W3.heap.size W3 wy2) := by rw [hwy2]; exact BB1.out.alloc (Below.size BB1.out) _
                have RW2 := hide (own_later RW.out (show Later wa1 wy2 by rw [hwy2]; exact (Below.refl _ _).alloc (Nat.le_refl _) _))
                have hxy0 : x < y0 := by rw [hy0]; have := Below.size BB1.out; omega
                have hWy0 : W3.heap.size ≤ y0 := by rw [hy0]; exact Below.size BB1.out
                rw [← hwy2, ← hy0]
                clear hwy2 hy0
                clear hK K
                try (simp only [Act.put]; try simp only [List.setIfInBounds_toArray]; try simp only [List.set_cons_zero, List.set_cons_succ])
                refine wpAnyR_only (i := 5) rfl (by kernel_rfl) (by rfl) fun K hK => ?_
                have FL3 := hide (HLD.out.kept (Kept.of_below BB2.out F))
                refine wp_append_gen _ _ 23 (by rfl) W3.heap.size 41 i0 _ 6 48 Tryd.underlying23 HI.out HZ0.out HZ1.out HZ2.out (by rfl) (by omega) (.slice (some ⟨q0, 0, none⟩) 0 0) 0 [] (by rfl) RW2.out F A n cap (l.flatMap StepD.cells) (by rfl) (by have h := FL3.out; unfold StepsAt at h; rw [HN.out] at h; exact h) (by unfold maxLen; omega) (by omega) (Below.size BB2.out) ?_
                intro v6 wp3 ho hg
                rw [Nat.zero_add, List.nil_append] at ho
                obtain ⟨q6, k6, rfl⟩ : ∃ q6 k6, v6 = .slice (some ⟨q6, 0, none⟩) n k6 := by
                  rcases ho.2 with ⟨_, h0⟩ | ⟨g, cap', cur, rfl, _⟩
                  · have := ho.1; rw [h0] at this; simp at this; omega
                  · exact ⟨g, cap', rfl⟩
                have ROW := hide ho
                have BB3 : Hid (Below W3.heap.size W3 wp3) := BB2.out.trans (later_own RW2.out (Below.size BB2.out) hg)
                have DY3 := hide ((hg.block y0 (lt_of_block DY2.out) (apart_own RW2.out DY2.out (by decide))).trans DY2.out)
                refine hK.out _ _ (later_own RW2.out (Below.size BB2.out) hg) (?_ : wpAnyR _ _ _ _ _ _ _ (Act.put _ (some 58) _) _)
                clear ho hg
                clear hK K
                try (simp only [Act.put]; try simp only [List.setIfInBounds_toArray]; try simp only [List.set_cons_zero, List.set_cons_succ])
                refine wpAnyR_take (pre_below W3.heap.size) (i := 6) (d := some 59) (v := .agg #[.string name, .slice (some ⟨q6, 0, none⟩) n k6]) rfl rfl (by kernel_rfl) (by kernel_rfl) (by kernel_rfl) (fun _ _ _ h => h) (by rfl) ?yanxy6 ?_
                case yanxy6 => (intro w' hw'; go_simp; try (with_reducible rfl))
                simp only [Act.put]; try simp only [List.setIfInBounds_toArray]; try simp only [List.set_cons_zero, List.set_cons_succ]
                refine wpAnyR_only (i := 8) rfl (by kernel_rfl) (by rfl) fun K hK => ?_
                refine wp_store_box 25 _ _ (by rfl) y0 0 #[.string name, .slice (some ⟨q6, 0, none⟩) n k6] (by rfl) (by rfl) 25 _ DY3.out (by kernel_rfl) (by simp) (by simp [Value.oneCell']) ?_
                intro wz hz hgz
                have NRZ : Hid (NRel W3 y0 q6 name n k6 l wz) := ⟨hz, own_apart ROW.out DY3.out (by decide) hgz, HN.out, BB3.out.grown hgz (Below.size BB3.out) fun j e => by have := Option.some.inj e; omega⟩
                refine hK.out _ _ ((Below.refl _ _).grown hgz (Below.size BB3.out) fun j e => by have := Option.some.inj e; omega) ?_
                clear hz hgz
                clear hK K
                try simp only [Act.put]
                refine wpAnyR_done (by kernel_rfl) ?_ _
                go_wp2_with (fail)
                go_meet
                exact ⟨_, q6, k6, rfl, hxy0, NRZ.out⟩
            · go_simp
              refine hK.out _ _ (show Below W3.heap.size W3.drew (W3.drew.alloc (.cells #[.string ⟨#[]⟩, .slice none 0 0] 25 (0, 0))) from (Below.refl W3.heap.size W3.drew).alloc (Nat.le_refl _) _) ?_
              obtain ⟨wy1, hwy1⟩ : ∃ wy1, wy1 = (W3.alloc (.cells #[.string ⟨#[]⟩, .slice none 0 0] 25 (0, 0))).drew := ⟨_, rfl⟩
              have DY1 : Hid (wy1.heap[W3.heap.size]? = some (.cells #[.string ⟨#[]⟩, .slice none 0 0] 25 (0, 0))) := by rw [hwy1]; exact heap_alloc_new _ _
              have BB1 : Hid (Below W3.heap.size W3 wy1) := by rw [hwy1]; exact ((Below.refl _ _).alloc (Nat.le_refl _) _).drew
              have hxy0 : x < W3.heap.size := by exact hx3
              have hWy0 : W3.heap.size ≤ W3.heap.size := by exact Nat.le_refl _
              rw [← hwy1]
              clear hwy1
              clear hK K
              try (simp only [Act.put]; try simp only [List.setIfInBounds_toArray]; try simp only [List.set_cons_zero, List.set_cons_succ])
              refine wpAnyR_only (i := 2) rfl (by kernel_rfl) (by rfl) fun K hK => ?_
              have hB0 : W3.heap.size ≤ wy1.heap.size := by exact Below.size BB1.out
              refine wp_empty_steps W3.heap.size (by exact hB0) (by rfl) ?_
              intro q0 wa2 ho hl
              have RW := hide ho
              have BB2 := hide (BB1.out.trans (Below.mono hl hB0))
              have DY2 := hide ((Below.block hl W3.heap.size (lt_of_block DY1.out)).trans DY1.out)
              refine hK.out _ _ (Below.mono hl (by exact hB0)) (?_ : wpAnyR _ _ _ _ _ _ _ (Act.put _ (some 55) _) _)
              clear ho hl hB0
              clear hK K
              try (simp only [Act.put]; try simp only [List.setIfInBounds_toArray]; try simp only [List.set_cons_zero, List.set_cons_succ])
              refine wpAnyR_only (i := 5) rfl (by kernel_rfl) (by rfl) fun K hK => ?_
              have FL3 := hide (HLD.out.kept (Kept.of_below BB2.out F))
              refine wp_append_gen _ _ 23 (by rfl) W3.heap.size 41 i0 _ 6 48 Tryd.underlying23 HI.out HZ0.out HZ1.out HZ2.out (by rfl) (by omega) (.slice (some ⟨q0, 0, none⟩) 0 0) 0 [] (by rfl) RW.out F A n cap (l.flatMap StepD.cells) (by rfl) (by have h := FL3.out; unfold StepsAt at h; rw [HN.out] at h; exact h) (by unfold maxLen; omega) (by omega) (Below.size BB2.out) ?_
              intro v6 wp3 ho hg
              rw [Nat.zero_add, List.nil_append] at ho
              obtain ⟨q6, k6, rfl⟩ : ∃ q6 k6, v6 = .slice (some ⟨q6, 0, none⟩) n k6 := by
                rcases ho.2 with ⟨_, h0⟩ | ⟨g, cap', cur, rfl, _⟩
                · have := ho.1; rw [h0] at this; simp at this; omega
                · exact ⟨g, cap', rfl⟩
              have ROW := hide ho
              have BB3 : Hid (Below W3.heap.size W3 wp3) := BB2.out.trans (later_own RW.out (Below.size BB2.out) hg)
              have DY3 := hide ((hg.block W3.heap.size (lt_of_block DY2.out) (apart_own RW.out DY2.out (by decide))).trans DY2.out)
              refine hK.out _ _ (later_own RW.out (Below.size BB2.out) hg) (?_ : wpAnyR _ _ _ _ _ _ _ (Act.put _ (some 58) _) _)
              clear ho hg
              clear hK K
              try (simp only [Act.put]; try simp only [List.setIfInBounds_toArray]; try simp only [List.set_cons_zero, List.set_cons_succ])
              refine wpAnyR_take (pre_below W3.heap.size) (i := 6) (d := some 59) (v := .agg #[.string name, .slice (some ⟨q6, 0, none⟩) n k6]) rfl rfl (by kernel_rfl) (by kernel_rfl) (by kernel_rfl) (fun _ _ _ h => h) (by rfl) ?yany6 ?_
              case yany6 => (intro w' hw'; go_simp; try (with_reducible rfl))
              simp only [Act.put]; try simp only [List.setIfInBounds_toArray]; try simp only [List.set_cons_zero, List.set_cons_succ]
              refine wpAnyR_only (i := 8) rfl (by kernel_rfl) (by rfl) fun K hK => ?_
              refine wp_store_box 25 _ _ (by rfl) W3.heap.size 0 #[.string name, .slice (some ⟨q6, 0, none⟩) n k6] (by rfl) (by rfl) 25 _ DY3.out (by kernel_rfl) (by simp) (by simp [Value.oneCell']) ?_
              intro wz hz hgz
              have NRZ : Hid (NRel W3 W3.heap.size q6 name n k6 l wz) := ⟨hz, own_apart ROW.out DY3.out (by decide) hgz, HN.out, BB3.out.grown hgz (Below.size BB3.out) fun j e => by have := Option.some.inj e; omega⟩
              refine hK.out _ _ ((Below.refl _ _).grown hgz (Below.size BB3.out) fun j e => by have := Option.some.inj e; omega) ?_
              clear hz hgz
              clear hK K
              try simp only [Act.put]
              refine wpAnyR_done (by kernel_rfl) ?_ _
              go_wp2_with (fail)
              go_meet
              exact ⟨_, q6, k6, rfl, hxy0, NRZ.out⟩
          case rest =>
            obtain ⟨y, q, c, rfl, hxy, hnr⟩ := hcut
            have NR := hide hnr
            clear hnr
            obtain ⟨d0, d1, df⟩ := NR.out.db.cells
            obtain ⟨rl, fz⟩ := NR.out.cell HSL.out
            obtain ⟨rh, _⟩ := NR.out.cell HSH.out
            have nl : wc.cell? ⟨q, lo * 6, none⟩ = some (.string sl.name) := by simpa using rl 0 _ rfl
            have nh : wc.cell? ⟨q, hi * 6, none⟩ = some (.string sh.name) := by simpa using rh 0 _ rfl
            have fh := fz (hi * 6)
            have hqs : q < wc.heap.size := (NR.out.row.lt q rfl).2
            have hys : y < wc.heap.size := lt_of_block NR.out.db
            have hlo' : (lo : Int) < (n : Int) := by omega
            have hhi' : (hi : Int) < (n : Int) := by omega
            obtain ⟨W4, hW4⟩ : ∃ W4, W4 = (wc.setCell ⟨q, hi * 6, none⟩ (.string sl.name)).drew := ⟨_, rfl⟩
            have NR4 : Hid (NRel W3 y q name n c (l.set hi { sh with name := sl.name }) W4) := by
              have := (NR.out.set (s' := { sh with name := sl.name }) (v := .string sl.name) (j := 0) HSH.out (by omega) (by simp [StepD.cells])).later (Later.drew _)
              rw [hW4]
              simpa [Hid] using this
            have HW4 := hide hW4.symm
            clear rl rh fz hW4
            go_wp2_with (fail)
            go_region
            rw [HW4.out]
            have CK4 := hide (check_any (w := W4) (name := name) (steps := l.set hi { sh with name := sl.name }) (by have h := NR4.out.steps; exact h))
            rw [HT1.out] at CK4
            clear nl nh fh d0 d1 df hqs hys
            go_wp2_with (refine wpList_load_box (by rfl) 25 (.tmp 11) (by rfl) y 0 (by rfl) 25 _ NR4.out.db 2 _ Tryd.underlying25 (by rfl) (by kernel_rfl) [.string name, .slice (some ⟨q, 0, none⟩) n c] (by rfl) (by rfl) ?_)
            refine CK4.out.mono ?_
            rintro e w5 ⟨rfl, hl5⟩
            have NR5 := hide (NR4.out.later hl5)
            have hsl5 : (l.set hi { sh with name := sl.name })[lo]? = some sl := by rw [List.getElem?_set_ne (by omega)]; exact HSL.out
            obtain ⟨d0, d1, df⟩ := NR5.out.db.cells
            obtain ⟨rl, fz⟩ := NR5.out.cell hsl5
            have nl : w5.cell? ⟨q, lo * 6 + 1, none⟩ = some (.int .i64 sl.stub) := by simpa using rl 1 _ rfl
            have fl := fz (lo * 6 + 1)
            have hqs : q < w5.heap.size := (NR5.out.row.lt q rfl).2
            obtain ⟨W6, hW6⟩ : ∃ W6, W6 = w5.setCell ⟨q, lo * 6 + 1, none⟩ (.int .i64 0) := ⟨_, rfl⟩
            have NR6 : Hid (NRel W3 y q name n c ((l.set hi { sh with name := sl.name }).set lo { sl with stub := 0 }) W6) := by
              rw [hW6]
              exact NR5.out.set (s' := { sl with stub := 0 }) (j := 1) hsl5 (by omega) (by simp [StepD.cells])
            have HW6 := hide hW6.symm
            have CK6 := hide (check_any (w := W6) (name := name) (steps := (l.set hi { sh with name := sl.name }).set lo { sl with stub := 0 }) (by have h := NR6.out.steps; exact h))
            rw [HT2.out] at CK6
            clear hl5 CK4 NR4 rl fz hW6 hsl5
            go_wp2_with (rw [HW6.out]; refine wpList_load_box (by rfl) 25 (.tmp 11) (by rfl) y 0 (by rfl) 25 _ NR6.out.db 2 _ Tryd.underlying25 (by rfl) (by kernel_rfl) [.string name, .slice (some ⟨q, 0, none⟩) n c] (by rfl) (by rfl) ?_)
            refine CK6.out.mono ?_
            rintro e w7 ⟨rfl, hl7⟩
            have L7 := hide (LD2.out.trans (NR6.out.lat.trans hl7))
            have e1 : ((hi + 1 : Nat) : Int) = (hi : Int) + 1 := by omega
            have e2 : ((lo + 1 : Nat) : Int) = (lo : Int) + 1 := by omega
            clear hl7 CK6 NR5 NR6 nl fl hqs d0 d1 df
            go_wp2_with (fail)
            refine (CLV.out _ L7.out).mono ?_
            rintro e w99 ⟨rfl, hl99⟩
            have L99 := hide (L7.out.trans hl99)
            clear hl99
            go_wp2_with (fail)
            go_ret
            exact ⟨rfl, L99.out⟩
  · have hb : ((c2 : Int) != 0) = true := by simp; omega
    clear hE
    go_wp2_with (fail)
    refine (CLV.out _ L2.out).mono ?_
    rintro e w99 ⟨rfl, hl99⟩
    have L99 := hide (L2.out.trans hl99)
    clear hl99
    go_wp2_with (fail)
    go_ret
    exact ⟨rfl, L99.out⟩
end
end Go.Proofs.YtdahnjcoflifbaaDoor
/- DefNames, as the claim asks it. -/
namespace Go.Proofs.YtdahnjcoflifbaaDoor
open Go.RowKit
theorem law_namesW (nm1 : ByteArray) (v1 : Value) (l1 : List StepD) (V1 V2 : Nat) (w : World) (h1 : StepsAt (· < w.heap.size) w v1 l1) (_ : nm1.size ≤ 140737488355328) (_ : ∀ s ∈ l1, s.wf) (hV1 : V1 < 18446744073709551616) (hV2 : V2 < 18446744073709551616) (ho : OptAt w) :
    Calls Tryd.prog 8 #[.agg #[.string nm1, v1], .int .u64 (V1 : Int), .int .u64 (V2 : Int)] w fun e w' => e = .returned (.bool true) ∧ Later w w' := law_names h1 hV1 hV2 ho
end Go.Proofs.YtdahnjcoflifbaaDoor
namespace Go.Proofs.YtdahnjcoflifbaaDoor
open Go.ChangeShapes Go.WideShapes Go.ChangeAt Go.RowKit

theorem defNames_lawKnobs : ownKnob Tryd.prog.godebug = none := by kernel_rfl
theorem defNames_allLaid : laidOutB Tryd.prog = true := by kernel_rfl

set_option maxRecDepth 100000 in
set_option maxHeartbeats 1000000 in
theorem defNames_lifted (os : Os) (started : os.Started) (H : Type) (enc : TypeId × Value → H) :
    ReturnsInHanded {} Tryd.checked os 8 .any (fun w args => (Rows.defNamesSpec.pre enc Tryd.prog Tryd.f8 Rows.defNamesRow.domain false w args ∧ laidMetH Tryd.prog Rows.defNamesRow.laid w) ∧ sizedMet enc Tryd.prog Tryd.f8 (OpenSpec.ofChange Rows.defNamesSpec) false w args)
      (Rows.defNamesSpec.post enc Tryd.prog Tryd.f8 false true false false) := by
  refine returnsInHanded_of_change_and (C := Tryd.checked) (X := fun w _ => laidMetH Tryd.prog Rows.defNamesRow.laid w) (fun _ _ _ hh h => h.of_heap hh) defNames_lawKnobs started (by kernel_rfl) Tryd.func8
    (ChangeSpec.witness_shaped (enc := enc) (C := Tryd.checked) (os := os) (X := fun w _ => laidMetH Tryd.prog Rows.defNamesRow.laid w) false (World.doorLaid Tryd.prog 400 os) #[.agg #[.string ⟨#[]⟩, .slice none 0 0], .int .u64 0, .int .u64 0] 8 rfl (World.shaped_of_RefB (by kernel_rfl) (by kernel_rfl)) (by kernel_rfl) (by kernel_rfl) (by kernel_rfl) (tab_start1 os _)) ?_
  intro W base args ds gs before hval0 hW hcnd hsz0 hL _
  have hTab := opt1 hL
  have hval : ∀ (j : Nat) t v, Tryd.f8.params[j]? = some t → args[j]? = some v → Value.okWide Tryd.prog W .any base t v := hval0
  have hW' := hW
  obtain ⟨p, q, hA0, hV, rfl, _, _⟩ := hW
  have hA : DataW.TrodAll enc Tryd.prog W 0 (fun _ => true) true Tryd.f8.params.toList args.toList ds p := hA0
  have hsz : (DataW.weightsEach Tryd.prog (Tryd.f8.params.toList ++ Rows.defNamesSpec.plain.varTypes Tryd.prog) (ds ++ gs)).all (· ≤ reachBytes) = true := hsz0
  rw [Tryd.params8] at hA hval hsz
  obtain ⟨v0, vs0, d0, ds0, p0, q0, hargs, rfl, rfl, h0, r0⟩ := trodAll_cons hA
  obtain ⟨v1, vs1, d1, ds1, p1, q1, rfl, rfl, rfl, h1, r1⟩ := trodAll_cons r0
  obtain ⟨v2, vs2, d2, ds2, p2, q2, rfl, rfl, rfl, h2, r2⟩ := trodAll_cons r1
  obtain ⟨rfl, rfl, rfl⟩ := trodAll_nil r2
  obtain rfl : args = #[v0, v1, v2] := by cases args; simp_all
  obtain ⟨rfl, rfl⟩ := trodVars_none hV
  have k0 := h0
  have lt0 : ∀ x ∈ p0, x.block < W.heap.size := by obtain ⟨m, hm⟩ := k0; exact DataW.trod_lt m _ _ _ hm
  have s0 : Sm 25 d0 := sm_of hsz (j := 0) rfl rfl
  obtain ⟨cs0, rfl, _⟩ := okWide_struct Tryd.underlying25 (hval 0 25 v0 rfl rfl)
  obtain ⟨nm0, sv0, l0, rfl, hs0, hn0, wf0⟩ := arg_def h0 s0
  have k1 := h1
  obtain ⟨a1, rfl, rfl, rfl, w1⟩ := open_int Tryd.underlying42 (hval 1 42 v1 rfl rfl) h1
  have b1 := bounds_u64 w1
  obtain ⟨V1, rfl⟩ := Int.eq_ofNat_of_zero_le b1.1
  have k2 := h2
  obtain ⟨a2, rfl, rfl, rfl, w2⟩ := open_int Tryd.underlying42 (hval 2 42 v2 rfl rfl) h2
  have b2 := bounds_u64 w2
  obtain ⟨V2, rfl⟩ := Int.eq_ofNat_of_zero_le b2.1
  clear hA0 hval0 hL
  refine (law_namesW nm0 sv0 l0 V1 V2 W hs0 hn0 wf0 (by omega) (by omega) hTab).mono fun e W' ⟨he, bel0⟩ => ?_
  have bel : Below W.heap.size W W' := bel0
  subst he
  exact ⟨_, rfl, _, _, _, [], _, [], hW', trodAll_mk1 (shut_bool Tryd.underlying4 _), (trodAll_cons_mk (Below.trod defNames_allLaid (by kernel_rfl) (of_decide_eq_true (by kernel_rfl)) k0 bel lt0) (trodAll_cons_mk (shut_int Tryd.underlying42 w1) (trodAll_cons_mk (shut_int Tryd.underlying42 w2) trodAll_mk0))), rfl, bel.frame _, fun h => by cases h⟩

theorem defNames_over : Rows.defNamesRow.holds Tryd.pinned (OpenSpec.ofChange Rows.defNamesSpec) :=
  OpenClaim.holds_of_wide 8 Tryd.f8 rfl rfl rfl rfl rfl rfl rfl ⟨rfl, rfl, rfl, rfl, rfl⟩ rfl rfl rfl rfl rfl (by kernel_rfl) Tryd.func8 (by kernel_rfl)
    (of_decide_eq_true (by kernel_rfl)) (by unfold Func.isWrapper; first | (rw [if_pos (by decide +kernel)]; kernel_rfl) | (rw [if_neg (by decide +kernel)]; exact ⟨rfl, rfl⟩))
    (fun os started H enc _ => defNames_lifted os started H enc)

theorem defNames_card : Rows.DefNamesCardSaid :=
  Claim7.holds_tied_plain_at .later [] _ true _ false defNames_over (fun _ h => by cases h) (by kernel_rfl) (fun _ h => by cases h) defNames_row_tie rfl ⟨rfl, rfl⟩ (by kernel_rfl) rfl
    (fun f fn hf hfn => by
      obtain rfl : f = 8 := Option.some.inj ((show Tryd.prog.funcNamed "drover/droverlaw13.DefNames" = some 8 by kernel_rfl).symm.trans hf) |>.symm
      obtain rfl : fn = Tryd.f8 := (Option.some.inj (Tryd.func8.symm.trans hfn)).symm
      exact ⟨by kernel_rfl, fun j t ht => by
        rw [Tryd.params8] at ht
        have hm : t ∈ [25, 42, 42] := by simpa using Array.mem_of_getElem? ht
        have hall : ([25, 42, 42].all fun u => !Tryd.prog.wantsStandIn u) = true := by kernel_rfl
        exact (show Tryd.prog.wantsStandIn t = false by simpa using List.all_eq_true.1 hall t hm)⟩)
    (by kernel_rfl)
#print axioms defNames_card
end Go.Proofs.YtdahnjcoflifbaaDoor
