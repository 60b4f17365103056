/- Texts merged: New, KeepH, MsgFree, CloneI, WeighN, Copy, Send, Stale, AppendAt, Fresh, ToAll, Change, Meth, NoNode, Light11, Two, NOver, NTick. -/
import Derived.Test.YtaiegmhlgjogmaaGreatAlM1
import Derived.Test.YtaiegmhlgjogmaaGreatAlM2
import Derived.Test.YtaiegmhlgjogmaaGreatAlM3
import Derived.Test.YtaiegmhlgjogmaaGreatAlM4
import Derived.Shelf.Abstract
import Derived.Test.YtaiegmhlgjogmaaGreatProg
import Derived.Deep.QuietTactic
import Derived.BigQuiet
import Derived.Lib.MinMax
/- A node is made. -/
namespace Go.Proofs.YtaiegmhlgjogmaaGreat
open Go.RowKit Go.Maps

def zeroI (n : Nat) : List Int := List.replicate n 0
theorem zeroI_made (n : Nat) : (madeCells (Value.int .i64 0).cells (n * 1)).toList = ivs (zeroI n) := by
  have e : (Value.int .i64 0).cells = #[.int .i64 0] := rfl
  rw [e]
  apply List.ext_getElem?
  intro i
  by_cases hi : i < n
  · have h1 : (ivs (zeroI n))[i]? = some (.int .i64 0) := by simp [ivs, iv, zeroI, hi]
    rw [h1]
    simp [madeCells, hi, Nat.mod_one]
  · have h1 : (ivs (zeroI n))[i]? = none := by simp [ivs, zeroI]; omega
    rw [h1]
    simp [madeCells]
    omega
theorem op_make_ints {o : Oper} {a : Act} {K : Act → World → Prop} {Q : Exit → Act → World → Prop} {w : World} {n d : Nat} {l c : Operand} (hop : o.op = Op.makeSlice 40 l c) (hd : o.dst = some d) (hl : a.eval l = .int .i64 (n : Int)) (hc : a.eval c = .int .i64 (n : Int)) (hn : n ≤ 1000000)
    (hK : ∀ g w', g = w.heap.size → g < w'.heap.size → w'.ownsRow w.heap.size 3 1 (.slice (some ⟨g, 0, none⟩) n n) n (ivs (zeroI n)) → Later w w' → K (a.put (some d) (.slice (some ⟨g, 0, none⟩) n n)) w') : Oper.wp Tryz.prog o a w K Q := by
  obtain ⟨i0, hi, hz0, hz1, hz2⟩ := info_parts Tryz.infoI64
  obtain ⟨w', hrun, r1, r2⟩ := run_make_full (P := Tryz.prog) w w.heap.size 40 3 i0 _ 1 Tryz.underlying40 hi hz0 hz1 .i64 .i64 n (by rw [hz2]; omega) (by simp only [maxLen]; omega) (Nat.le_refl _)
  unfold Oper.wp
  simp [execOp, hop, hl, hc, hrun, Result.andThen]
  rw [zeroI_made] at r1
  show K (a.put o.dst (.slice (some ⟨w.heap.size, 0, none⟩) n n)) w'
  rw [hd]
  refine hK w.heap.size w' rfl ?_ r1 ((Below.refl _ _).grown r2 (Nat.le_refl _) (by simp))
  rcases r1.2 with ⟨h0, _⟩ | ⟨g, cap, cur, hv, h1, h2, h3⟩
  · cases h0
  · have := lt_of_block h2
    have e : (some w.heap.size : Option Nat) = some g := by
      have := congrArg Value.ownBlock hv
      exact this
    rw [Option.some.inj e]
    exact this
/-- A node as it is made: the phase is not said yet. -/
def rep0 (id : Int) (n : Nat) (iv : Value) : RepD := ⟨id, n, 0, 0, 0, 0, iv, zeroI n, [], 0, 0, 0, [], [], false⟩
/-- What a call hands back that makes a node. -/
structure Made (q : Nat) (w : World) (col col' : Nat → Nat) (w' : World) (r : Nat) (p : RepP) (x : RepD) (g : Nat) : Prop where
  rep : RepAt col' q w.heap.size w' r p x g
  ext : Ext q w col col'
  later : Later w w'
theorem zeroI_len (n : Nat) : (zeroI n).length = n := by simp [zeroI]
theorem zeroI_fit (n : Nat) : Fit (zeroI n) := by
  intro x hx
  obtain rfl := List.eq_of_mem_replicate hx
  omega
theorem lg_lower {B B' l c : Nat} {S : Nat → Prop} {w : World} {L : List OpD} (h : Ol.Lg B S w l L c) (hb : B' ≤ B) : Ol.Lg B' S w l L c := ⟨fun i hi => ⟨Nat.le_trans hb (h.1 i hi).1, (h.1 i hi).2⟩, h.2⟩
theorem clk_lower {B B' c N : Nat} {S : Nat → Prop} {w : World} {now : Int} {L : List (Int × Int)} (h : Ck.Clk B S w c now L N) (hb : B' ≤ B) : Ck.Clk B' S w c now L N := ⟨fun i hi => ⟨Nat.le_trans hb (h.1 i hi).1, (h.1 i hi).2⟩, h.2⟩

/-- The parts of a node, each in blocks of its own, put together. -/
theorem built {q lg ck mb gi n : Nat} {id : Int} {w u : World} {col : Nat → Nat} {Sl Sc : Nat → Prop} (hq : ∀ i, ¬ hues col q i) (hid : 1 ≤ id ∧ id ≤ (n : Int)) (hn : 2 ≤ n ∧ n ≤ 5) (hl : Later w u)
    (hlg : Ol.Lg w.heap.size Sl u lg [] 0) (hck : Ck.Clk w.heap.size Sc u ck 0 [] 0) (hm : u.ownsMap Tryz.prog 3 heldR mb 0 (mapD [])) (hmb : w.heap.size ≤ mb) (hiv : u.ownsRow w.heap.size 3 1 (.slice (some ⟨gi, 0, none⟩) n n) n (ivs (zeroI n)))
    (d1 : ∀ i, Sl i → ¬ Sc i ∧ i ≠ mb ∧ i ≠ gi) (d2 : ∀ i, Sc i → i ≠ mb ∧ i ≠ gi) (d3 : mb ≠ gi) {u5 u6 : World} (h5 : u5 = u.alloc (.cells ((rep0 id n (.slice (some ⟨gi, 0, none⟩) n n)).cells ⟨u.heap.size, lg, ck, mb⟩).toArray 106 (0, 0)))
    (h6 : u6 = u5.alloc (.cells #[.pointer (some ⟨u.heap.size, 0, none⟩)] 70 (0, 0))) :
    ∃ col', Made q w col col' u6 u5.heap.size ⟨u.heap.size, lg, ck, mb⟩ (rep0 id n (.slice (some ⟨gi, 0, none⟩) n n)) 0 := by
  classical
  have s5 : u5.heap.size = u.heap.size + 1 := by rw [h5]; simp
  have s6 : u6.heap.size = u.heap.size + 2 := by rw [h6]; simp [s5]
  have hs := Below.size hl
  have l5 : Later u u5 := by rw [h5]; exact (Below.refl _ _).alloc (Nat.le_refl _) _
  have l6 : Later u5 u6 := by rw [h6]; exact (Below.refl _ _).alloc (Nat.le_refl _) _
  have lu := l5.trans l6
  have hmbu := hm.lt
  have hSl : ∀ i, Sl i → w.heap.size ≤ i ∧ i < u.heap.size := hlg.1
  have hSc : ∀ i, Sc i → w.heap.size ≤ i ∧ i < u.heap.size := hck.1
  let c' : Nat → Nat := fun i => if i < w.heap.size then col i else if i = u.heap.size + 1 then q + 3 else if i = u.heap.size then q + 4 else if i = mb then q + 5 else if Sl i then q + 1 else if Sc i then q + 2 else 0
  have old : ∀ i, i < w.heap.size → c' i = col i := fun i hi => if_pos hi
  have new : ∀ i, w.heap.size ≤ i → c' i = if i = u.heap.size + 1 then q + 3 else if i = u.heap.size then q + 4 else if i = mb then q + 5 else if Sl i then q + 1 else if Sc i then q + 2 else 0 := fun i hi => if_neg (by omega)
  have nh : ∀ k i, 1 ≤ k → k ≤ 5 → i < w.heap.size → c' i ≠ q + k := fun k i h1 h2 hi e => hq i (by rw [old i hi] at e; unfold hues; omega)
  have cl : ∀ i, Sl i → c' i = q + 1 := fun i hi => by
    have a := hSl i hi
    have b := d1 i hi
    rw [new i a.1, if_neg (by omega), if_neg (by omega), if_neg b.2.1, if_pos hi]
  have cc : ∀ i, Sc i → c' i = q + 2 := fun i hi => by
    have a := hSc i hi
    have b := d2 i hi
    have b' : ¬ Sl i := fun e => (d1 i e).1 hi
    rw [new i a.1, if_neg (by omega), if_neg (by omega), if_neg b.1, if_neg b', if_pos hi]
  have ro : ∀ i, c' i = q + 1 → Sl i := fun i e => by
    have hi : w.heap.size ≤ i := by
      by_cases hi : i < w.heap.size
      · exact absurd e (nh 1 i (by omega) (by omega) hi)
      · omega
    rw [new i hi] at e
    split at e
    · omega
    · split at e
      · omega
      · split at e
        · omega
        · split at e
          · assumption
          · split at e <;> omega
  have rc : ∀ i, c' i = q + 2 → Sc i := fun i e => by
    have hi : w.heap.size ≤ i := by
      by_cases hi : i < w.heap.size
      · exact absurd e (nh 2 i (by omega) (by omega) hi)
      · omega
    rw [new i hi] at e
    split at e
    · omega
    · split at e
      · omega
      · split at e
        · omega
        · split at e
          · omega
          · split at e
            · assumption
            · omega
  have hgi : w.heap.size ≤ gi ∧ gi < u.heap.size := by
    rcases hiv.2 with ⟨h0, _⟩ | ⟨g, cap, cur, hv, h1, h2, h3⟩
    · cases h0
    · have e : (some gi : Option Nat) = some g := congrArg Value.ownBlock hv
      rw [Option.some.inj e]
      exact ⟨h1, lt_of_block h2⟩
  have ci : c' gi = 0 := by
    have a : ¬ Sl gi := fun e => (d1 gi e).2.2 rfl
    have b : ¬ Sc gi := fun e => (d2 gi e).2 rfl
    rw [new gi hgi.1, if_neg (by omega), if_neg (by omega), if_neg (fun e => d3 e.symm), if_neg a, if_neg b]
  have b5 : u5.heap[u.heap.size]? = some (.cells ((rep0 id n (.slice (some ⟨gi, 0, none⟩) n n)).cells ⟨u.heap.size, lg, ck, mb⟩).toArray 106 (0, 0)) := by rw [h5]; exact heap_alloc_new _ _
  have b6 : u6.heap[u5.heap.size]? = some (.cells #[.pointer (some ⟨u.heap.size, 0, none⟩)] 70 (0, 0)) := by rw [h6]; exact heap_alloc_new _ _
  have e1 : hue c' (q + 1) = Sl := funext fun i => propext ⟨ro i, cl i⟩
  have e2 : hue c' (q + 2) = Sc := funext fun i => propext ⟨rc i, cc i⟩
  refine ⟨c', ⟨b6, (l6.block _ (lt_of_block b5)).trans b5, ?_, ?_, ?_, ⟨?_, ?_, ?_⟩, ⟨by omega, hs, hmb⟩, ?_, by simp [rep0], fun i hi => ?_, ?_⟩, ⟨old, fun i hi => ?_⟩, hl.trans lu⟩
  · rw [e1]; exact hlg.below lu
  · rw [e2]; exact hck.later lu
  · exact hm.kept (row := none) ⟨lu.os, lu.tape, lu.output, lu.size, fun i hi _ => lu.block i hi⟩ (by simp)
  · rw [new _ (by omega), if_pos (by omega)]
  · show c' u.heap.size = _
    rw [new _ (by omega), if_neg (by omega), if_pos rfl]
  · show c' mb = _
    rw [new _ hmb, if_neg (by omega), if_neg (by omega), if_pos rfl]
  · have a : SlI (fun i => i = gi) u (.slice (some ⟨gi, 0, none⟩) n n) (zeroI n) := by
      refine ⟨?_, zeroI_fit n⟩
      obtain ⟨x1, x2, A, cp, e, x3, x4, x5, x6⟩ := FlatAt.of_own hiv (ivs_cell _)
      have hlen : (zeroI n).length = n := zeroI_len n
      unfold IncsAt
      rw [hlen]
      refine ⟨x1, x2, A, cp, e, x3, x4, x5, fun hn => ?_⟩
      obtain ⟨b, off, hA, _, hb, hr⟩ := x6 hn
      refine ⟨b, off, hA, ?_, hb, hr⟩
      rw [hA] at e
      injection e with e1
      injection e1 with e1
      injection e1 with e1
      exact e1.symm
    exact (a.mono fun i _ e => by show c' i = 0; rw [e]; exact ci).kept (Kept.of_below lu _)
  · rw [new i (by omega), if_neg (by omega), if_neg (by omega), if_neg (by omega), if_neg (fun e => by have := hSl i e; omega), if_neg (fun e => by have := hSc i e; omega)]
  · exact ⟨hid, ⟨by show (2 : Int) ≤ (n : Int); omega, by show (n : Int) ≤ 5; omega⟩, ⟨by show (0 : Int) ≤ 0; omega, by show (0 : Int) ≤ _; omega⟩, ⟨by show (0 : Int) ≤ 0; omega, by show (0 : Int) ≤ _; omega⟩, by show I64 0; unfold I64; omega, by show ((zeroI n).length : Int) = _; rw [zeroI_len]; rfl, Nat.le_refl _, by show (0 : Int) ≤ _; omega, by simp [rep0], by simp [rep0], by simp [rep0], by simp [rep0], by simp [rep0]⟩
  · rw [new i hi]
    unfold hues
    rw [new i hi]
    split
    · right; omega
    · split
      · right; omega
      · split
        · right; omega
        · split
          · right; omega
          · split
            · right; omega
            · left; rfl
theorem own_lower {w : World} {base base' e size n : Nat} {v : Value} {xs : List Value} (h : w.ownsRow base e size v n xs) (hb : base' ≤ base) : w.ownsRow base' e size v n xs := by
  refine ⟨h.1, ?_⟩
  rcases h.2 with h0 | ⟨g, cap, cur, hv, h1, h2⟩
  · exact .inl h0
  · exact .inr ⟨g, cap, cur, hv, Nat.le_trans hb h1, h2⟩
theorem own_on {w w1 : World} {base e size n : Nat} {v : Value} {xs : List Value} (ho : w.ownsRow base e size v n xs) (hb : Below w.heap.size w w1) : w1.ownsRow base e size v n xs := by
  refine ⟨ho.1, ?_⟩
  rcases ho.2 with h | ⟨g, cap, cur, hv, h1, h2, h3⟩
  · exact .inl h
  · exact .inr ⟨g, cap, cur, hv, h1, (hb.block g (lt_of_block h2)).trans h2, h3⟩
set_option maxHeartbeats 8000000 in
set_option maxRecDepth 100000 in
theorem build_any {q n : Nat} {id : Int} {w : World} {col : Nat → Nat} (hf : ∀ i, w.heap.size ≤ i → col i = 0) (hq : ∀ i, ¬ hues col q i) (hid : 1 ≤ id ∧ id ≤ (n : Int)) (hn : 2 ≤ n ∧ n ≤ 5) :
    Calls Tryz.prog 33 #[.int .i64 id, .int .i64 (n : Int)] w fun e w' => ∃ r p col' iv, e = .returned (.pointer (some ⟨r, 0, none⟩)) ∧ Made q w col col' w' r p (rep0 id n iv) 0 := by
  have hmm := @run_makeMap Tryz.prog
  have HF := hide hf
  have HQ := hide hq
  have HID := hide hid
  have HNN := hide hn
  obtain ⟨u0, hu0⟩ : ∃ u, u = w.drew := ⟨_, rfl⟩
  have D0 : Hid (Later w u0) := by rw [hu0]; exact (Below.refl _ _).drew
  have HS0 : Hid (u0.heap.size = w.heap.size) := by rw [hu0]; rfl
  have t1 : ¬ (n : Int) < 2 := by omega
  have t2 : ¬ 5 < (n : Int) := by omega
  have t3 : ¬ id < 1 := by omega
  have t4 : ¬ (n : Int) < id := by omega
  clear hf hq
  go_enter Tryz.func33, Tryz.ntmps33
  go_wp2
  refine wp_region_L (by kernel_rfl) ?_
  rw [← hu0]
  clear hu0 t1 t2 t3 t4
  refine wpAnyL_take (i := 0) (d := some 20) (v := ?vaa0) rfl rfl (by kernel_rfl) (by kernel_rfl) (by kernel_rfl) (fun _ _ _ h => h) (by rfl) ?yaa0 ?_
  case yaa0 => (intro w' hw'; go_simp; try (with_reducible rfl))
  simp only [Act.put]; try simp only [List.setIfInBounds_toArray]; try simp only [List.set_cons_zero, List.set_cons_succ]
  refine wpAnyL_take (i := 1) (d := some 21) (v := ?vaa1) rfl rfl (by kernel_rfl) (by kernel_rfl) (by kernel_rfl) (fun _ _ _ h => h) (by rfl) ?yaa1 ?_
  case yaa1 => (intro w' hw'; go_simp; try (with_reducible rfl))
  simp only [Act.put]; try simp only [List.setIfInBounds_toArray]; try simp only [List.set_cons_zero, List.set_cons_succ]
  refine wpAnyL_take (i := 2) (d := some 22) (v := ?vaa2) rfl rfl (by kernel_rfl) (by kernel_rfl) (by kernel_rfl) (fun _ _ _ h => h) (by rfl) ?yaa2 ?_
  case yaa2 => (intro w' hw'; go_simp; try (with_reducible rfl))
  simp only [Act.put]; try simp only [List.setIfInBounds_toArray]; try simp only [List.set_cons_zero, List.set_cons_succ]
  refine wpAnyL_take (i := 3) (d := some 23) (v := ?vaa3) rfl rfl (by kernel_rfl) (by kernel_rfl) (by kernel_rfl) (fun _ _ _ h => h) (by rfl) ?yaa3 ?_
  case yaa3 => (intro w' hw'; go_simp; try (with_reducible rfl))
  simp only [Act.put]; try simp only [List.setIfInBounds_toArray]; try simp only [List.set_cons_zero, List.set_cons_succ]
  refine wpAnyL_three (i := 4) (j := 5) (l := 7) rfl rfl rfl (by kernel_rfl) (by rfl) (by rfl) (by rfl) (fun K hK => ?_) (fun K hK => ?_) (fun K hK => ?_)
  · skip
    refine op_make_ints (n := n) (by rfl) rfl (by rfl) (by rfl) (by omega) ?_
    intro gi u1 g1 gl1 o1 l1
    have OI := hide o1
    have L1 := hide l1
    have RI : Hid (gi = u0.heap.size ∧ gi < u1.heap.size) := ⟨g1, gl1⟩
    refine hK.out _ _ l1 ?_
    clear o1 l1 g1 gl1
    clear hK K
    try (simp only [Act.put]; try simp only [List.setIfInBounds_toArray]; try simp only [List.set_cons_zero, List.set_cons_succ])
    refine wpAnyL_two (i := 5) (j := 7) rfl rfl (by kernel_rfl) (by rfl) (by rfl) (fun K hK => ?_) (fun K hK => ?_)
    · go_simp
      refine (Ol.lg_new u1).mono ?_
      rintro e u2 ⟨lg, Sl, rfl, hlg, hl⟩
      have HLG := hide hlg
      have L2 : Hid (Later u1 u2) := hl
      refine hK.out _ _ L2.out ?_
      clear hlg hl
      clear hK K
      try (simp only [Act.put]; try simp only [List.setIfInBounds_toArray]; try simp only [List.set_cons_zero, List.set_cons_succ])
      refine wpAnyL_two (i := 6) (j := 7) rfl rfl (by kernel_rfl) (by rfl) (by rfl) (fun K hK => ?_) (fun K hK => ?_)
      · go_simp
        refine (Ck.clk_new u2).mono ?_
        rintro e u3 ⟨ck, Sc, rfl, hl, hck⟩
        have HCK := hide hck
        have L3 : Hid (Later u2 u3) := hl
        refine hK.out _ _ L3.out ?_
        clear hck hl
        clear hK K
        try (simp only [Act.put]; try simp only [List.setIfInBounds_toArray]; try simp only [List.set_cons_zero, List.set_cons_succ])
        refine wpAnyL_only (i := 7) rfl (by kernel_rfl) (by rfl) fun K hK => ?_
        go_simp
        obtain ⟨u4, hu⟩ : ∃ u, u = u3.alloc (.map #[] 0) := ⟨_, rfl⟩
        rw [← hu]
        have L4 : Hid (Later u3 u4) := by rw [hu]; exact (Below.refl _ _).alloc (Nat.le_refl _) _
        have OM : Hid (u4.ownsMap Tryz.prog 3 heldR u3.heap.size 0 (mapD [])) := by rw [hu]; exact World.ownsMap_made _ _ _ _
        have SM : Hid (u4.heap.size = u3.heap.size + 1) := hide (by rw [hu]; simp)
        clear hu
        refine hK.out _ _ L4.out ?_
        clear hK K
        try (simp only [Act.put]; try simp only [List.setIfInBounds_toArray]; try simp only [List.set_cons_zero, List.set_cons_succ])
        refine wpAnyL_take (i := 8) (d := some 28) (v := ?vaaxxx8) rfl rfl (by kernel_rfl) (by kernel_rfl) (by kernel_rfl) (fun _ _ _ h => h) (by rfl) ?yaaxxx8 ?_
        case yaaxxx8 => (intro w' hw'; go_simp; try (with_reducible rfl))
        simp only [Act.put]; try simp only [List.setIfInBounds_toArray]; try simp only [List.set_cons_zero, List.set_cons_succ]
        refine wpAnyL_only (i := 9) rfl (by kernel_rfl) (by rfl) fun K hK => ?_
        go_simp
        obtain ⟨u5, hu5⟩ : ∃ u, u = u4.alloc (.cells #[.int .i64 id, .int .i64 (n : Int), .int .i64 0, .int .i64 0, .int .i64 0, .int .i64 0, .slice (some ⟨gi, 0, none⟩) n n, .pointer (some ⟨lg, 0, none⟩), .int .i64 0, .pointer (some ⟨ck, 0, none⟩), .map (some u3.heap.size), .bool false] 106 (0, 0)) := ⟨_, rfl⟩
        rw [← hu5]
        have HU5 := hide hu5
        have L5 : Hid (Later u4 u5) := by rw [hu5]; exact (Below.refl _ _).alloc (Nat.le_refl _) _
        clear hu5
        refine hK.out _ _ L5.out ?_
        clear hK K
        try (simp only [Act.put]; try simp only [List.setIfInBounds_toArray]; try simp only [List.set_cons_zero, List.set_cons_succ])
        refine wpAnyL_take (i := 10) (d := some 30) (v := ?vaaxxx10) rfl rfl (by kernel_rfl) (by kernel_rfl) (by kernel_rfl) (fun _ _ _ h => h) (by rfl) ?yaaxxx10 ?_
        case yaaxxx10 => (intro w' hw'; go_simp; try (with_reducible rfl))
        simp only [Act.put]; try simp only [List.setIfInBounds_toArray]; try simp only [List.set_cons_zero, List.set_cons_succ]
        refine wpAnyL_only (i := 11) rfl (by kernel_rfl) (by rfl) fun K hK => ?_
        go_simp
        obtain ⟨u6, hu6⟩ : ∃ u, u = u5.alloc (.cells #[.pointer (some ⟨u4.heap.size, 0, none⟩)] 70 (0, 0)) := ⟨_, rfl⟩
        rw [← hu6]
        have HU6 := hide hu6
        have L6 : Hid (Later u5 u6) := by rw [hu6]; exact (Below.refl _ _).alloc (Nat.le_refl _) _
        clear hu6
        refine hK.out _ _ L6.out ?_
        clear hK K
        try (simp only [Act.put]; try simp only [List.setIfInBounds_toArray]; try simp only [List.set_cons_zero, List.set_cons_succ])
        refine wpAnyL_take (i := 12) (d := some 4) (v := ?vaaxxx12) rfl rfl (by kernel_rfl) (by kernel_rfl) (by kernel_rfl) (fun _ _ _ h => h) (by rfl) ?yaaxxx12 ?_
        case yaaxxx12 => (intro w' hw'; go_simp; try (with_reducible rfl))
        simp only [Act.put]; try simp only [List.setIfInBounds_toArray]; try simp only [List.set_cons_zero, List.set_cons_succ]
        refine wpAnyL_done (by kernel_rfl) ?_ _
        have hsz0 := HS0.out
        have z1 := Below.size L1.out
        have z2 := Below.size L2.out
        have z3 := Below.size L3.out
        have z4 := Below.size L4.out
        have ri := RI.out
        have sm := SM.out
        have LW : Hid (Later w u4) := D0.out.trans (L1.out.trans (L2.out.trans (L3.out.trans L4.out)))
        have FIN := hide (built (gi := gi) HQ.out HID.out HNN.out LW.out (lg_lower (HLG.out.below (L3.out.trans L4.out)) (by omega)) (clk_lower (HCK.out.later L4.out) (by omega)) (World.ownsMap.kept (row := none) OM.out ⟨((show Later u4 u4 from Below.refl _ _)).os, ((show Later u4 u4 from Below.refl _ _)).tape, ((show Later u4 u4 from Below.refl _ _)).output, ((show Later u4 u4 from Below.refl _ _)).size, fun i hi _ => ((show Later u4 u4 from Below.refl _ _)).block i hi⟩ (by simp)) (by omega) (own_lower (own_on OI.out (L2.out.trans (L3.out.trans L4.out))) (by omega)) (fun i h => ⟨fun h2 => by have a := HLG.out.1 i h; have b := HCK.out.1 i h2; omega, by have a := HLG.out.1 i h; omega, by have a := HLG.out.1 i h; omega⟩) (fun i h => ⟨by have a := HCK.out.1 i h; omega, by have a := HCK.out.1 i h; omega⟩) (by omega) HU5.out HU6.out)
        have S5 : u5.heap.size = u5.heap.size := rfl
        clear z1 z2 z3 z4 ri sm hsz0 S5 HLG HCK OM OI RI SM HU5 HU6 L1 L2 L3 L4 L5 L6 LW D0 HS0
        go_wp2
        go_ret
        obtain ⟨c', hm⟩ := FIN.out
        exact ⟨_, _, c', _, rfl, hm⟩
      · go_simp
        obtain ⟨u3, hu⟩ : ∃ u, u = u2.alloc (.map #[] 0) := ⟨_, rfl⟩
        rw [← hu]
        have L3 : Hid (Later u2 u3) := by rw [hu]; exact (Below.refl _ _).alloc (Nat.le_refl _) _
        have OM : Hid (u3.ownsMap Tryz.prog 3 heldR u2.heap.size 0 (mapD [])) := by rw [hu]; exact World.ownsMap_made _ _ _ _
        have SM : Hid (u3.heap.size = u2.heap.size + 1) := hide (by rw [hu]; simp)
        clear hu
        refine hK.out _ _ L3.out ?_
        clear hK K
        try (simp only [Act.put]; try simp only [List.setIfInBounds_toArray]; try simp only [List.set_cons_zero, List.set_cons_succ])
        refine wpAnyL_only (i := 6) rfl (by kernel_rfl) (by rfl) fun K hK => ?_
        go_simp
        refine (Ck.clk_new u3).mono ?_
        rintro e u4 ⟨ck, Sc, rfl, hl, hck⟩
        have HCK := hide hck
        have L4 : Hid (Later u3 u4) := hl
        refine hK.out _ _ L4.out ?_
        clear hck hl
        clear hK K
        try (simp only [Act.put]; try simp only [List.setIfInBounds_toArray]; try simp only [List.set_cons_zero, List.set_cons_succ])
        refine wpAnyL_take (i := 8) (d := some 28) (v := ?vaaxxy8) rfl rfl (by kernel_rfl) (by kernel_rfl) (by kernel_rfl) (fun _ _ _ h => h) (by rfl) ?yaaxxy8 ?_
        case yaaxxy8 => (intro w' hw'; go_simp; try (with_reducible rfl))
        simp only [Act.put]; try simp only [List.setIfInBounds_toArray]; try simp only [List.set_cons_zero, List.set_cons_succ]
        refine wpAnyL_only (i := 9) rfl (by kernel_rfl) (by rfl) fun K hK => ?_
        go_simp
        obtain ⟨u5, hu5⟩ : ∃ u, u = u4.alloc (.cells #[.int .i64 id, .int .i64 (n : Int), .int .i64 0, .int .i64 0, .int .i64 0, .int .i64 0, .slice (some ⟨gi, 0, none⟩) n n, .pointer (some ⟨lg, 0, none⟩), .int .i64 0, .pointer (some ⟨ck, 0, none⟩), .map (some u2.heap.size), .bool false] 106 (0, 0)) := ⟨_, rfl⟩
        rw [← hu5]
        have HU5 := hide hu5
        have L5 : Hid (Later u4 u5) := by rw [hu5]; exact (Below.refl _ _).alloc (Nat.le_refl _) _
        clear hu5
        refine hK.out _ _ L5.out ?_
        clear hK K
        try (simp only [Act.put]; try simp only [List.setIfInBounds_toArray]; try simp only [List.set_cons_zero, List.set_cons_succ])
        refine wpAnyL_take (i := 10) (d := some 30) (v := ?vaaxxy10) rfl rfl (by kernel_rfl) (by kernel_rfl) (by kernel_rfl) (fun _ _ _ h => h) (by rfl) ?yaaxxy10 ?_
        case yaaxxy10 => (intro w' hw'; go_simp; try (with_reducible rfl))
        simp only [Act.put]; try simp only [List.setIfInBounds_toArray]; try simp only [List.set_cons_zero, List.set_cons_succ]
        refine wpAnyL_only (i := 11) rfl (by kernel_rfl) (by rfl) fun K hK => ?_
        go_simp
        obtain ⟨u6, hu6⟩ : ∃ u, u = u5.alloc (.cells #[.pointer (some ⟨u4.heap.size, 0, none⟩)] 70 (0, 0)) := ⟨_, rfl⟩
        rw [← hu6]
        have HU6 := hide hu6
        have L6 : Hid (Later u5 u6) := by rw [hu6]; exact (Below.refl _ _).alloc (Nat.le_refl _) _
        clear hu6
        refine hK.out _ _ L6.out ?_
        clear hK K
        try (simp only [Act.put]; try simp only [List.setIfInBounds_toArray]; try simp only [List.set_cons_zero, List.set_cons_succ])
        refine wpAnyL_take (i := 12) (d := some 4) (v := ?vaaxxy12) rfl rfl (by kernel_rfl) (by kernel_rfl) (by kernel_rfl) (fun _ _ _ h => h) (by rfl) ?yaaxxy12 ?_
        case yaaxxy12 => (intro w' hw'; go_simp; try (with_reducible rfl))
        simp only [Act.put]; try simp only [List.setIfInBounds_toArray]; try simp only [List.set_cons_zero, List.set_cons_succ]
        refine wpAnyL_done (by kernel_rfl) ?_ _
        have hsz0 := HS0.out
        have z1 := Below.size L1.out
        have z2 := Below.size L2.out
        have z3 := Below.size L3.out
        have z4 := Below.size L4.out
        have ri := RI.out
        have sm := SM.out
        have LW : Hid (Later w u4) := D0.out.trans (L1.out.trans (L2.out.trans (L3.out.trans L4.out)))
        have FIN := hide (built (gi := gi) HQ.out HID.out HNN.out LW.out (lg_lower (HLG.out.below (L3.out.trans L4.out)) (by omega)) (clk_lower (HCK.out.later (show Later u4 u4 from Below.refl _ _)) (by omega)) (World.ownsMap.kept (row := none) OM.out ⟨(L4.out).os, (L4.out).tape, (L4.out).output, (L4.out).size, fun i hi _ => (L4.out).block i hi⟩ (by simp)) (by omega) (own_lower (own_on OI.out (L2.out.trans (L3.out.trans L4.out))) (by omega)) (fun i h => ⟨fun h2 => by have a := HLG.out.1 i h; have b := HCK.out.1 i h2; omega, by have a := HLG.out.1 i h; omega, by have a := HLG.out.1 i h; omega⟩) (fun i h => ⟨by have a := HCK.out.1 i h; omega, by have a := HCK.out.1 i h; omega⟩) (by omega) HU5.out HU6.out)
        have S5 : u5.heap.size = u5.heap.size := rfl
        clear z1 z2 z3 z4 ri sm hsz0 S5 HLG HCK OM OI RI SM HU5 HU6 L1 L2 L3 L4 L5 L6 LW D0 HS0
        go_wp2
        go_ret
        obtain ⟨c', hm⟩ := FIN.out
        exact ⟨_, _, c', _, rfl, hm⟩
    · go_simp
      obtain ⟨u2, hu⟩ : ∃ u, u = u1.alloc (.map #[] 0) := ⟨_, rfl⟩
      rw [← hu]
      have L2 : Hid (Later u1 u2) := by rw [hu]; exact (Below.refl _ _).alloc (Nat.le_refl _) _
      have OM : Hid (u2.ownsMap Tryz.prog 3 heldR u1.heap.size 0 (mapD [])) := by rw [hu]; exact World.ownsMap_made _ _ _ _
      have SM : Hid (u2.heap.size = u1.heap.size + 1) := hide (by rw [hu]; simp)
      clear hu
      refine hK.out _ _ L2.out ?_
      clear hK K
      try (simp only [Act.put]; try simp only [List.setIfInBounds_toArray]; try simp only [List.set_cons_zero, List.set_cons_succ])
      refine wpAnyL_only (i := 5) rfl (by kernel_rfl) (by rfl) fun K hK => ?_
      go_simp
      refine (Ol.lg_new u2).mono ?_
      rintro e u3 ⟨lg, Sl, rfl, hlg, hl⟩
      have HLG := hide hlg
      have L3 : Hid (Later u2 u3) := hl
      refine hK.out _ _ L3.out ?_
      clear hlg hl
      clear hK K
      try (simp only [Act.put]; try simp only [List.setIfInBounds_toArray]; try simp only [List.set_cons_zero, List.set_cons_succ])
      refine wpAnyL_only (i := 6) rfl (by kernel_rfl) (by rfl) fun K hK => ?_
      go_simp
      refine (Ck.clk_new u3).mono ?_
      rintro e u4 ⟨ck, Sc, rfl, hl, hck⟩
      have HCK := hide hck
      have L4 : Hid (Later u3 u4) := hl
      refine hK.out _ _ L4.out ?_
      clear hck hl
      clear hK K
      try (simp only [Act.put]; try simp only [List.setIfInBounds_toArray]; try simp only [List.set_cons_zero, List.set_cons_succ])
      refine wpAnyL_take (i := 8) (d := some 28) (v := ?vaaxy8) rfl rfl (by kernel_rfl) (by kernel_rfl) (by kernel_rfl) (fun _ _ _ h => h) (by rfl) ?yaaxy8 ?_
      case yaaxy8 => (intro w' hw'; go_simp; try (with_reducible rfl))
      simp only [Act.put]; try simp only [List.setIfInBounds_toArray]; try simp only [List.set_cons_zero, List.set_cons_succ]
      refine wpAnyL_only (i := 9) rfl (by kernel_rfl) (by rfl) fun K hK => ?_
      go_simp
      obtain ⟨u5, hu5⟩ : ∃ u, u = u4.alloc (.cells #[.int .i64 id, .int .i64 (n : Int), .int .i64 0, .int .i64 0, .int .i64 0, .int .i64 0, .slice (some ⟨gi, 0, none⟩) n n, .pointer (some ⟨lg, 0, none⟩), .int .i64 0, .pointer (some ⟨ck, 0, none⟩), .map (some u1.heap.size), .bool false] 106 (0, 0)) := ⟨_, rfl⟩
      rw [← hu5]
      have HU5 := hide hu5
      have L5 : Hid (Later u4 u5) := by rw [hu5]; exact (Below.refl _ _).alloc (Nat.le_refl _) _
      clear hu5
      refine hK.out _ _ L5.out ?_
      clear hK K
      try (simp only [Act.put]; try simp only [List.setIfInBounds_toArray]; try simp only [List.set_cons_zero, List.set_cons_succ])
      refine wpAnyL_take (i := 10) (d := some 30) (v := ?vaaxy10) rfl rfl (by kernel_rfl) (by kernel_rfl) (by kernel_rfl) (fun _ _ _ h => h) (by rfl) ?yaaxy10 ?_
      case yaaxy10 => (intro w' hw'; go_simp; try (with_reducible rfl))
      simp only [Act.put]; try simp only [List.setIfInBounds_toArray]; try simp only [List.set_cons_zero, List.set_cons_succ]
      refine wpAnyL_only (i := 11) rfl (by kernel_rfl) (by rfl) fun K hK => ?_
      go_simp
      obtain ⟨u6, hu6⟩ : ∃ u, u = u5.alloc (.cells #[.pointer (some ⟨u4.heap.size, 0, none⟩)] 70 (0, 0)) := ⟨_, rfl⟩
      rw [← hu6]
      have HU6 := hide hu6
      have L6 : Hid (Later u5 u6) := by rw [hu6]; exact (Below.refl _ _).alloc (Nat.le_refl _) _
      clear hu6
      refine hK.out _ _ L6.out ?_
      clear hK K
      try (simp only [Act.put]; try simp only [List.setIfInBounds_toArray]; try simp only [List.set_cons_zero, List.set_cons_succ])
      refine wpAnyL_take (i := 12) (d := some 4) (v := ?vaaxy12) rfl rfl (by kernel_rfl) (by kernel_rfl) (by kernel_rfl) (fun _ _ _ h => h) (by rfl) ?yaaxy12 ?_
      case yaaxy12 => (intro w' hw'; go_simp; try (with_reducible rfl))
      simp only [Act.put]; try simp only [List.setIfInBounds_toArray]; try simp only [List.set_cons_zero, List.set_cons_succ]
      refine wpAnyL_done (by kernel_rfl) ?_ _
      have hsz0 := HS0.out
      have z1 := Below.size L1.out
      have z2 := Below.size L2.out
      have z3 := Below.size L3.out
      have z4 := Below.size L4.out
      have ri := RI.out
      have sm := SM.out
      have LW : Hid (Later w u4) := D0.out.trans (L1.out.trans (L2.out.trans (L3.out.trans L4.out)))
      have FIN := hide (built (gi := gi) HQ.out HID.out HNN.out LW.out (lg_lower (HLG.out.below L4.out) (by omega)) (clk_lower (HCK.out.later (show Later u4 u4 from Below.refl _ _)) (by omega)) (World.ownsMap.kept (row := none) OM.out ⟨((L3.out.trans L4.out)).os, ((L3.out.trans L4.out)).tape, ((L3.out.trans L4.out)).output, ((L3.out.trans L4.out)).size, fun i hi _ => ((L3.out.trans L4.out)).block i hi⟩ (by simp)) (by omega) (own_lower (own_on OI.out (L2.out.trans (L3.out.trans L4.out))) (by omega)) (fun i h => ⟨fun h2 => by have a := HLG.out.1 i h; have b := HCK.out.1 i h2; omega, by have a := HLG.out.1 i h; omega, by have a := HLG.out.1 i h; omega⟩) (fun i h => ⟨by have a := HCK.out.1 i h; omega, by have a := HCK.out.1 i h; omega⟩) (by omega) HU5.out HU6.out)
      have S5 : u5.heap.size = u5.heap.size := rfl
      clear z1 z2 z3 z4 ri sm hsz0 S5 HLG HCK OM OI RI SM HU5 HU6 L1 L2 L3 L4 L5 L6 LW D0 HS0
      go_wp2
      go_ret
      obtain ⟨c', hm⟩ := FIN.out
      exact ⟨_, _, c', _, rfl, hm⟩
  · go_simp
    refine (Ol.lg_new u0).mono ?_
    rintro e u1 ⟨lg, Sl, rfl, hlg, hl⟩
    have HLG := hide hlg
    have L1 : Hid (Later u0 u1) := hl
    refine hK.out _ _ L1.out ?_
    clear hlg hl
    clear hK K
    try (simp only [Act.put]; try simp only [List.setIfInBounds_toArray]; try simp only [List.set_cons_zero, List.set_cons_succ])
    refine wpAnyL_three (i := 4) (j := 6) (l := 7) rfl rfl rfl (by kernel_rfl) (by rfl) (by rfl) (by rfl) (fun K hK => ?_) (fun K hK => ?_) (fun K hK => ?_)
    · skip
      refine op_make_ints (n := n) (by rfl) rfl (by rfl) (by rfl) (by omega) ?_
      intro gi u2 g2 gl2 o2 l2
      have OI := hide o2
      have L2 := hide l2
      have RI : Hid (gi = u1.heap.size ∧ gi < u2.heap.size) := ⟨g2, gl2⟩
      refine hK.out _ _ l2 ?_
      clear o2 l2 g2 gl2
      clear hK K
      try (simp only [Act.put]; try simp only [List.setIfInBounds_toArray]; try simp only [List.set_cons_zero, List.set_cons_succ])
      refine wpAnyL_two (i := 6) (j := 7) rfl rfl (by kernel_rfl) (by rfl) (by rfl) (fun K hK => ?_) (fun K hK => ?_)
      · go_simp
        refine (Ck.clk_new u2).mono ?_
        rintro e u3 ⟨ck, Sc, rfl, hl, hck⟩
        have HCK := hide hck
        have L3 : Hid (Later u2 u3) := hl
        refine hK.out _ _ L3.out ?_
        clear hck hl
        clear hK K
        try (simp only [Act.put]; try simp only [List.setIfInBounds_toArray]; try simp only [List.set_cons_zero, List.set_cons_succ])
        refine wpAnyL_only (i := 7) rfl (by kernel_rfl) (by rfl) fun K hK => ?_
        go_simp
        obtain ⟨u4, hu⟩ : ∃ u, u = u3.alloc (.map #[] 0) := ⟨_, rfl⟩
        rw [← hu]
        have L4 : Hid (Later u3 u4) := by rw [hu]; exact (Below.refl _ _).alloc (Nat.le_refl _) _
        have OM : Hid (u4.ownsMap Tryz.prog 3 heldR u3.heap.size 0 (mapD [])) := by rw [hu]; exact World.ownsMap_made _ _ _ _
        have SM : Hid (u4.heap.size = u3.heap.size + 1) := hide (by rw [hu]; simp)
        clear hu
        refine hK.out _ _ L4.out ?_
        clear hK K
        try (simp only [Act.put]; try simp only [List.setIfInBounds_toArray]; try simp only [List.set_cons_zero, List.set_cons_succ])
        refine wpAnyL_take (i := 8) (d := some 28) (v := ?vaayxx8) rfl rfl (by kernel_rfl) (by kernel_rfl) (by kernel_rfl) (fun _ _ _ h => h) (by rfl) ?yaayxx8 ?_
        case yaayxx8 => (intro w' hw'; go_simp; try (with_reducible rfl))
        simp only [Act.put]; try simp only [List.setIfInBounds_toArray]; try simp only [List.set_cons_zero, List.set_cons_succ]
        refine wpAnyL_only (i := 9) rfl (by kernel_rfl) (by rfl) fun K hK => ?_
        go_simp
        obtain ⟨u5, hu5⟩ : ∃ u, u = u4.alloc (.cells #[.int .i64 id, .int .i64 (n : Int), .int .i64 0, .int .i64 0, .int .i64 0, .int .i64 0, .slice (some ⟨gi, 0, none⟩) n n, .pointer (some ⟨lg, 0, none⟩), .int .i64 0, .pointer (some ⟨ck, 0, none⟩), .map (some u3.heap.size), .bool false] 106 (0, 0)) := ⟨_, rfl⟩
        rw [← hu5]
        have HU5 := hide hu5
        have L5 : Hid (Later u4 u5) := by rw [hu5]; exact (Below.refl _ _).alloc (Nat.le_refl _) _
        clear hu5
        refine hK.out _ _ L5.out ?_
        clear hK K
        try (simp only [Act.put]; try simp only [List.setIfInBounds_toArray]; try simp only [List.set_cons_zero, List.set_cons_succ])
        refine wpAnyL_take (i := 10) (d := some 30) (v := ?vaayxx10) rfl rfl (by kernel_rfl) (by kernel_rfl) (by kernel_rfl) (fun _ _ _ h => h) (by rfl) ?yaayxx10 ?_
        case yaayxx10 => (intro w' hw'; go_simp; try (with_reducible rfl))
        simp only [Act.put]; try simp only [List.setIfInBounds_toArray]; try simp only [List.set_cons_zero, List.set_cons_succ]
        refine wpAnyL_only (i := 11) rfl (by kernel_rfl) (by rfl) fun K hK => ?_
        go_simp
        obtain ⟨u6, hu6⟩ : ∃ u, u = u5.alloc (.cells #[.pointer (some ⟨u4.heap.size, 0, none⟩)] 70 (0, 0)) := ⟨_, rfl⟩
        rw [← hu6]
        have HU6 := hide hu6
        have L6 : Hid (Later u5 u6) := by rw [hu6]; exact (Below.refl _ _).alloc (Nat.le_refl _) _
        clear hu6
        refine hK.out _ _ L6.out ?_
        clear hK K
        try (simp only [Act.put]; try simp only [List.setIfInBounds_toArray]; try simp only [List.set_cons_zero, List.set_cons_succ])
        refine wpAnyL_take (i := 12) (d := some 4) (v := ?vaayxx12) rfl rfl (by kernel_rfl) (by kernel_rfl) (by kernel_rfl) (fun _ _ _ h => h) (by rfl) ?yaayxx12 ?_
        case yaayxx12 => (intro w' hw'; go_simp; try (with_reducible rfl))
        simp only [Act.put]; try simp only [List.setIfInBounds_toArray]; try simp only [List.set_cons_zero, List.set_cons_succ]
        refine wpAnyL_done (by kernel_rfl) ?_ _
        have hsz0 := HS0.out
        have z1 := Below.size L1.out
        have z2 := Below.size L2.out
        have z3 := Below.size L3.out
        have z4 := Below.size L4.out
        have ri := RI.out
        have sm := SM.out
        have LW : Hid (Later w u4) := D0.out.trans (L1.out.trans (L2.out.trans (L3.out.trans L4.out)))
        have FIN := hide (built (gi := gi) HQ.out HID.out HNN.out LW.out (lg_lower (HLG.out.below (L2.out.trans (L3.out.trans L4.out))) (by omega)) (clk_lower (HCK.out.later L4.out) (by omega)) (World.ownsMap.kept (row := none) OM.out ⟨((show Later u4 u4 from Below.refl _ _)).os, ((show Later u4 u4 from Below.refl _ _)).tape, ((show Later u4 u4 from Below.refl _ _)).output, ((show Later u4 u4 from Below.refl _ _)).size, fun i hi _ => ((show Later u4 u4 from Below.refl _ _)).block i hi⟩ (by simp)) (by omega) (own_lower (own_on OI.out (L3.out.trans L4.out)) (by omega)) (fun i h => ⟨fun h2 => by have a := HLG.out.1 i h; have b := HCK.out.1 i h2; omega, by have a := HLG.out.1 i h; omega, by have a := HLG.out.1 i h; omega⟩) (fun i h => ⟨by have a := HCK.out.1 i h; omega, by have a := HCK.out.1 i h; omega⟩) (by omega) HU5.out HU6.out)
        have S5 : u5.heap.size = u5.heap.size := rfl
        clear z1 z2 z3 z4 ri sm hsz0 S5 HLG HCK OM OI RI SM HU5 HU6 L1 L2 L3 L4 L5 L6 LW D0 HS0
        go_wp2
        go_ret
        obtain ⟨c', hm⟩ := FIN.out
        exact ⟨_, _, c', _, rfl, hm⟩
      · go_simp
        obtain ⟨u3, hu⟩ : ∃ u, u = u2.alloc (.map #[] 0) := ⟨_, rfl⟩
        rw [← hu]
        have L3 : Hid (Later u2 u3) := by rw [hu]; exact (Below.refl _ _).alloc (Nat.le_refl _) _
        have OM : Hid (u3.ownsMap Tryz.prog 3 heldR u2.heap.size 0 (mapD [])) := by rw [hu]; exact World.ownsMap_made _ _ _ _
        have SM : Hid (u3.heap.size = u2.heap.size + 1) := hide (by rw [hu]; simp)
        clear hu
        refine hK.out _ _ L3.out ?_
        clear hK K
        try (simp only [Act.put]; try simp only [List.setIfInBounds_toArray]; try simp only [List.set_cons_zero, List.set_cons_succ])
        refine wpAnyL_only (i := 6) rfl (by kernel_rfl) (by rfl) fun K hK => ?_
        go_simp
        refine (Ck.clk_new u3).mono ?_
        rintro e u4 ⟨ck, Sc, rfl, hl, hck⟩
        have HCK := hide hck
        have L4 : Hid (Later u3 u4) := hl
        refine hK.out _ _ L4.out ?_
        clear hck hl
        clear hK K
        try (simp only [Act.put]; try simp only [List.setIfInBounds_toArray]; try simp only [List.set_cons_zero, List.set_cons_succ])
        refine wpAnyL_take (i := 8) (d := some 28) (v := ?vaayxy8) rfl rfl (by kernel_rfl) (by kernel_rfl) (by kernel_rfl) (fun _ _ _ h => h) (by rfl) ?yaayxy8 ?_
        case yaayxy8 => (intro w' hw'; go_simp; try (with_reducible rfl))
        simp only [Act.put]; try simp only [List.setIfInBounds_toArray]; try simp only [List.set_cons_zero, List.set_cons_succ]
        refine wpAnyL_only (i := 9) rfl (by kernel_rfl) (by rfl) fun K hK => ?_
        go_simp
        obtain ⟨u5, hu5⟩ : ∃ u, u = u4.alloc (.cells #[.int .i64 id, .int .i64 (n : Int), .int .i64 0, .int .i64 0, .int .i64 0, .int .i64 0, .slice (some ⟨gi, 0, none⟩) n n, .pointer (some ⟨lg, 0, none⟩), .int .i64 0, .pointer (some ⟨ck, 0, none⟩), .map (some u2.heap.size), .bool false] 106 (0, 0)) := ⟨_, rfl⟩
        rw [← hu5]
        have HU5 := hide hu5
        have L5 : Hid (Later u4 u5) := by rw [hu5]; exact (Below.refl _ _).alloc (Nat.le_refl _) _
        clear hu5
        refine hK.out _ _ L5.out ?_
        clear hK K
        try (simp only [Act.put]; try simp only [List.setIfInBounds_toArray]; try simp only [List.set_cons_zero, List.set_cons_succ])
        refine wpAnyL_take (i := 10) (d := some 30) (v := ?vaayxy10) rfl rfl (by kernel_rfl) (by kernel_rfl) (by kernel_rfl) (fun _ _ _ h => h) (by rfl) ?yaayxy10 ?_
        case yaayxy10 => (intro w' hw'; go_simp; try (with_reducible rfl))
        simp only [Act.put]; try simp only [List.setIfInBounds_toArray]; try simp only [List.set_cons_zero, List.set_cons_succ]
        refine wpAnyL_only (i := 11) rfl (by kernel_rfl) (by rfl) fun K hK => ?_
        go_simp
        obtain ⟨u6, hu6⟩ : ∃ u, u = u5.alloc (.cells #[.pointer (some ⟨u4.heap.size, 0, none⟩)] 70 (0, 0)) := ⟨_, rfl⟩
        rw [← hu6]
        have HU6 := hide hu6
        have L6 : Hid (Later u5 u6) := by rw [hu6]; exact (Below.refl _ _).alloc (Nat.le_refl _) _
        clear hu6
        refine hK.out _ _ L6.out ?_
        clear hK K
        try (simp only [Act.put]; try simp only [List.setIfInBounds_toArray]; try simp only [List.set_cons_zero, List.set_cons_succ])
        refine wpAnyL_take (i := 12) (d := some 4) (v := ?vaayxy12) rfl rfl (by kernel_rfl) (by kernel_rfl) (by kernel_rfl) (fun _ _ _ h => h) (by rfl) ?yaayxy12 ?_
        case yaayxy12 => (intro w' hw'; go_simp; try (with_reducible rfl))
        simp only [Act.put]; try simp only [List.setIfInBounds_toArray]; try simp only [List.set_cons_zero, List.set_cons_succ]
        refine wpAnyL_done (by kernel_rfl) ?_ _
        have hsz0 := HS0.out
        have z1 := Below.size L1.out
        have z2 := Below.size L2.out
        have z3 := Below.size L3.out
        have z4 := Below.size L4.out
        have ri := RI.out
        have sm := SM.out
        have LW : Hid (Later w u4) := D0.out.trans (L1.out.trans (L2.out.trans (L3.out.trans L4.out)))
        have FIN := hide (built (gi := gi) HQ.out HID.out HNN.out LW.out (lg_lower (HLG.out.below (L2.out.trans (L3.out.trans L4.out))) (by omega)) (clk_lower (HCK.out.later (show Later u4 u4 from Below.refl _ _)) (by omega)) (World.ownsMap.kept (row := none) OM.out ⟨(L4.out).os, (L4.out).tape, (L4.out).output, (L4.out).size, fun i hi _ => (L4.out).block i hi⟩ (by simp)) (by omega) (own_lower (own_on OI.out (L3.out.trans L4.out)) (by omega)) (fun i h => ⟨fun h2 => by have a := HLG.out.1 i h; have b := HCK.out.1 i h2; omega, by have a := HLG.out.1 i h; omega, by have a := HLG.out.1 i h; omega⟩) (fun i h => ⟨by have a := HCK.out.1 i h; omega, by have a := HCK.out.1 i h; omega⟩) (by omega) HU5.out HU6.out)
        have S5 : u5.heap.size = u5.heap.size := rfl
        clear z1 z2 z3 z4 ri sm hsz0 S5 HLG HCK OM OI RI SM HU5 HU6 L1 L2 L3 L4 L5 L6 LW D0 HS0
        go_wp2
        go_ret
        obtain ⟨c', hm⟩ := FIN.out
        exact ⟨_, _, c', _, rfl, hm⟩
    · go_simp
      refine (Ck.clk_new u1).mono ?_
      rintro e u2 ⟨ck, Sc, rfl, hl, hck⟩
      have HCK := hide hck
      have L2 : Hid (Later u1 u2) := hl
      refine hK.out _ _ L2.out ?_
      clear hck hl
      clear hK K
      try (simp only [Act.put]; try simp only [List.setIfInBounds_toArray]; try simp only [List.set_cons_zero, List.set_cons_succ])
      refine wpAnyL_two (i := 4) (j := 7) rfl rfl (by kernel_rfl) (by rfl) (by rfl) (fun K hK => ?_) (fun K hK => ?_)
      · skip
        refine op_make_ints (n := n) (by rfl) rfl (by rfl) (by rfl) (by omega) ?_
        intro gi u3 g3 gl3 o3 l3
        have OI := hide o3
        have L3 := hide l3
        have RI : Hid (gi = u2.heap.size ∧ gi < u3.heap.size) := ⟨g3, gl3⟩
        refine hK.out _ _ l3 ?_
        clear o3 l3 g3 gl3
        clear hK K
        try (simp only [Act.put]; try simp only [List.setIfInBounds_toArray]; try simp only [List.set_cons_zero, List.set_cons_succ])
        refine wpAnyL_only (i := 7) rfl (by kernel_rfl) (by rfl) fun K hK => ?_
        go_simp
        obtain ⟨u4, hu⟩ : ∃ u, u = u3.alloc (.map #[] 0) := ⟨_, rfl⟩
        rw [← hu]
        have L4 : Hid (Later u3 u4) := by rw [hu]; exact (Below.refl _ _).alloc (Nat.le_refl _) _
        have OM : Hid (u4.ownsMap Tryz.prog 3 heldR u3.heap.size 0 (mapD [])) := by rw [hu]; exact World.ownsMap_made _ _ _ _
        have SM : Hid (u4.heap.size = u3.heap.size + 1) := hide (by rw [hu]; simp)
        clear hu
        refine hK.out _ _ L4.out ?_
        clear hK K
        try (simp only [Act.put]; try simp only [List.setIfInBounds_toArray]; try simp only [List.set_cons_zero, List.set_cons_succ])
        refine wpAnyL_take (i := 8) (d := some 28) (v := ?vaayyx8) rfl rfl (by kernel_rfl) (by kernel_rfl) (by kernel_rfl) (fun _ _ _ h => h) (by rfl) ?yaayyx8 ?_
        case yaayyx8 => (intro w' hw'; go_simp; try (with_reducible rfl))
        simp only [Act.put]; try simp only [List.setIfInBounds_toArray]; try simp only [List.set_cons_zero, List.set_cons_succ]
        refine wpAnyL_only (i := 9) rfl (by kernel_rfl) (by rfl) fun K hK => ?_
        go_simp
        obtain ⟨u5, hu5⟩ : ∃ u, u = u4.alloc (.cells #[.int .i64 id, .int .i64 (n : Int), .int .i64 0, .int .i64 0, .int .i64 0, .int .i64 0, .slice (some ⟨gi, 0, none⟩) n n, .pointer (some ⟨lg, 0, none⟩), .int .i64 0, .pointer (some ⟨ck, 0, none⟩), .map (some u3.heap.size), .bool false] 106 (0, 0)) := ⟨_, rfl⟩
        rw [← hu5]
        have HU5 := hide hu5
        have L5 : Hid (Later u4 u5) := by rw [hu5]; exact (Below.refl _ _).alloc (Nat.le_refl _) _
        clear hu5
        refine hK.out _ _ L5.out ?_
        clear hK K
        try (simp only [Act.put]; try simp only [List.setIfInBounds_toArray]; try simp only [List.set_cons_zero, List.set_cons_succ])
        refine wpAnyL_take (i := 10) (d := some 30) (v := ?vaayyx10) rfl rfl (by kernel_rfl) (by kernel_rfl) (by kernel_rfl) (fun _ _ _ h => h) (by rfl) ?yaayyx10 ?_
        case yaayyx10 => (intro w' hw'; go_simp; try (with_reducible rfl))
        simp only [Act.put]; try simp only [List.setIfInBounds_toArray]; try simp only [List.set_cons_zero, List.set_cons_succ]
        refine wpAnyL_only (i := 11) rfl (by kernel_rfl) (by rfl) fun K hK => ?_
        go_simp
        obtain ⟨u6, hu6⟩ : ∃ u, u = u5.alloc (.cells #[.pointer (some ⟨u4.heap.size, 0, none⟩)] 70 (0, 0)) := ⟨_, rfl⟩
        rw [← hu6]
        have HU6 := hide hu6
        have L6 : Hid (Later u5 u6) := by rw [hu6]; exact (Below.refl _ _).alloc (Nat.le_refl _) _
        clear hu6
        refine hK.out _ _ L6.out ?_
        clear hK K
        try (simp only [Act.put]; try simp only [List.setIfInBounds_toArray]; try simp only [List.set_cons_zero, List.set_cons_succ])
        refine wpAnyL_take (i := 12) (d := some 4) (v := ?vaayyx12) rfl rfl (by kernel_rfl) (by kernel_rfl) (by kernel_rfl) (fun _ _ _ h => h) (by rfl) ?yaayyx12 ?_
        case yaayyx12 => (intro w' hw'; go_simp; try (with_reducible rfl))
        simp only [Act.put]; try simp only [List.setIfInBounds_toArray]; try simp only [List.set_cons_zero, List.set_cons_succ]
        refine wpAnyL_done (by kernel_rfl) ?_ _
        have hsz0 := HS0.out
        have z1 := Below.size L1.out
        have z2 := Below.size L2.out
        have z3 := Below.size L3.out
        have z4 := Below.size L4.out
        have ri := RI.out
        have sm := SM.out
        have LW : Hid (Later w u4) := D0.out.trans (L1.out.trans (L2.out.trans (L3.out.trans L4.out)))
        have FIN := hide (built (gi := gi) HQ.out HID.out HNN.out LW.out (lg_lower (HLG.out.below (L2.out.trans (L3.out.trans L4.out))) (by omega)) (clk_lower (HCK.out.later (L3.out.trans L4.out)) (by omega)) (World.ownsMap.kept (row := none) OM.out ⟨((show Later u4 u4 from Below.refl _ _)).os, ((show Later u4 u4 from Below.refl _ _)).tape, ((show Later u4 u4 from Below.refl _ _)).output, ((show Later u4 u4 from Below.refl _ _)).size, fun i hi _ => ((show Later u4 u4 from Below.refl _ _)).block i hi⟩ (by simp)) (by omega) (own_lower (own_on OI.out L4.out) (by omega)) (fun i h => ⟨fun h2 => by have a := HLG.out.1 i h; have b := HCK.out.1 i h2; omega, by have a := HLG.out.1 i h; omega, by have a := HLG.out.1 i h; omega⟩) (fun i h => ⟨by have a := HCK.out.1 i h; omega, by have a := HCK.out.1 i h; omega⟩) (by omega) HU5.out HU6.out)
        have S5 : u5.heap.size = u5.heap.size := rfl
        clear z1 z2 z3 z4 ri sm hsz0 S5 HLG HCK OM OI RI SM HU5 HU6 L1 L2 L3 L4 L5 L6 LW D0 HS0
        go_wp2
        go_ret
        obtain ⟨c', hm⟩ := FIN.out
        exact ⟨_, _, c', _, rfl, hm⟩
      · go_simp
        obtain ⟨u3, hu⟩ : ∃ u, u = u2.alloc (.map #[] 0) := ⟨_, rfl⟩
        rw [← hu]
        have L3 : Hid (Later u2 u3) := by rw [hu]; exact (Below.refl _ _).alloc (Nat.le_refl _) _
        have OM : Hid (u3.ownsMap Tryz.prog 3 heldR u2.heap.size 0 (mapD [])) := by rw [hu]; exact World.ownsMap_made _ _ _ _
        have SM : Hid (u3.heap.size = u2.heap.size + 1) := hide (by rw [hu]; simp)
        clear hu
        refine hK.out _ _ L3.out ?_
        clear hK K
        try (simp only [Act.put]; try simp only [List.setIfInBounds_toArray]; try simp only [List.set_cons_zero, List.set_cons_succ])
        refine wpAnyL_only (i := 4) rfl (by kernel_rfl) (by rfl) fun K hK => ?_
        refine op_make_ints (n := n) (by rfl) rfl (by rfl) (by rfl) (by omega) ?_
        intro gi u4 g4 gl4 o4 l4
        have OI := hide o4
        have L4 := hide l4
        have RI : Hid (gi = u3.heap.size ∧ gi < u4.heap.size) := ⟨g4, gl4⟩
        refine hK.out _ _ l4 ?_
        clear o4 l4 g4 gl4
        clear hK K
        try (simp only [Act.put]; try simp only [List.setIfInBounds_toArray]; try simp only [List.set_cons_zero, List.set_cons_succ])
        refine wpAnyL_take (i := 8) (d := some 28) (v := ?vaayyy8) rfl rfl (by kernel_rfl) (by kernel_rfl) (by kernel_rfl) (fun _ _ _ h => h) (by rfl) ?yaayyy8 ?_
        case yaayyy8 => (intro w' hw'; go_simp; try (with_reducible rfl))
        simp only [Act.put]; try simp only [List.setIfInBounds_toArray]; try simp only [List.set_cons_zero, List.set_cons_succ]
        refine wpAnyL_only (i := 9) rfl (by kernel_rfl) (by rfl) fun K hK => ?_
        go_simp
        obtain ⟨u5, hu5⟩ : ∃ u, u = u4.alloc (.cells #[.int .i64 id, .int .i64 (n : Int), .int .i64 0, .int .i64 0, .int .i64 0, .int .i64 0, .slice (some ⟨gi, 0, none⟩) n n, .pointer (some ⟨lg, 0, none⟩), .int .i64 0, .pointer (some ⟨ck, 0, none⟩), .map (some u2.heap.size), .bool false] 106 (0, 0)) := ⟨_, rfl⟩
        rw [← hu5]
        have HU5 := hide hu5
        have L5 : Hid (Later u4 u5) := by rw [hu5]; exact (Below.refl _ _).alloc (Nat.le_refl _) _
        clear hu5
        refine hK.out _ _ L5.out ?_
        clear hK K
        try (simp only [Act.put]; try simp only [List.setIfInBounds_toArray]; try simp only [List.set_cons_zero, List.set_cons_succ])
        refine wpAnyL_take (i := 10) (d := some 30) (v := ?vaayyy10) rfl rfl (by kernel_rfl) (by kernel_rfl) (by kernel_rfl) (fun _ _ _ h => h) (by rfl) ?yaayyy10 ?_
        case yaayyy10 => (intro w' hw'; go_simp; try (with_reducible rfl))
        simp only [Act.put]; try simp only [List.setIfInBounds_toArray]; try simp only [List.set_cons_zero, List.set_cons_succ]
        refine wpAnyL_only (i := 11) rfl (by kernel_rfl) (by rfl) fun K hK => ?_
        go_simp
        obtain ⟨u6, hu6⟩ : ∃ u, u = u5.alloc (.cells #[.pointer (some ⟨u4.heap.size, 0, none⟩)] 70 (0, 0)) := ⟨_, rfl⟩
        rw [← hu6]
        have HU6 := hide hu6
        have L6 : Hid (Later u5 u6) := by rw [hu6]; exact (Below.refl _ _).alloc (Nat.le_refl _) _
        clear hu6
        refine hK.out _ _ L6.out ?_
        clear hK K
        try (simp only [Act.put]; try simp only [List.setIfInBounds_toArray]; try simp only [List.set_cons_zero, List.set_cons_succ])
        refine wpAnyL_take (i := 12) (d := some 4) (v := ?vaayyy12) rfl rfl (by kernel_rfl) (by kernel_rfl) (by kernel_rfl) (fun _ _ _ h => h) (by rfl) ?yaayyy12 ?_
        case yaayyy12 => (intro w' hw'; go_simp; try (with_reducible rfl))
        simp only [Act.put]; try simp only [List.setIfInBounds_toArray]; try simp only [List.set_cons_zero, List.set_cons_succ]
        refine wpAnyL_done (by kernel_rfl) ?_ _
        have hsz0 := HS0.out
        have z1 := Below.size L1.out
        have z2 := Below.size L2.out
        have z3 := Below.size L3.out
        have z4 := Below.size L4.out
        have ri := RI.out
        have sm := SM.out
        have LW : Hid (Later w u4) := D0.out.trans (L1.out.trans (L2.out.trans (L3.out.trans L4.out)))
        have FIN := hide (built (gi := gi) HQ.out HID.out HNN.out LW.out (lg_lower (HLG.out.below (L2.out.trans (L3.out.trans L4.out))) (by omega)) (clk_lower (HCK.out.later (L3.out.trans L4.out)) (by omega)) (World.ownsMap.kept (row := none) OM.out ⟨(L4.out).os, (L4.out).tape, (L4.out).output, (L4.out).size, fun i hi _ => (L4.out).block i hi⟩ (by simp)) (by omega) (own_lower (own_on OI.out (show Later u4 u4 from Below.refl _ _)) (by omega)) (fun i h => ⟨fun h2 => by have a := HLG.out.1 i h; have b := HCK.out.1 i h2; omega, by have a := HLG.out.1 i h; omega, by have a := HLG.out.1 i h; omega⟩) (fun i h => ⟨by have a := HCK.out.1 i h; omega, by have a := HCK.out.1 i h; omega⟩) (by omega) HU5.out HU6.out)
        have S5 : u5.heap.size = u5.heap.size := rfl
        clear z1 z2 z3 z4 ri sm hsz0 S5 HLG HCK OM OI RI SM HU5 HU6 L1 L2 L3 L4 L5 L6 LW D0 HS0
        go_wp2
        go_ret
        obtain ⟨c', hm⟩ := FIN.out
        exact ⟨_, _, c', _, rfl, hm⟩
    · go_simp
      obtain ⟨u2, hu⟩ : ∃ u, u = u1.alloc (.map #[] 0) := ⟨_, rfl⟩
      rw [← hu]
      have L2 : Hid (Later u1 u2) := by rw [hu]; exact (Below.refl _ _).alloc (Nat.le_refl _) _
      have OM : Hid (u2.ownsMap Tryz.prog 3 heldR u1.heap.size 0 (mapD [])) := by rw [hu]; exact World.ownsMap_made _ _ _ _
      have SM : Hid (u2.heap.size = u1.heap.size + 1) := hide (by rw [hu]; simp)
      clear hu
      refine hK.out _ _ L2.out ?_
      clear hK K
      try (simp only [Act.put]; try simp only [List.setIfInBounds_toArray]; try simp only [List.set_cons_zero, List.set_cons_succ])
      refine wpAnyL_two (i := 4) (j := 6) rfl rfl (by kernel_rfl) (by rfl) (by rfl) (fun K hK => ?_) (fun K hK => ?_)
      · skip
        refine op_make_ints (n := n) (by rfl) rfl (by rfl) (by rfl) (by omega) ?_
        intro gi u3 g3 gl3 o3 l3
        have OI := hide o3
        have L3 := hide l3
        have RI : Hid (gi = u2.heap.size ∧ gi < u3.heap.size) := ⟨g3, gl3⟩
        refine hK.out _ _ l3 ?_
        clear o3 l3 g3 gl3
        clear hK K
        try (simp only [Act.put]; try simp only [List.setIfInBounds_toArray]; try simp only [List.set_cons_zero, List.set_cons_succ])
        refine wpAnyL_only (i := 6) rfl (by kernel_rfl) (by rfl) fun K hK => ?_
        go_simp
        refine (Ck.clk_new u3).mono ?_
        rintro e u4 ⟨ck, Sc, rfl, hl, hck⟩
        have HCK := hide hck
        have L4 : Hid (Later u3 u4) := hl
        refine hK.out _ _ L4.out ?_
        clear hck hl
        clear hK K
        try (simp only [Act.put]; try simp only [List.setIfInBounds_toArray]; try simp only [List.set_cons_zero, List.set_cons_succ])
        refine wpAnyL_take (i := 8) (d := some 28) (v := ?vaayzx8) rfl rfl (by kernel_rfl) (by kernel_rfl) (by kernel_rfl) (fun _ _ _ h => h) (by rfl) ?yaayzx8 ?_
        case yaayzx8 => (intro w' hw'; go_simp; try (with_reducible rfl))
        simp only [Act.put]; try simp only [List.setIfInBounds_toArray]; try simp only [List.set_cons_zero, List.set_cons_succ]
        refine wpAnyL_only (i := 9) rfl (by kernel_rfl) (by rfl) fun K hK => ?_
        go_simp
        obtain ⟨u5, hu5⟩ : ∃ u, u = u4.alloc (.cells #[.int .i64 id, .int .i64 (n : Int), .int .i64 0, .int .i64 0, .int .i64 0, .int .i64 0, .slice (some ⟨gi, 0, none⟩) n n, .pointer (some ⟨lg, 0, none⟩), .int .i64 0, .pointer (some ⟨ck, 0, none⟩), .map (some u1.heap.size), .bool false] 106 (0, 0)) := ⟨_, rfl⟩
        rw [← hu5]
        have HU5 := hide hu5
        have L5 : Hid (Later u4 u5) := by rw [hu5]; exact (Below.refl _ _).alloc (Nat.le_refl _) _
        clear hu5
        refine hK.out _ _ L5.out ?_
        clear hK K
        try (simp only [Act.put]; try simp only [List.setIfInBounds_toArray]; try simp only [List.set_cons_zero, List.set_cons_succ])
        refine wpAnyL_take (i := 10) (d := some 30) (v := ?vaayzx10) rfl rfl (by kernel_rfl) (by kernel_rfl) (by kernel_rfl) (fun _ _ _ h => h) (by rfl) ?yaayzx10 ?_
        case yaayzx10 => (intro w' hw'; go_simp; try (with_reducible rfl))
        simp only [Act.put]; try simp only [List.setIfInBounds_toArray]; try simp only [List.set_cons_zero, List.set_cons_succ]
        refine wpAnyL_only (i := 11) rfl (by kernel_rfl) (by rfl) fun K hK => ?_
        go_simp
        obtain ⟨u6, hu6⟩ : ∃ u, u = u5.alloc (.cells #[.pointer (some ⟨u4.heap.size, 0, none⟩)] 70 (0, 0)) := ⟨_, rfl⟩
        rw [← hu6]
        have HU6 := hide hu6
        have L6 : Hid (Later u5 u6) := by rw [hu6]; exact (Below.refl _ _).alloc (Nat.le_refl _) _
        clear hu6
        refine hK.out _ _ L6.out ?_
        clear hK K
        try (simp only [Act.put]; try simp only [List.setIfInBounds_toArray]; try simp only [List.set_cons_zero, List.set_cons_succ])
        refine wpAnyL_take (i := 12) (d := some 4) (v := ?vaayzx12) rfl rfl (by kernel_rfl) (by kernel_rfl) (by kernel_rfl) (fun _ _ _ h => h) (by rfl) ?yaayzx12 ?_
        case yaayzx12 => (intro w' hw'; go_simp; try (with_reducible rfl))
        simp only [Act.put]; try simp only [List.setIfInBounds_toArray]; try simp only [List.set_cons_zero, List.set_cons_succ]
        refine wpAnyL_done (by kernel_rfl) ?_ _
        have hsz0 := HS0.out
        have z1 := Below.size L1.out
        have z2 := Below.size L2.out
        have z3 := Below.size L3.out
        have z4 := Below.size L4.out
        have ri := RI.out
        have sm := SM.out
        have LW : Hid (Later w u4) := D0.out.trans (L1.out.trans (L2.out.trans (L3.out.trans L4.out)))
        have FIN := hide (built (gi := gi) HQ.out HID.out HNN.out LW.out (lg_lower (HLG.out.below (L2.out.trans (L3.out.trans L4.out))) (by omega)) (clk_lower (HCK.out.later (show Later u4 u4 from Below.refl _ _)) (by omega)) (World.ownsMap.kept (row := none) OM.out ⟨((L3.out.trans L4.out)).os, ((L3.out.trans L4.out)).tape, ((L3.out.trans L4.out)).output, ((L3.out.trans L4.out)).size, fun i hi _ => ((L3.out.trans L4.out)).block i hi⟩ (by simp)) (by omega) (own_lower (own_on OI.out L4.out) (by omega)) (fun i h => ⟨fun h2 => by have a := HLG.out.1 i h; have b := HCK.out.1 i h2; omega, by have a := HLG.out.1 i h; omega, by have a := HLG.out.1 i h; omega⟩) (fun i h => ⟨by have a := HCK.out.1 i h; omega, by have a := HCK.out.1 i h; omega⟩) (by omega) HU5.out HU6.out)
        have S5 : u5.heap.size = u5.heap.size := rfl
        clear z1 z2 z3 z4 ri sm hsz0 S5 HLG HCK OM OI RI SM HU5 HU6 L1 L2 L3 L4 L5 L6 LW D0 HS0
        go_wp2
        go_ret
        obtain ⟨c', hm⟩ := FIN.out
        exact ⟨_, _, c', _, rfl, hm⟩
      · go_simp
        refine (Ck.clk_new u2).mono ?_
        rintro e u3 ⟨ck, Sc, rfl, hl, hck⟩
        have HCK := hide hck
        have L3 : Hid (Later u2 u3) := hl
        refine hK.out _ _ L3.out ?_
        clear hck hl
        clear hK K
        try (simp only [Act.put]; try simp only [List.setIfInBounds_toArray]; try simp only [List.set_cons_zero, List.set_cons_succ])
        refine wpAnyL_only (i := 4) rfl (by kernel_rfl) (by rfl) fun K hK => ?_
        refine op_make_ints (n := n) (by rfl) rfl (by rfl) (by rfl) (by omega) ?_
        intro gi u4 g4 gl4 o4 l4
        have OI := hide o4
        have L4 := hide l4
        have RI : Hid (gi = u3.heap.size ∧ gi < u4.heap.size) := ⟨g4, gl4⟩
        refine hK.out _ _ l4 ?_
        clear o4 l4 g4 gl4
        clear hK K
        try (simp only [Act.put]; try simp only [List.setIfInBounds_toArray]; try simp only [List.set_cons_zero, List.set_cons_succ])
        refine wpAnyL_take (i := 8) (d := some 28) (v := ?vaayzy8) rfl rfl (by kernel_rfl) (by kernel_rfl) (by kernel_rfl) (fun _ _ _ h => h) (by rfl) ?yaayzy8 ?_
        case yaayzy8 => (intro w' hw'; go_simp; try (with_reducible rfl))
        simp only [Act.put]; try simp only [List.setIfInBounds_toArray]; try simp only [List.set_cons_zero, List.set_cons_succ]
        refine wpAnyL_only (i := 9) rfl (by kernel_rfl) (by rfl) fun K hK => ?_
        go_simp
        obtain ⟨u5, hu5⟩ : ∃ u, u = u4.alloc (.cells #[.int .i64 id, .int .i64 (n : Int), .int .i64 0, .int .i64 0, .int .i64 0, .int .i64 0, .slice (some ⟨gi, 0, none⟩) n n, .pointer (some ⟨lg, 0, none⟩), .int .i64 0, .pointer (some ⟨ck, 0, none⟩), .map (some u1.heap.size), .bool false] 106 (0, 0)) := ⟨_, rfl⟩
        rw [← hu5]
        have HU5 := hide hu5
        have L5 : Hid (Later u4 u5) := by rw [hu5]; exact (Below.refl _ _).alloc (Nat.le_refl _) _
        clear hu5
        refine hK.out _ _ L5.out ?_
        clear hK K
        try (simp only [Act.put]; try simp only [List.setIfInBounds_toArray]; try simp only [List.set_cons_zero, List.set_cons_succ])
        refine wpAnyL_take (i := 10) (d := some 30) (v := ?vaayzy10) rfl rfl (by kernel_rfl) (by kernel_rfl) (by kernel_rfl) (fun _ _ _ h => h) (by rfl) ?yaayzy10 ?_
        case yaayzy10 => (intro w' hw'; go_simp; try (with_reducible rfl))
        simp only [Act.put]; try simp only [List.setIfInBounds_toArray]; try simp only [List.set_cons_zero, List.set_cons_succ]
        refine wpAnyL_only (i := 11) rfl (by kernel_rfl) (by rfl) fun K hK => ?_
        go_simp
        obtain ⟨u6, hu6⟩ : ∃ u, u = u5.alloc (.cells #[.pointer (some ⟨u4.heap.size, 0, none⟩)] 70 (0, 0)) := ⟨_, rfl⟩
        rw [← hu6]
        have HU6 := hide hu6
        have L6 : Hid (Later u5 u6) := by rw [hu6]; exact (Below.refl _ _).alloc (Nat.le_refl _) _
        clear hu6
        refine hK.out _ _ L6.out ?_
        clear hK K
        try (simp only [Act.put]; try simp only [List.setIfInBounds_toArray]; try simp only [List.set_cons_zero, List.set_cons_succ])
        refine wpAnyL_take (i := 12) (d := some 4) (v := ?vaayzy12) rfl rfl (by kernel_rfl) (by kernel_rfl) (by kernel_rfl) (fun _ _ _ h => h) (by rfl) ?yaayzy12 ?_
        case yaayzy12 => (intro w' hw'; go_simp; try (with_reducible rfl))
        simp only [Act.put]; try simp only [List.setIfInBounds_toArray]; try simp only [List.set_cons_zero, List.set_cons_succ]
        refine wpAnyL_done (by kernel_rfl) ?_ _
        have hsz0 := HS0.out
        have z1 := Below.size L1.out
        have z2 := Below.size L2.out
        have z3 := Below.size L3.out
        have z4 := Below.size L4.out
        have ri := RI.out
        have sm := SM.out
        have LW : Hid (Later w u4) := D0.out.trans (L1.out.trans (L2.out.trans (L3.out.trans L4.out)))
        have FIN := hide (built (gi := gi) HQ.out HID.out HNN.out LW.out (lg_lower (HLG.out.below (L2.out.trans (L3.out.trans L4.out))) (by omega)) (clk_lower (HCK.out.later L4.out) (by omega)) (World.ownsMap.kept (row := none) OM.out ⟨((L3.out.trans L4.out)).os, ((L3.out.trans L4.out)).tape, ((L3.out.trans L4.out)).output, ((L3.out.trans L4.out)).size, fun i hi _ => ((L3.out.trans L4.out)).block i hi⟩ (by simp)) (by omega) (own_lower (own_on OI.out (show Later u4 u4 from Below.refl _ _)) (by omega)) (fun i h => ⟨fun h2 => by have a := HLG.out.1 i h; have b := HCK.out.1 i h2; omega, by have a := HLG.out.1 i h; omega, by have a := HLG.out.1 i h; omega⟩) (fun i h => ⟨by have a := HCK.out.1 i h; omega, by have a := HCK.out.1 i h; omega⟩) (by omega) HU5.out HU6.out)
        have S5 : u5.heap.size = u5.heap.size := rfl
        clear z1 z2 z3 z4 ri sm hsz0 S5 HLG HCK OM OI RI SM HU5 HU6 L1 L2 L3 L4 L5 L6 LW D0 HS0
        go_wp2
        go_ret
        obtain ⟨c', hm⟩ := FIN.out
        exact ⟨_, _, c', _, rfl, hm⟩
  · go_simp
    obtain ⟨u1, hu⟩ : ∃ u, u = u0.alloc (.map #[] 0) := ⟨_, rfl⟩
    rw [← hu]
    have L1 : Hid (Later u0 u1) := by rw [hu]; exact (Below.refl _ _).alloc (Nat.le_refl _) _
    have OM : Hid (u1.ownsMap Tryz.prog 3 heldR u0.heap.size 0 (mapD [])) := by rw [hu]; exact World.ownsMap_made _ _ _ _
    have SM : Hid (u1.heap.size = u0.heap.size + 1) := hide (by rw [hu]; simp)
    clear hu
    refine hK.out _ _ L1.out ?_
    clear hK K
    try (simp only [Act.put]; try simp only [List.setIfInBounds_toArray]; try simp only [List.set_cons_zero, List.set_cons_succ])
    refine wpAnyL_two (i := 4) (j := 5) rfl rfl (by kernel_rfl) (by rfl) (by rfl) (fun K hK => ?_) (fun K hK => ?_)
    · skip
      refine op_make_ints (n := n) (by rfl) rfl (by rfl) (by rfl) (by omega) ?_
      intro gi u2 g2 gl2 o2 l2
      have OI := hide o2
      have L2 := hide l2
      have RI : Hid (gi = u1.heap.size ∧ gi < u2.heap.size) := ⟨g2, gl2⟩
      refine hK.out _ _ l2 ?_
      clear o2 l2 g2 gl2
      clear hK K
      try (simp only [Act.put]; try simp only [List.setIfInBounds_toArray]; try simp only [List.set_cons_zero, List.set_cons_succ])
      refine wpAnyL_only (i := 5) rfl (by kernel_rfl) (by rfl) fun K hK => ?_
      go_simp
      refine (Ol.lg_new u2).mono ?_
      rintro e u3 ⟨lg, Sl, rfl, hlg, hl⟩
      have HLG := hide hlg
      have L3 : Hid (Later u2 u3) := hl
      refine hK.out _ _ L3.out ?_
      clear hlg hl
      clear hK K
      try (simp only [Act.put]; try simp only [List.setIfInBounds_toArray]; try simp only [List.set_cons_zero, List.set_cons_succ])
      refine wpAnyL_only (i := 6) rfl (by kernel_rfl) (by rfl) fun K hK => ?_
      go_simp
      refine (Ck.clk_new u3).mono ?_
      rintro e u4 ⟨ck, Sc, rfl, hl, hck⟩
      have HCK := hide hck
      have L4 : Hid (Later u3 u4) := hl
      refine hK.out _ _ L4.out ?_
      clear hck hl
      clear hK K
      try (simp only [Act.put]; try simp only [List.setIfInBounds_toArray]; try simp only [List.set_cons_zero, List.set_cons_succ])
      refine wpAnyL_take (i := 8) (d := some 28) (v := ?vaazx8) rfl rfl (by kernel_rfl) (by kernel_rfl) (by kernel_rfl) (fun _ _ _ h => h) (by rfl) ?yaazx8 ?_
      case yaazx8 => (intro w' hw'; go_simp; try (with_reducible rfl))
      simp only [Act.put]; try simp only [List.setIfInBounds_toArray]; try simp only [List.set_cons_zero, List.set_cons_succ]
      refine wpAnyL_only (i := 9) rfl (by kernel_rfl) (by rfl) fun K hK => ?_
      go_simp
      obtain ⟨u5, hu5⟩ : ∃ u, u = u4.alloc (.cells #[.int .i64 id, .int .i64 (n : Int), .int .i64 0, .int .i64 0, .int .i64 0, .int .i64 0, .slice (some ⟨gi, 0, none⟩) n n, .pointer (some ⟨lg, 0, none⟩), .int .i64 0, .pointer (some ⟨ck, 0, none⟩), .map (some u0.heap.size), .bool false] 106 (0, 0)) := ⟨_, rfl⟩
      rw [← hu5]
      have HU5 := hide hu5
      have L5 : Hid (Later u4 u5) := by rw [hu5]; exact (Below.refl _ _).alloc (Nat.le_refl _) _
      clear hu5
      refine hK.out _ _ L5.out ?_
      clear hK K
      try (simp only [Act.put]; try simp only [List.setIfInBounds_toArray]; try simp only [List.set_cons_zero, List.set_cons_succ])
      refine wpAnyL_take (i := 10) (d := some 30) (v := ?vaazx10) rfl rfl (by kernel_rfl) (by kernel_rfl) (by kernel_rfl) (fun _ _ _ h => h) (by rfl) ?yaazx10 ?_
      case yaazx10 => (intro w' hw'; go_simp; try (with_reducible rfl))
      simp only [Act.put]; try simp only [List.setIfInBounds_toArray]; try simp only [List.set_cons_zero, List.set_cons_succ]
      refine wpAnyL_only (i := 11) rfl (by kernel_rfl) (by rfl) fun K hK => ?_
      go_simp
      obtain ⟨u6, hu6⟩ : ∃ u, u = u5.alloc (.cells #[.pointer (some ⟨u4.heap.size, 0, none⟩)] 70 (0, 0)) := ⟨_, rfl⟩
      rw [← hu6]
      have HU6 := hide hu6
      have L6 : Hid (Later u5 u6) := by rw [hu6]; exact (Below.refl _ _).alloc (Nat.le_refl _) _
      clear hu6
      refine hK.out _ _ L6.out ?_
      clear hK K
      try (simp only [Act.put]; try simp only [List.setIfInBounds_toArray]; try simp only [List.set_cons_zero, List.set_cons_succ])
      refine wpAnyL_take (i := 12) (d := some 4) (v := ?vaazx12) rfl rfl (by kernel_rfl) (by kernel_rfl) (by kernel_rfl) (fun _ _ _ h => h) (by rfl) ?yaazx12 ?_
      case yaazx12 => (intro w' hw'; go_simp; try (with_reducible rfl))
      simp only [Act.put]; try simp only [List.setIfInBounds_toArray]; try simp only [List.set_cons_zero, List.set_cons_succ]
      refine wpAnyL_done (by kernel_rfl) ?_ _
      have hsz0 := HS0.out
      have z1 := Below.size L1.out
      have z2 := Below.size L2.out
      have z3 := Below.size L3.out
      have z4 := Below.size L4.out
      have ri := RI.out
      have sm := SM.out
      have LW : Hid (Later w u4) := D0.out.trans (L1.out.trans (L2.out.trans (L3.out.trans L4.out)))
      have FIN := hide (built (gi := gi) HQ.out HID.out HNN.out LW.out (lg_lower (HLG.out.below L4.out) (by omega)) (clk_lower (HCK.out.later (show Later u4 u4 from Below.refl _ _)) (by omega)) (World.ownsMap.kept (row := none) OM.out ⟨((L2.out.trans (L3.out.trans L4.out))).os, ((L2.out.trans (L3.out.trans L4.out))).tape, ((L2.out.trans (L3.out.trans L4.out))).output, ((L2.out.trans (L3.out.trans L4.out))).size, fun i hi _ => ((L2.out.trans (L3.out.trans L4.out))).block i hi⟩ (by simp)) (by omega) (own_lower (own_on OI.out (L3.out.trans L4.out)) (by omega)) (fun i h => ⟨fun h2 => by have a := HLG.out.1 i h; have b := HCK.out.1 i h2; omega, by have a := HLG.out.1 i h; omega, by have a := HLG.out.1 i h; omega⟩) (fun i h => ⟨by have a := HCK.out.1 i h; omega, by have a := HCK.out.1 i h; omega⟩) (by omega) HU5.out HU6.out)
      have S5 : u5.heap.size = u5.heap.size := rfl
      clear z1 z2 z3 z4 ri sm hsz0 S5 HLG HCK OM OI RI SM HU5 HU6 L1 L2 L3 L4 L5 L6 LW D0 HS0
      go_wp2
      go_ret
      obtain ⟨c', hm⟩ := FIN.out
      exact ⟨_, _, c', _, rfl, hm⟩
    · go_simp
      refine (Ol.lg_new u1).mono ?_
      rintro e u2 ⟨lg, Sl, rfl, hlg, hl⟩
      have HLG := hide hlg
      have L2 : Hid (Later u1 u2) := hl
      refine hK.out _ _ L2.out ?_
      clear hlg hl
      clear hK K
      try (simp only [Act.put]; try simp only [List.setIfInBounds_toArray]; try simp only [List.set_cons_zero, List.set_cons_succ])
      refine wpAnyL_two (i := 4) (j := 6) rfl rfl (by kernel_rfl) (by rfl) (by rfl) (fun K hK => ?_) (fun K hK => ?_)
      · skip
        refine op_make_ints (n := n) (by rfl) rfl (by rfl) (by rfl) (by omega) ?_
        intro gi u3 g3 gl3 o3 l3
        have OI := hide o3
        have L3 := hide l3
        have RI : Hid (gi = u2.heap.size ∧ gi < u3.heap.size) := ⟨g3, gl3⟩
        refine hK.out _ _ l3 ?_
        clear o3 l3 g3 gl3
        clear hK K
        try (simp only [Act.put]; try simp only [List.setIfInBounds_toArray]; try simp only [List.set_cons_zero, List.set_cons_succ])
        refine wpAnyL_only (i := 6) rfl (by kernel_rfl) (by rfl) fun K hK => ?_
        go_simp
        refine (Ck.clk_new u3).mono ?_
        rintro e u4 ⟨ck, Sc, rfl, hl, hck⟩
        have HCK := hide hck
        have L4 : Hid (Later u3 u4) := hl
        refine hK.out _ _ L4.out ?_
        clear hck hl
        clear hK K
        try (simp only [Act.put]; try simp only [List.setIfInBounds_toArray]; try simp only [List.set_cons_zero, List.set_cons_succ])
        refine wpAnyL_take (i := 8) (d := some 28) (v := ?vaazyx8) rfl rfl (by kernel_rfl) (by kernel_rfl) (by kernel_rfl) (fun _ _ _ h => h) (by rfl) ?yaazyx8 ?_
        case yaazyx8 => (intro w' hw'; go_simp; try (with_reducible rfl))
        simp only [Act.put]; try simp only [List.setIfInBounds_toArray]; try simp only [List.set_cons_zero, List.set_cons_succ]
        refine wpAnyL_only (i := 9) rfl (by kernel_rfl) (by rfl) fun K hK => ?_
        go_simp
        obtain ⟨u5, hu5⟩ : ∃ u, u = u4.alloc (.cells #[.int .i64 id, .int .i64 (n : Int), .int .i64 0, .int .i64 0, .int .i64 0, .int .i64 0, .slice (some ⟨gi, 0, none⟩) n n, .pointer (some ⟨lg, 0, none⟩), .int .i64 0, .pointer (some ⟨ck, 0, none⟩), .map (some u0.heap.size), .bool false] 106 (0, 0)) := ⟨_, rfl⟩
        rw [← hu5]
        have HU5 := hide hu5
        have L5 : Hid (Later u4 u5) := by rw [hu5]; exact (Below.refl _ _).alloc (Nat.le_refl _) _
        clear hu5
        refine hK.out _ _ L5.out ?_
        clear hK K
        try (simp only [Act.put]; try simp only [List.setIfInBounds_toArray]; try simp only [List.set_cons_zero, List.set_cons_succ])
        refine wpAnyL_take (i := 10) (d := some 30) (v := ?vaazyx10) rfl rfl (by kernel_rfl) (by kernel_rfl) (by kernel_rfl) (fun _ _ _ h => h) (by rfl) ?yaazyx10 ?_
        case yaazyx10 => (intro w' hw'; go_simp; try (with_reducible rfl))
        simp only [Act.put]; try simp only [List.setIfInBounds_toArray]; try simp only [List.set_cons_zero, List.set_cons_succ]
        refine wpAnyL_only (i := 11) rfl (by kernel_rfl) (by rfl) fun K hK => ?_
        go_simp
        obtain ⟨u6, hu6⟩ : ∃ u, u = u5.alloc (.cells #[.pointer (some ⟨u4.heap.size, 0, none⟩)] 70 (0, 0)) := ⟨_, rfl⟩
        rw [← hu6]
        have HU6 := hide hu6
        have L6 : Hid (Later u5 u6) := by rw [hu6]; exact (Below.refl _ _).alloc (Nat.le_refl _) _
        clear hu6
        refine hK.out _ _ L6.out ?_
        clear hK K
        try (simp only [Act.put]; try simp only [List.setIfInBounds_toArray]; try simp only [List.set_cons_zero, List.set_cons_succ])
        refine wpAnyL_take (i := 12) (d := some 4) (v := ?vaazyx12) rfl rfl (by kernel_rfl) (by kernel_rfl) (by kernel_rfl) (fun _ _ _ h => h) (by rfl) ?yaazyx12 ?_
        case yaazyx12 => (intro w' hw'; go_simp; try (with_reducible rfl))
        simp only [Act.put]; try simp only [List.setIfInBounds_toArray]; try simp only [List.set_cons_zero, List.set_cons_succ]
        refine wpAnyL_done (by kernel_rfl) ?_ _
        have hsz0 := HS0.out
        have z1 := Below.size L1.out
        have z2 := Below.size L2.out
        have z3 := Below.size L3.out
        have z4 := Below.size L4.out
        have ri := RI.out
        have sm := SM.out
        have LW : Hid (Later w u4) := D0.out.trans (L1.out.trans (L2.out.trans (L3.out.trans L4.out)))
        have FIN := hide (built (gi := gi) HQ.out HID.out HNN.out LW.out (lg_lower (HLG.out.below (L3.out.trans L4.out)) (by omega)) (clk_lower (HCK.out.later (show Later u4 u4 from Below.refl _ _)) (by omega)) (World.ownsMap.kept (row := none) OM.out ⟨((L2.out.trans (L3.out.trans L4.out))).os, ((L2.out.trans (L3.out.trans L4.out))).tape, ((L2.out.trans (L3.out.trans L4.out))).output, ((L2.out.trans (L3.out.trans L4.out))).size, fun i hi _ => ((L2.out.trans (L3.out.trans L4.out))).block i hi⟩ (by simp)) (by omega) (own_lower (own_on OI.out L4.out) (by omega)) (fun i h => ⟨fun h2 => by have a := HLG.out.1 i h; have b := HCK.out.1 i h2; omega, by have a := HLG.out.1 i h; omega, by have a := HLG.out.1 i h; omega⟩) (fun i h => ⟨by have a := HCK.out.1 i h; omega, by have a := HCK.out.1 i h; omega⟩) (by omega) HU5.out HU6.out)
        have S5 : u5.heap.size = u5.heap.size := rfl
        clear z1 z2 z3 z4 ri sm hsz0 S5 HLG HCK OM OI RI SM HU5 HU6 L1 L2 L3 L4 L5 L6 LW D0 HS0
        go_wp2
        go_ret
        obtain ⟨c', hm⟩ := FIN.out
        exact ⟨_, _, c', _, rfl, hm⟩
      · go_simp
        refine (Ck.clk_new u2).mono ?_
        rintro e u3 ⟨ck, Sc, rfl, hl, hck⟩
        have HCK := hide hck
        have L3 : Hid (Later u2 u3) := hl
        refine hK.out _ _ L3.out ?_
        clear hck hl
        clear hK K
        try (simp only [Act.put]; try simp only [List.setIfInBounds_toArray]; try simp only [List.set_cons_zero, List.set_cons_succ])
        refine wpAnyL_only (i := 4) rfl (by kernel_rfl) (by rfl) fun K hK => ?_
        refine op_make_ints (n := n) (by rfl) rfl (by rfl) (by rfl) (by omega) ?_
        intro gi u4 g4 gl4 o4 l4
        have OI := hide o4
        have L4 := hide l4
        have RI : Hid (gi = u3.heap.size ∧ gi < u4.heap.size) := ⟨g4, gl4⟩
        refine hK.out _ _ l4 ?_
        clear o4 l4 g4 gl4
        clear hK K
        try (simp only [Act.put]; try simp only [List.setIfInBounds_toArray]; try simp only [List.set_cons_zero, List.set_cons_succ])
        refine wpAnyL_take (i := 8) (d := some 28) (v := ?vaazyy8) rfl rfl (by kernel_rfl) (by kernel_rfl) (by kernel_rfl) (fun _ _ _ h => h) (by rfl) ?yaazyy8 ?_
        case yaazyy8 => (intro w' hw'; go_simp; try (with_reducible rfl))
        simp only [Act.put]; try simp only [List.setIfInBounds_toArray]; try simp only [List.set_cons_zero, List.set_cons_succ]
        refine wpAnyL_only (i := 9) rfl (by kernel_rfl) (by rfl) fun K hK => ?_
        go_simp
        obtain ⟨u5, hu5⟩ : ∃ u, u = u4.alloc (.cells #[.int .i64 id, .int .i64 (n : Int), .int .i64 0, .int .i64 0, .int .i64 0, .int .i64 0, .slice (some ⟨gi, 0, none⟩) n n, .pointer (some ⟨lg, 0, none⟩), .int .i64 0, .pointer (some ⟨ck, 0, none⟩), .map (some u0.heap.size), .bool false] 106 (0, 0)) := ⟨_, rfl⟩
        rw [← hu5]
        have HU5 := hide hu5
        have L5 : Hid (Later u4 u5) := by rw [hu5]; exact (Below.refl _ _).alloc (Nat.le_refl _) _
        clear hu5
        refine hK.out _ _ L5.out ?_
        clear hK K
        try (simp only [Act.put]; try simp only [List.setIfInBounds_toArray]; try simp only [List.set_cons_zero, List.set_cons_succ])
        refine wpAnyL_take (i := 10) (d := some 30) (v := ?vaazyy10) rfl rfl (by kernel_rfl) (by kernel_rfl) (by kernel_rfl) (fun _ _ _ h => h) (by rfl) ?yaazyy10 ?_
        case yaazyy10 => (intro w' hw'; go_simp; try (with_reducible rfl))
        simp only [Act.put]; try simp only [List.setIfInBounds_toArray]; try simp only [List.set_cons_zero, List.set_cons_succ]
        refine wpAnyL_only (i := 11) rfl (by kernel_rfl) (by rfl) fun K hK => ?_
        go_simp
        obtain ⟨u6, hu6⟩ : ∃ u, u = u5.alloc (.cells #[.pointer (some ⟨u4.heap.size, 0, none⟩)] 70 (0, 0)) := ⟨_, rfl⟩
        rw [← hu6]
        have HU6 := hide hu6
        have L6 : Hid (Later u5 u6) := by rw [hu6]; exact (Below.refl _ _).alloc (Nat.le_refl _) _
        clear hu6
        refine hK.out _ _ L6.out ?_
        clear hK K
        try (simp only [Act.put]; try simp only [List.setIfInBounds_toArray]; try simp only [List.set_cons_zero, List.set_cons_succ])
        refine wpAnyL_take (i := 12) (d := some 4) (v := ?vaazyy12) rfl rfl (by kernel_rfl) (by kernel_rfl) (by kernel_rfl) (fun _ _ _ h => h) (by rfl) ?yaazyy12 ?_
        case yaazyy12 => (intro w' hw'; go_simp; try (with_reducible rfl))
        simp only [Act.put]; try simp only [List.setIfInBounds_toArray]; try simp only [List.set_cons_zero, List.set_cons_succ]
        refine wpAnyL_done (by kernel_rfl) ?_ _
        have hsz0 := HS0.out
        have z1 := Below.size L1.out
        have z2 := Below.size L2.out
        have z3 := Below.size L3.out
        have z4 := Below.size L4.out
        have ri := RI.out
        have sm := SM.out
        have LW : Hid (Later w u4) := D0.out.trans (L1.out.trans (L2.out.trans (L3.out.trans L4.out)))
        have FIN := hide (built (gi := gi) HQ.out HID.out HNN.out LW.out (lg_lower (HLG.out.below (L3.out.trans L4.out)) (by omega)) (clk_lower (HCK.out.later L4.out) (by omega)) (World.ownsMap.kept (row := none) OM.out ⟨((L2.out.trans (L3.out.trans L4.out))).os, ((L2.out.trans (L3.out.trans L4.out))).tape, ((L2.out.trans (L3.out.trans L4.out))).output, ((L2.out.trans (L3.out.trans L4.out))).size, fun i hi _ => ((L2.out.trans (L3.out.trans L4.out))).block i hi⟩ (by simp)) (by omega) (own_lower (own_on OI.out (show Later u4 u4 from Below.refl _ _)) (by omega)) (fun i h => ⟨fun h2 => by have a := HLG.out.1 i h; have b := HCK.out.1 i h2; omega, by have a := HLG.out.1 i h; omega, by have a := HLG.out.1 i h; omega⟩) (fun i h => ⟨by have a := HCK.out.1 i h; omega, by have a := HCK.out.1 i h; omega⟩) (by omega) HU5.out HU6.out)
        have S5 : u5.heap.size = u5.heap.size := rfl
        clear z1 z2 z3 z4 ri sm hsz0 S5 HLG HCK OM OI RI SM HU5 HU6 L1 L2 L3 L4 L5 L6 LW D0 HS0
        go_wp2
        go_ret
        obtain ⟨c', hm⟩ := FIN.out
        exact ⟨_, _, c', _, rfl, hm⟩
end Go.Proofs.YtaiegmhlgjogmaaGreat
/- What is kept of a node is changed by a closure. -/
namespace Go.Proofs.YtaiegmhlgjogmaaGreat
open Go.RowKit Go.Maps

/-- One more entry, at its place; without a key; in place of what was there. -/
def insH (t : Int × HeardD) : List (Int × HeardD) → List (Int × HeardD)
  | [] => [t]
  | y :: r => if t.1 < y.1 then t :: y :: r else y :: insH t r
def delH (L : List (Int × HeardD)) (a : Int) : List (Int × HeardD) := L.filter fun p => !(p.1 == a)
def putH (L : List (Int × HeardD)) (a : Int) (v : HeardD) : List (Int × HeardD) := insH (a, v) (delH L a)
def foundH (L : List (Int × HeardD)) (a : Int) : HeardD := match L.find? (fun (p : Int × HeardD) => p.1 == a) with | some p => p.2 | none => HeardD.nil
theorem delH_map (L : List (Int × HeardD)) (a : Int) : (delH L a).map hpair = delL (L.map hpair) a := by
  unfold delH delL
  rw [List.filter_map]
  rfl
theorem putH_map (L : List (Int × HeardD)) (a : Int) (v : HeardD) : (putH L a v).map hpair = putL (L.map hpair) a v.val := by
  unfold putH putL
  rw [← delH_map]
  generalize delH L a = M
  induction M with
  | nil => rfl
  | cons y r ih =>
    simp only [insH, insL, List.map_cons]
    have e : (hpair y).1 = y.1 := rfl
    rw [e]
    split
    · rfl
    · rw [List.map_cons, ih]
theorem foundH_map (L : List (Int × HeardD)) (a : Int) : (foundIn (L.map hpair) HeardD.nil.val a).1 = (foundH L a).val := by
  unfold foundIn foundH
  rw [List.find?_map]
  show (match (L.find? (fun (p : Int × HeardD) => p.1 == a)).map hpair with | some p => (p.2, true) | none => (HeardD.nil.val, false)).1 = _
  cases L.find? (fun (p : Int × HeardD) => p.1 == a) <;> rfl
theorem insH_mem {t y : Int × HeardD} : ∀ {L : List (Int × HeardD)}, y ∈ insH t L ↔ y = t ∨ y ∈ L
  | [] => by simp [insH]
  | z :: r => by
    unfold insH
    split
    · simp
    · rw [List.mem_cons, insH_mem, List.mem_cons]
      constructor
      · rintro (h | h | h)
        · exact .inr (.inl h)
        · exact .inl h
        · exact .inr (.inr h)
      · rintro (h | h | h)
        · exact .inr (.inl h)
        · exact .inl h
        · exact .inr (.inr h)
theorem insH_rise {t : Int × HeardD} : ∀ {L : List (Int × HeardD)}, L.Pairwise (fun a b => a.1 < b.1) → (∀ y ∈ L, y.1 ≠ t.1) → (insH t L).Pairwise (fun a b => a.1 < b.1)
  | [], _, _ => by simp [insH]
  | z :: r, h, hn => by
    obtain ⟨h1, h2⟩ := List.pairwise_cons.1 h
    have hz := hn z (by simp)
    unfold insH
    split
    · rename_i hlt
      refine List.pairwise_cons.2 ⟨fun y hy => ?_, h⟩
      rcases List.mem_cons.1 hy with rfl | hy
      · exact hlt
      · have := h1 y hy; omega
    · refine List.pairwise_cons.2 ⟨fun y hy => ?_, insH_rise h2 fun y hy => hn y (by simp [hy])⟩
      rcases insH_mem.1 hy with rfl | hy
      · omega
      · exact h1 y hy
theorem putH_mem {L : List (Int × HeardD)} {a : Int} {v : HeardD} {y : Int × HeardD} (h : y ∈ putH L a v) : y = (a, v) ∨ y ∈ L := (insH_mem.1 h).imp id fun h => (List.mem_filter.1 h).1
theorem putH_rise {L : List (Int × HeardD)} (h : L.Pairwise (fun a b => a.1 < b.1)) (a : Int) (v : HeardD) : (putH L a v).Pairwise (fun a b => a.1 < b.1) := insH_rise (h.filter _) fun y hy => by simpa using (List.mem_filter.1 hy).2

theorem HeardD.len (h : HeardD) : h.cells.length = 36 := rfl
theorem put_heard (z h : HeardD) : putAt z.cells.toArray 0 h.cells = h.cells.toArray := by simp [putAt, HeardD.cells, MsgV.cells, MsgD.cells]
theorem HeardD.one (h : HeardD) (h1 : h.p.s.oneCell' = true) (h2 : h.p.o.oneCell' = true) (h3 : h.p.i.oneCell' = true) : ∀ u ∈ h.cells, u.oneCell' = true := by
  intro u hu
  rcases List.mem_cons.1 hu with rfl | hu
  · rfl
  · rcases List.mem_cons.1 hu with rfl | hu
    · rfl
    · exact h.p.m.one h1 h2 h3 u hu
section
variable {P : Program} {w : World} {ops : Array Oper} {rest : List Oper} {o : Oper} {a : Act} {Q : Exit → Act → World → Prop}
/-- 'm[k]' without 'ok', at the operation. -/
theorem wpList_lookup_one (hg : o.guard = none) (m x : Operand) (t : TypeId) (hop : o.op = Op.lookup t m x false)
    (k e : TypeId) (K : Maps.Keyed P k) (ht : P.underlying t = some (.map k e)) (z : Value) (hz : (zeroValue e).run P w = .ok z w) (b n : Nat) (L : List (Int × Value))
    (hm : a.eval m = .map (some b)) (hown : w.ownsMap P k heldR b n (mapD L)) (key : Int) (hx : a.eval x = .int .i64 key) (hkey : keyOf P k (Value.int .i64 key) = some (Lit.int .i64 key))
    (v : Value) (hres : (foundIn L z key).1 = v) (hK : wpList P ops Q rest (a.put o.dst v) w) : wpList P ops Q (o :: rest) a w := by
  refine wpList_plain hg fun K' hK' => ?_
  have hr := look_held false K ht hz hown hkey
  rw [if_neg (by simp), hres] at hr
  unfold Oper.wp
  simp [execOp, hop, hm, hx, hr, Result.andThen]
  exact hK' _ _ hK
/-- 'm[k] = v' at any key, at an operation of a region that draws its order. -/
theorem wp_put_held {K : Act → World → Prop} (m x v : Operand) (t : TypeId) (hop : o.op = Op.mapUpdate t m x v) (k e : TypeId) (Kd : Maps.Keyed P k) (ht : P.underlying t = some (.map k e)) (b n : Nat) (L : List (Int × Value))
    (hm : a.eval m = .map (some b)) (hown : w.ownsMap P k heldR b n (mapD L)) (hn : n < maxLen) (key : Int) (val : Value) (hx : a.eval x = .int .i64 key) (hv : a.eval v = val) (hkey : keyOf P k (Value.int .i64 key) = some (Lit.int .i64 key))
    (hK : ∀ w', w'.ownsMap P k heldR b (n + 1) (mapD (putL L key val)) → w.grownBy w' (some b) → K (a.put o.dst undef) w') : Oper.wp P o a w K Q := by
  obtain ⟨w', hrun, r1, r2⟩ := hown.store Kd ht hn hkey (val := val) (d := .held val) (ps := []) rfl
  rw [put_mapL L key val] at r1
  unfold Oper.wp
  simp [execOp, hop, hm, hx, hv, hrun, Result.andThen]
  exact hK w' r1 r2.grown
end
section
variable {col : Nat → Nat} {q B r g : Nat} {w : World} {p : RepP} {x : RepD}
def keptR (x : RepD) (node : Int) (y : HeardD) : RepD := { x with kept := putH x.kept node y }
theorem kept_ok (ok : x.OK g) {node : Int} (hn : 1 ≤ node ∧ node ≤ x.n) {y : HeardD} (hy : 0 ≤ y.ack ∧ y.ack ≤ 2000) : (keptR x node y).OK (g + 1) := by
  refine ⟨ok.id, ok.n, ⟨ok.view.1, by have := ok.view.2; show x.view ≤ _; omega⟩, ⟨ok.last.1, by have := ok.last.2; show x.last ≤ _; omega⟩, ok.nonce, ok.incs, ok.taken, by have := ok.now; show x.now ≤ _; omega, ok.names, ok.later, fun u hu => ?_, putH_rise ok.rise _ _, fun u hu => ?_⟩
  · rcases putH_mem hu with rfl | hu
    · exact hn
    · exact ok.keys u hu
  · rcases putH_mem hu with rfl | hu
    · exact hy
    · exact ok.acks u hu
theorem found_lists (h : RepAt col q B w r p x g) (node : Int) : Lists (fun i => col i = 0) w (foundH x.kept node).p.m (foundH x.kept node).p.s (foundH x.kept node).p.o (foundH x.kept node).p.i := by
  unfold foundH
  split
  · rename_i y hy
    exact h.msgs y (List.mem_of_find?_eq_some hy)
  · exact ⟨StepsAt.nil_ _ _, ⟨[], rfl, FlatAt.nil_ _ _ _, by simp⟩, IncsAt.nil_ _ _⟩
theorem found_acks (ok : x.OK g) (node : Int) : 0 ≤ (foundH x.kept node).ack ∧ (foundH x.kept node).ack ≤ 2000 := by
  unfold foundH
  split
  · rename_i y hy
    exact ok.acks y (List.mem_of_find?_eq_some hy)
  · exact ⟨by decide, by decide⟩
def EntersF (f : Nat) : Prop := ∀ (args : Array Value) (w : World), (callFunc f args).run Tryz.prog w = .ok (.enter f args) w
/-- What is asked of a closure that changes what is kept: at a block u, behind w, that holds y, it leaves y'. -/
def Changes (f : Nat) (lb : Array Value) (col : Nat → Nat) (w : World) (y y' : HeardD) : Prop :=
  ∀ (W : World) (u : Nat), Later w W → w.heap.size ≤ u → W.heap[u]? = some (.cells y.cells.toArray 177 (0, 0)) →
    Calls Tryz.prog f (#[.pointer (some ⟨u, 0, none⟩)] ++ lb) W fun e W' => e = .returned (.tuple #[]) ∧ Turned (fun i => i = u) W W' ∧ W'.heap[u]? = some (.cells y'.cells.toArray 177 (0, 0)) ∧ Lists (fun i => col i = 0 ∧ i ≠ u) W' y'.p.m y'.p.s y'.p.o y'.p.i

set_option maxHeartbeats 4000000 in
set_option maxRecDepth 100000 in
theorem keep_any (h : RepAt col q B w r p x g) {node : Int} (hn : 1 ≤ node ∧ node ≤ x.n) {f : Nat} {lb : Array Value} {y' : HeardD} (hE : EntersF f) (hc : Changes f lb col w (foundH x.kept node) y') (ha : 0 ≤ y'.ack ∧ y'.ack ≤ 2000) (hg : g ≤ 900000) :
    Calls Tryz.prog 143 #[.pointer (some ⟨p.s, 0, none⟩), .int .i64 node, .func (.func f) #[] lb] w fun e w' => e = .returned (.tuple #[]) ∧ Since q B w col col w' r p (keptR x node y') (g + 1) := by
  have hn5 := h.ok.n
  have HKEY := hide (Ck.int_key (a := node) (by omega) (by omega))
  have hfl := found_lists h node
  have HFM := hide (foundH_map x.kept node)
  have c10 : w.cell? ⟨p.s, 10, none⟩ = some (.map (some p.b)) := h.cell (k := 10) rfl
  obtain ⟨y, hy⟩ : ∃ y, foundH x.kept node = y := ⟨_, rfl⟩
  rw [hy] at hfl hc HFM
  obtain ⟨k1, k2, k3⟩ := hfl.cell
  have H := hide h
  have HC := hide hc
  have HA := hide ha
  have HN := hide hn
  have HMAP := hide h.map
  unfold EntersF at hE
  have hzh : ∀ u : World, (zeroValue 177).run Tryz.prog u = .ok HeardD.nil.val u := fun u => by kernel_rfl
  have Z1 : Hid ((w.alloc (.cells HeardD.nil.cells.toArray 177 (0, 0))).heap[w.heap.size]? = some (.cells HeardD.nil.cells.toArray 177 (0, 0))) := heap_alloc_new _ _
  have LZ : Hid (Later w (w.alloc (.cells HeardD.nil.cells.toArray 177 (0, 0)))) := (Below.refl _ _).alloc (Nat.le_refl _) _
  clear h hc ha hn hy
  go_enter Tryz.func143, Tryz.ntmps143
  go_wp2_with (first
    | (refine wpList_lookup_one (by rfl) _ _ 104 (by rfl) 3 177 Ck.Tryz.int_law Tryz.underlying104 HeardD.nil.val (hzh _) p.b g _ (by rfl) HMAP.out node (by rfl) HKEY.out y.val HFM.out ?_)
    | (refine wpList_store_box (by rfl) 177 _ _ (by rfl) w.heap.size 0 y.cells.toArray (by rfl) (by rfl) 177 _ Z1.out (by kernel_rfl) (by exact Nat.le_of_ble_eq_true rfl) (by exact y.one k1 k2 k3) ?_; intro w2 hb2 hg2; rw [put_heard] at hb2))
  have L2 : Hid (Later w w2) := LZ.out.grown hg2 LZ.out.size (fun k hk => by have := Option.some.inj hk; omega)
  clear hg2 Z1 LZ hfl
  refine (HC.out w2 w.heap.size L2.out (Nat.le_refl _) hb2).mono ?_
  rintro e w3 ⟨rfl, ht3, hb3, hl3⟩
  have L3 : Hid (Later w w3) := Below.trans L2.out (ht3.below (fun i e => by omega) (Below.size L2.out))
  have HB3 := hide hb3
  have HL3 := hide hl3
  have HR3 : Hid (RepAt col q B w3.drew r p x g) := H.out.later (Below.drew L3.out)
  clear hb2 ht3 hb3 hl3 k1 k2 k3 HC c10 hE hzh
  go_wp2
  refine wp_region_S (fun j => j == 6) (by kernel_rfl) ?_
  refine wpAnyS_take (i := 0) (d := some 15) (v := ?vaa0) rfl rfl (by kernel_rfl) (by kernel_rfl) (by kernel_rfl) (by kernel_rfl) (by kernel_rfl) (fun _ _ _ h => h) (by rfl) ?yaa0 ?_
  case yaa0 => (intro w' hw'; go_simp; try (with_reducible rfl))
  simp only [Act.put]; try simp only [List.setIfInBounds_toArray]; try simp only [List.set_cons_zero, List.set_cons_succ]
  refine wpAnyS_take (i := 1) (d := some 16) (v := ?vaa1) rfl rfl (by kernel_rfl) (by kernel_rfl) (by kernel_rfl) (by kernel_rfl) (by kernel_rfl) (fun _ _ _ h => h) (by rfl) ?yaa1 ?_
  case yaa1 => (intro w' hw'; go_simp; try (with_reducible rfl))
  simp only [Act.put]; try simp only [List.setIfInBounds_toArray]; try simp only [List.set_cons_zero, List.set_cons_succ]
  refine wpAnyS_take (i := 2) (d := some 17) (v := ?vaa2) rfl rfl (by kernel_rfl) (by kernel_rfl) (by kernel_rfl) (by kernel_rfl) (by kernel_rfl) (fun _ _ _ h => h) (by rfl) ?yaa2 ?_
  case yaa2 => (intro w' hw'; go_simp; try (with_reducible rfl))
  simp only [Act.put]; try simp only [List.setIfInBounds_toArray]; try simp only [List.set_cons_zero, List.set_cons_succ]
  refine wpAnyS_take (i := 3) (d := some 18) (v := .map (some p.b)) rfl rfl (by kernel_rfl) (by kernel_rfl) (by kernel_rfl) (by kernel_rfl) (by kernel_rfl) (fun _ _ _ h => h) (by rfl) ?yaa3 ?_
  case yaa3 => (intro w' hw'; have hq : w'.cell? ⟨p.s, 10, none⟩ = some (.map (some p.b)) := (HR3.out.later hw').cell (k := 10) rfl; go_simp; try (with_reducible rfl))
  simp only [Act.put]; try simp only [List.setIfInBounds_toArray]; try simp only [List.set_cons_zero, List.set_cons_succ]
  refine wpAnyS_take (i := 4) (d := some 19) (v := ?vaa4) rfl rfl (by kernel_rfl) (by kernel_rfl) (by kernel_rfl) (by kernel_rfl) (by kernel_rfl) (fun _ _ _ h => h) (by rfl) ?yaa4 ?_
  case yaa4 => (intro w' hw'; go_simp; try (with_reducible rfl))
  simp only [Act.put]; try simp only [List.setIfInBounds_toArray]; try simp only [List.set_cons_zero, List.set_cons_succ]
  refine wpAnyS_take (i := 5) (d := some 20) (v := y'.val) rfl rfl (by kernel_rfl) (by kernel_rfl) (by kernel_rfl) (by kernel_rfl) (by kernel_rfl) (fun _ _ _ h => h) (by rfl) ?yaa5 ?_
  case yaa5 => (intro w' hw'; exact exec_load_box 177 _ (by rfl) w.heap.size 0 (by rfl) 177 _ ((Below.block hw' w.heap.size (lt_of_block (show w3.drew.heap[w.heap.size]? = _ from HB3.out))).trans HB3.out) 36 _ Tryz.underlying177 (by rfl) (by kernel_rfl) y'.cells (by rfl) (by rfl))
  simp only [Act.put]; try simp only [List.setIfInBounds_toArray]; try simp only [List.set_cons_zero, List.set_cons_succ]
  refine wpAnyS_write (i := 6) rfl rfl (by kernel_rfl) (by rfl) fun K hK => ?_
  refine wp_put_held _ _ _ 104 (by rfl) 3 177 Ck.Tryz.int_law Tryz.underlying104 p.b g _ (by rfl) (by exact HR3.out.map) (by unfold maxLen; omega) node y'.val (by rfl) (by rfl) HKEY.out ?_
  intro w4 ho4 hg4
  have HO4 := hide ho4
  have HG4 := hide hg4
  clear ho4 hg4
  refine hK.out _ _ ?_
  clear hK K
  try simp only [Act.put]
  refine wpAnyS_done (by kernel_rfl) ?_ _
  go_wp2
  go_end0
  have s1 : Since q B w col col w3.drew r p x g := (Since.refl H.out).later (Below.drew L3.out)
  refine ⟨rfl, s1.next ?_⟩
  refine HR3.out.maps (L' := putH x.kept node y') HG4.out (by rw [putH_map]; exact HO4.out) (by omega) (fun u hu => ?_) (kept_ok H.out.ok HN.out HA.out)
  rcases putH_mem hu with rfl | hu
  · exact (HL3.out.mono fun _ _ e => e.1).kept ⟨Nat.le_refl _, fun _ _ _ => rfl⟩
  · exact HR3.out.msgs u hu
/-- START is kept. -/
def startH (h : HeardD) : HeardD := { h with start := true }
theorem start_cells (y : HeardD) : y.cells.toArray.setIfInBounds 1 (.bool true) = (startH y).cells.toArray := rfl
end
end Go.Proofs.YtaiegmhlgjogmaaGreat
/- A message whose lists may be written; what a copy of one is. -/
namespace Go.Proofs.YtaiegmhlgjogmaaGreat
open Go.RowKit

theorem put_op (m : MsgD) (s o i s' : Value) : putAt (m.cells s o i).toArray 12 (m.op.cells s') = (m.cells s' o i).toArray := by simp [putAt, MsgD.cells, OpD.cells]
theorem put_ops (m : MsgD) (s o i v : Value) : (m.cells s o i).toArray.setIfInBounds 32 v = (m.cells s v i).toArray := by rfl
theorem put_incs (m : MsgD) (s o i v : Value) : (m.cells s o i).toArray.setIfInBounds 33 v = (m.cells s o v).toArray := by rfl
theorem put_all (m : MsgD) (s o i s0 o0 i0 : Value) (z : MsgD) : putAt (z.cells s0 o0 i0).toArray 0 (m.cells s o i) = (m.cells s o i).toArray := by simp [putAt, MsgD.cells]

/-- What Copy hands back: the same message, its lists in new memory. -/
def Copied (m : MsgD) (w : World) (e : Ending) (w' : World) : Prop :=
  ∃ v, e = .returned v ∧ MsgAt (w.heap.size ≤ ·) w' v m ∧ Below w.heap.size w w'
/-- The lists of a message, that may be written. -/
def MsgFree (F : Nat → Prop) (w : World) (m : MsgD) (s o i : Value) (ps : List (OpD × Value)) : Prop :=
  StepsAt F w s m.op.steps ∧ OpsIn F w o ps ∧ ps.map (·.1) = m.ops ∧ IncsAt F w i m.incs ∧ Free F w s ∧ Free F w o ∧ Free F w i ∧ ∀ p ∈ ps, Free F w p.2
section
variable {F G : Nat → Prop} {w w' : World} {m : MsgD} {s o i : Value} {ps : List (OpD × Value)}
theorem MsgFree.kept (h : MsgFree F w m s o i ps) (hk : Kept F w w') : MsgFree F w' m s o i ps :=
  ⟨h.1.kept hk, h.2.1.kept hk, h.2.2.1, h.2.2.2.1.kept hk, h.2.2.2.2.1.kept hk, h.2.2.2.2.2.1.kept hk, h.2.2.2.2.2.2.1.kept hk, fun p hp => (h.2.2.2.2.2.2.2 p hp).kept hk⟩
theorem MsgFree.mono (h : MsgFree F w m s o i ps) (hg : ∀ i, i < w.heap.size → F i → G i) : MsgFree G w m s o i ps :=
  ⟨h.1.mono hg, h.2.1.mono hg, h.2.2.1, h.2.2.2.1.mono hg, h.2.2.2.2.1.mono hg, h.2.2.2.2.2.1.mono hg, h.2.2.2.2.2.2.1.mono hg, fun p hp => (h.2.2.2.2.2.2.2 p hp).mono hg⟩
theorem MsgFree.at_ (h : MsgFree F w m s o i ps) : MsgAt F w (.agg (m.cells s o i).toArray) m := ⟨s, o, i, rfl, h.1, ⟨ps, h.2.2.1, h.2.1⟩, h.2.2.2.1⟩
end
/-- What a copy is that may be written. -/
def Owned (m : MsgD) (w : World) (e : Ending) (w' : World) : Prop :=
  ∃ s o i ps, e = .returned (.agg (m.cells s o i).toArray) ∧ MsgFree (w.heap.size ≤ ·) w' m s o i ps ∧ Below w.heap.size w w'
theorem Owned.copied {m : MsgD} {w w' : World} {e : Ending} : Owned m w e w' → Copied m w e w' := fun ⟨_, _, _, _, he, h, hb⟩ => ⟨_, he, h.at_, hb⟩

end Go.Proofs.YtaiegmhlgjogmaaGreat
/- slices.Clone at integers. -/
namespace Go.Proofs.YtaiegmhlgjogmaaGreat
open Go.RowKit

theorem Tryz.infoInt : (Tryz.prog.info? 3).map (fun i => (i.zero, i.size, i.bytes)) = some (some (.int .i64 0), 1, 8) := by kernel_rfl

set_option maxHeartbeats 1000000 in
set_option maxRecDepth 100000 in
theorem clone_ints (F : Nat → Prop) (v : Value) (n : Nat) (xs : List Value) (w : World) (h : FlatAt F w 1 v n xs) (hn : n ≤ 1000000) :
    Calls Tryz.prog 60 #[v] w (Cloned 3 1 n xs w) := by
  obtain ⟨i0, hi, hz0, hz1, hz2⟩ := info_parts Tryz.infoInt
  obtain ⟨A, c, rfl, h1, h2, h3⟩ := h.shape
  have H := hide h
  rcases A with _ | a
  · have hc := h3 rfl
    subst hc
    obtain rfl : n = 0 := by omega
    have hxs : xs = [] := List.eq_nil_of_length_eq_zero (by have := h.len; simpa using this)
    subst hxs
    have hq := fun w => Lib.run_eql_slice_nil (P := Tryz.prog) w 40 _ none 0 0 0 0 Tryz.underlying40
    clear h h3
    go_enter Tryz.func60, Tryz.ntmps60
    go_wp2
    go_ret
    exact ⟨_, rfl, World.ownsRow_nil _ _ _ _, Below.refl _ _⟩
  · have hq := fun w => Lib.run_eql_slice_nil (P := Tryz.prog) w 40 _ (some a) n c 0 0 Tryz.underlying40
    clear h h3
    go_enter Tryz.func60, Tryz.ntmps60
    go_wp2_with (at_builtin; refine wpList_append_flat _ rfl _ _ 40 rfl w.heap.size 3 i0 _ 1 8 Tryz.underlying40 hi hz0 hz1 hz2 rfl (by decide) _ 0 [] rfl (ownsRow_lit w _ 1) F _ n c xs rfl (H.out.kept (Kept.of_below ((Below.refl _ _).alloc (Nat.le_refl _) _) F)) (by unfold maxLen; omega) (by omega) (by simp) ?_; intro v' w1 ho hg)
    go_ret
    exact ⟨_, rfl, by simpa using ho, ((Below.refl _ _).alloc (Nat.le_refl _) _).trans (later_own (ownsRow_lit w _ 1) (by simp) hg)⟩
end Go.Proofs.YtaiegmhlgjogmaaGreat
/- How much a message has, up to some: droverref04.weigh, Steps. -/
namespace Go.Proofs.YtaiegmhlgjogmaaGreat
open Go.RowKit

/-- What weigh tells of an operation: it is above the number of its steps, as long as it is not above mx. -/
def WeighsN (mx : Int) (o : OpD) (w : World) (e : Ending) (w' : World) : Prop :=
  ∃ n : Int, e = .returned (.int .i64 n) ∧ 1 ≤ n ∧ n ≤ 20000000000000 ∧ (n ≤ mx → (o.steps.length : Int) < n) ∧ Later w w'

set_option maxHeartbeats 1000000 in
theorem weighn_any (mx : Int) (hm0 : 0 ≤ mx) (hm1 : mx ≤ 1000) (F : Nat → Prop) (o : OpD) (s : Value) (w : World) (hn : o.name.size ≤ 140737488355328) (hs : ∀ x ∈ o.steps, x.wf) (h : StepsAt F w s o.steps) :
    Calls Tryz.prog 81 #[.agg (o.cells s).toArray, .int .i64 mx] w (WeighsN mx o w) := by
  obtain ⟨A, c, rfl, h1, h2, _⟩ := FlatAt.shape h
  unfold maxLen at h2
  have HS := hide hs
  have HF := hide h
  clear hs h
  unfold OpD.cells
  obtain ⟨L, hL⟩ : ∃ L, o.steps.length = L := ⟨_, rfl⟩
  rw [hL] at h1 HF ⊢
  have HL := hide hL
  clear hL
  obtain ⟨z, hz⟩ : ∃ z, z = o.name.size / 20 := ⟨_, rfl⟩
  have hz1 : (o.name.size : Int) / 20 = (z : Int) := by omega
  have hz2 : z ≤ 8000000000000 := by omega
  clear hz
  go_enter Tryz.func81, Tryz.ntmps81
  go_wp2
  go_loopw [5, 18] (fun n i wr => ∃ (q : Int) (k : Nat), k ≤ L ∧ n = .int .i64 q ∧ i = .int .i64 (k : Int) ∧ (k : Int) < q ∧ q ≤ 8000000000001 ∧ (0 < k → q ≤ mx) ∧ Below w.heap.size w wr) (fun _ i _ => L - (intOf i).toNat)
  case atStart => exact ⟨_, 0, by omega, rfl, rfl, by omega, by omega, by omega, (Below.refl _ _).alloc (Nat.le_refl _) _⟩
  case round =>
    obtain ⟨q, k, hk, rfl, rfl, hq1, hq2, hq3, hb⟩ := hrel
    have HB := hide hb
    clear hb
    by_cases hkl : k < L
    · obtain ⟨x, b, off, c', hx, hv, _, _, hb, hr⟩ := StepsAt.at_ (HF.out.kept (Kept.of_below HB.out F)) (i := k) (by rw [HL.out]; exact hkl)
      obtain ⟨rfl, rfl⟩ : A = some ⟨b, off, none⟩ ∧ c = c' := by injection hv with e1 _ e3; exact ⟨e1, e3⟩
      obtain ⟨r0, r1, r2, r3, r4, r5⟩ := range_step hr
      have hxn := (HS.out x (List.mem_of_getElem? hx)).1
      obtain ⟨y, hy⟩ : ∃ y, y = x.name.size / 20 := ⟨_, rfl⟩
      have hy1 : (x.name.size : Int) / 20 = (y : Int) := by omega
      have hy2 : y ≤ 8000000000000 := by omega
      clear hy hx hv hr
      go_wp2
      · go_ret
        exact ⟨_, rfl, by omega, by omega, by omega, HB.out.trans ((Below.alloc (Below.refl _ _) (Nat.le_refl _) _).mono HB.out.size)⟩
      · go_roundw
        case rel => exact ⟨q + (1 + y), k + 1, by omega, rfl, by go_num, by omega, by omega, by omega, HB.out.trans ((Below.alloc (Below.refl _ _) (Nat.le_refl _) _).mono HB.out.size)⟩
        case measure => simp [intOf]; omega
    · go_wp2
      go_ret
      exact ⟨_, rfl, by omega, by omega, by rw [HL.out]; omega, HB.out⟩

/-- What Steps tells of a message that is not above mx. -/
def MsgD.lightN (mx : Int) (m : MsgD) : Prop := (m.op.steps.length : Int) ≤ mx ∧ (m.ops.length : Int) ≤ mx ∧ ∀ o ∈ m.ops, (o.steps.length : Int) ≤ mx
def CountsN (mx : Int) (m : MsgD) (w : World) (e : Ending) (w' : World) : Prop :=
  ∃ n : Int, e = .returned (.int .i64 n) ∧ (n ≤ mx → m.lightN mx) ∧ Later w w'

/-- So far none has more than mx steps. -/
def SomeN (mx : Int) (m : MsgD) (ps : List (OpD × Value)) (k : Nat) : Prop := (m.op.steps.length : Int) ≤ mx ∧ ∀ p ∈ ps.take k, (p.1.steps.length : Int) ≤ mx
theorem somen_step {mx : Int} {m : MsgD} {ps : List (OpD × Value)} {k : Nat} {x : OpD} {s : Value} (hx : ps[k]? = some (x, s)) (h : SomeN mx m ps k) (hs : (x.steps.length : Int) ≤ mx) : SomeN mx m ps (k + 1) := by
  refine ⟨h.1, fun p hp => ?_⟩
  rw [List.take_add_one, hx] at hp
  rcases List.mem_append.1 hp with hp | hp
  · exact h.2 p hp
  · obtain rfl : p = (x, s) := by simpa using hp
    exact hs
theorem somen_end {mx : Int} {m : MsgD} {ps : List (OpD × Value)} {k : Nat} (hp : ps.map (·.1) = m.ops) (hl : m.ops.length = ps.length) (hk : ps.length ≤ k) (hq : (k : Int) ≤ mx) (h : SomeN mx m ps k) : m.lightN mx := by
  refine ⟨h.1, by omega, fun o ho => ?_⟩
  rw [← hp] at ho
  obtain ⟨p, hp, rfl⟩ := List.mem_map.1 ho
  exact h.2 p (by rwa [List.take_of_length_le hk])

set_option maxHeartbeats 2000000 in
set_option maxRecDepth 100000 in
theorem stepsn_any (mx : Int) (hm0 : 0 ≤ mx) (hm1 : mx ≤ 1000) (F : Nat → Prop) (m : MsgD) (s o i : Value) (w : World) (hw : m.wf) (h : Lists F w m s o i) :
    Calls Tryz.prog 32 #[.agg (m.cells s o i).toArray, .int .i64 mx] w (CountsN mx m w) := by
  obtain ⟨hs, ⟨ps, hps, ho⟩, hi⟩ := h
  have hl : m.ops.length = ps.length := by rw [← hps]; simp
  have hwp : ∀ p ∈ ps, p.1.wf := fun p hp => hw.2.2.2.2.2.2.2.2.2.2.2.2.2.2.2.2.2.2.2.1 p.1 (by rw [← hps]; exact List.mem_map_of_mem hp)
  have hwo : m.op.wf := hw.2.2.2.2.2.2.2.2.2.1
  have HP := hide hps
  have HW := hide hwp
  have HL := hide hl
  have HO := hide ho
  obtain ⟨A, c, rfl, h1, h2, _⟩ := FlatAt.shape ho.1
  unfold maxLen at h2
  have C1 := hide (fun w' (hb : Below w.heap.size w w') => weighn_any mx hm0 hm1 F m.op s w' hwo.2.2.2.1 hwo.2.2.2.2.1 (hs.kept (Kept.of_below hb F)))
  clear hs hps ho hi hw hwp hwo hl
  unfold MsgD.cells
  unfold OpD.cells at C1
  go_enter Tryz.func32, Tryz.ntmps32
  go_wp2_with (fail)
  refine (C1.out _ ((Below.refl _ _).alloc (Nat.le_refl _) _)).mono ?_
  rintro e w1 ⟨q, rfl, hq1, hq2, hq3, hb⟩
  have HB1 : Hid (Below w.heap.size w w1) := ((Below.refl _ _).alloc (Nat.le_refl _) _).trans (Below.mono hb (by simp))
  have hbox : w1.heap[w.heap.size]? = _ := (hb.block w.heap.size (by simp)).trans (heap_alloc_new w _)
  have f15 := cell_of_row w1 w.heap.size 32 _ _ _ hbox
  simp only [List.getElem?_toArray, List.getElem?_cons_succ, List.getElem?_cons_zero] at f15
  have HQ := hide hq3
  have HX := hide hbox
  clear hb hq3 hbox C1
  go_wp2
  go_loopw [5, 15] (fun n i wr => ∃ (q : Int) (k : Nat), k ≤ ps.length ∧ n = .int .i64 q ∧ i = .int .i64 (k : Int) ∧ (k : Int) < q ∧ q ≤ 20000000002000 ∧ (q ≤ mx → SomeN mx m ps k) ∧ Below w.heap.size w wr) (fun _ i _ => ps.length - (intOf i).toNat)
  case atStart => exact ⟨q, 0, by omega, rfl, rfl, by omega, by omega, fun h => ⟨by have := HQ.out h; omega, by simp⟩, HB1.out⟩
  case round =>
    obtain ⟨q, k, hk, rfl, rfl, hq1, hq2, hq3, hb⟩ := hrel
    have HQ3 := hide hq3
    have HB := hide hb
    clear hb hq3
    by_cases hkl : k < ps.length
    · obtain ⟨x, xs, b, off, c', hx, hv, _, _, hb, hr, hst⟩ := OpsIn.at_ (HO.out.kept (Kept.of_below HB.out F)) (i := k) hkl
      obtain ⟨rfl, rfl⟩ : A = some ⟨b, off, none⟩ ∧ c = c' := by injection hv with e1 _ e3; exact ⟨e1, e3⟩
      obtain ⟨r0, r1, r2, r3, r4, r5, r6, r7, r8, r9⟩ := range_op hr
      have hwx : x.wf := HW.out _ (List.mem_of_getElem? hx)
      have HX2 := hide hx
      obtain ⟨sA, sc, rfl, _, _, _⟩ := FlatAt.shape hst
      have C2 := hide (fun w' (hb : Below wr.heap.size wr w') => weighn_any mx hm0 hm1 F x _ w' hwx.2.2.2.1 hwx.2.2.2.2.1 (hst.kept (Kept.of_below hb F)))
      unfold OpD.cells at C2
      clear hx hv hr hst hwx
      by_cases hbig : q ≤ mx
      · go_wp2_with (fail)
        refine (C2.out _ ((Below.refl _ _).alloc (Nat.le_refl _) _)).mono ?_
        rintro e w2 ⟨r, rfl, hr1, hr2, hr3, hb⟩
        have HB2 : Hid (Below w.heap.size w w2) := HB.out.trans ((((Below.refl _ _).alloc (Nat.le_refl _) _).trans (Below.mono hb (by simp))).mono HB.out.size)
        have HR := hide hr3
        clear hb hr3 C2
        go_wp2
        go_roundw
        case rel => exact ⟨q + (1 + r), k + 1, by omega, rfl, by go_num, by omega, by omega, fun h => somen_step HX2.out (HQ3.out hbig) (by have := HR.out (by omega); omega), HB2.out⟩
        case measure => simp [intOf]; omega
      · go_wp2_with (fail)
        go_ret
        exact ⟨_, rfl, fun h => absurd h (by omega), HB.out.trans (((Below.refl _ _).alloc (Nat.le_refl _) _).mono HB.out.size)⟩
    · go_wp2
      go_ret
      exact ⟨_, rfl, fun h => somen_end HP.out HL.out (by omega) (by omega) (HQ3.out h), HB.out⟩
end Go.Proofs.YtaiegmhlgjogmaaGreat
/- CopyMsg of package op: a message, its lists in new memory. -/
namespace Go.Proofs.YtaiegmhlgjogmaaGreat
open Go.RowKit

set_option maxHeartbeats 2000000 in
set_option maxRecDepth 100000 in
theorem copy_own (F : Nat → Prop) (m : MsgD) (v : Value) (w : World) (h : MsgAt F w v m) (hl : m.lightN 200) (hi : m.incs.length ≤ 1000000) :
    Calls Tryz.prog 172 #[v] w (Owned m w) := by
  obtain ⟨s, o, i, rfl, hs, ⟨ps, hps, ho⟩, hin⟩ := h
  have hpn : ps.length = m.ops.length := by rw [← hps]; simp
  have hpl : ∀ p ∈ ps, p.1.steps.length ≤ 200 := fun p hp => by have := hl.2.2 p.1 (by rw [← hps]; exact List.mem_map_of_mem hp); omega
  have C1 := hide (fun w' (hb : Below w.heap.size w w') => copyop_own F m.op s w' (hs.kept (Kept.of_below hb F)) (by have := hl.1; omega))
  have C2 := hide (fun w' (hb : Below w.heap.size w w') => copies_own F ps o w' (ho.kept (Kept.of_below hb F)) (by have := hl.2.1; omega) (fun p hp => by have := hpl p hp; omega))
  have C8 := hide (fun w' (hb : Below w.heap.size w w') => clone_ints F i _ _ w' (FlatAt.kept hin (Kept.of_below hb F)) hi)
  have hn100 : ps.length ≤ 200 := by have := hl.2.1; omega
  have H1 : s.oneCell' = true := FlatAt.oneCell hs
  have H2 : o.oneCell' = true := FlatAt.oneCell ho.1
  have H3 : i.oneCell' = true := FlatAt.oneCell hin
  have HS := hide hs
  have HO := hide ho
  have HPL := hide hpl
  have HP := hide hps
  have h1 := hide H1
  have h2 := hide H2
  have h3 := hide H3
  have HL := hide hl
  clear hs ho hin hpl hps hpn H1 H2 H3 hl
  unfold OpD.cells at C1
  unfold MsgD.cells
  go_enter Tryz.func172, Tryz.ntmps172
  go_wp2_with (fail)
  refine (C1.out _ (((Below.refl _ _).alloc (Nat.le_refl _) _).alloc (by simp) _)).mono ?_
  rintro e w1 ⟨s1, rfl, hs1, hb⟩
  have b1 : w1.heap[w.heap.size]? = some (.cells (m.cells s o i).toArray 42 (0, 0)) := (hb.block w.heap.size (by simp; omega)).trans (heap_alloc2_old w _ _)
  have b2 := (hb.block (w.heap.size + 1) (by simp)).trans (heap_alloc2_new w _ _)
  have HB1 : Hid (Below w.heap.size w w1) := (((Below.refl _ _).alloc (Nat.le_refl _) _).alloc (by simp) _).trans (hb.mono (by simp; omega))
  have HS1 : Hid (StepsAt (w.heap.size + 2 ≤ ·) w1 s1 m.op.steps ∧ Free (w.heap.size + 2 ≤ ·) w1 s1) := ⟨hs1.1.mono (fun i _ h => by simp at h; omega), hs1.2.mono (fun i _ h => by simp at h; omega)⟩
  have X1 := hide b1
  have X2 := hide b2
  clear b1 b2 hb hs1 C1
  go_wp2_with (refine wpList_store_box (by rfl) 33 _ _ (by rfl) w.heap.size 12 (m.op.cells s1).toArray (by rfl) (by rfl) 42 _ X1.out (by kernel_rfl) (by exact Nat.le_of_ble_eq_true rfl) (by exact m.op.one (FlatAt.oneCell HS1.out.1)) ?_; intro w2 hb2 hg2; rw [put_op] at hb2; have f32 := box_cell hb2 32 o (by rfl))
  have HB2 : Hid (Below w.heap.size w w2) := HB1.out.grown hg2 HB1.out.size (fun k hk => by have := Option.some.inj hk; omega)
  have K2 : Kept (w.heap.size + 2 ≤ ·) w1 w2 := Kept.of_grown hg2 (fun g e h => by have e2 := Option.some.inj e; have h2 : w.heap.size + 2 ≤ g := h; omega)
  have HS2 : Hid (StepsAt (w.heap.size + 2 ≤ ·) w2 s1 m.op.steps ∧ Free (w.heap.size + 2 ≤ ·) w2 s1) := ⟨HS1.out.1.kept K2, HS1.out.2.kept K2⟩
  clear K2
  have X22 : Hid (w2.heap[w.heap.size + 1]? = _) := (hg2.block _ (lt_of_block X2.out) (by simp)).trans X2.out
  have X12 := hide hb2
  clear hb2 hg2 X1 X2 HS1 f32
  refine (C2.out _ HB2.out).mono ?_
  rintro e w3 ⟨vo, qs, rfl, hsame, hfree, _, hb⟩
  have X13 := hide ((hb.block _ (lt_of_block X12.out)).trans X12.out)
  have X23 := hide ((hb.block _ (lt_of_block X22.out)).trans X22.out)
  obtain ⟨n, hn⟩ : ∃ n, qs.length = n := ⟨_, rfl⟩
  have hflat := hfree.ops.1
  rw [hn] at hflat
  obtain ⟨A, c, rfl, hA1, hA2, hA3⟩ := FlatAt.shape hflat
  have HNQ := hide hn
  clear hflat
  have f32 := box_cell X13.out 32 o (by rfl)
  have r32 := box_free X13.out 32
  obtain ⟨w4, hw4⟩ : ∃ w4, w4 = w3.setCell ⟨w.heap.size, 32, none⟩ (.slice A n c) := ⟨_, rfl⟩
  have g34 : w3.grownBy w4 (some w.heap.size) := by rw [hw4]; exact grown_set w3 _ 32 _
  have hB2 := HB2.out.size
  have hB3 := hb.size
  have hlt2 := lt_of_block X22.out
  have X14 : Hid (w4.heap[w.heap.size]? = some (.cells (m.cells s1 (.slice A n c) i).toArray 42 (0, 0))) := by
    rw [hw4, ← put_ops m s1 o i]
    exact heap_setCell_same w3 _ 32 _ _ _ X13.out
  have X24 : Hid (w4.heap[w.heap.size + 1]? = some (.cells (MsgD.zero.cells (.slice none 0 0) (.slice none 0 0) (.slice none 0 0)).toArray 42 (0, 0))) := (g34.block _ (lt_of_block X23.out) (by simp)).trans X23.out
  have HB4 : Hid (Below w.heap.size w w4) := (HB2.out.trans (hb.mono hB2)).grown g34 (Nat.le_trans hB2 hB3) (fun k hk => by have := Option.some.inj hk; omega)
  have K3 : Kept (w.heap.size + 2 ≤ ·) w2 w3 := Kept.of_below hb _
  have K4 : Kept (w.heap.size + 2 ≤ ·) w3 w4 := Kept.of_grown g34 (fun g e h => by have e2 := Option.some.inj e; have h2 : w.heap.size + 2 ≤ g := h; omega)
  have HS4 : Hid (StepsAt (w.heap.size + 2 ≤ ·) w4 s1 m.op.steps ∧ Free (w.heap.size + 2 ≤ ·) w4 s1) := ⟨(HS2.out.1.kept K3).kept K4, (HS2.out.2.kept K3).kept K4⟩
  have HF4 : Hid (OpsFree (w.heap.size + 2 ≤ ·) w4 (.slice A n c) qs) := (OpsFree.mono hfree (fun b _ h => by omega)).kept K4
  have HSM := hide hsame
  have f33 := box_cell X13.out 33 i (by rfl)
  have HW4 := hide hw4
  clear hfree hsame hb X13 X23 X12 X22 hw4 g34 K3 K4 hn
  go_wp2_with (fail)
  rw [← HW4.out]
  clear HW4 f33 f32 r32 hB3
  refine (C8.out _ HB4.out).mono ?_
  rintro e w5 ⟨vi, rfl, hown, hb⟩
  have hsz := HB4.out.size
  have hlt1 := lt_of_block X14.out
  have hlt2 := lt_of_block X24.out
  have X1 := (hb.block _ hlt1).trans X14.out
  have X2 := (hb.block _ hlt2).trans X24.out
  have hvi := FlatAt.of_own hown (ints_one m.incs)
  have fvi := hide (Free.of_own hown)
  obtain ⟨iA, ic, rfl, _, _, _⟩ := hvi.shape
  have f33 := box_cell X1 33 i (by rfl)
  have r33 := box_free X1 33
  have Y1 : Hid ((w5.setCell ⟨w.heap.size, 33, none⟩ (.slice iA m.incs.length ic)).heap[w.heap.size]? = some (.cells (m.cells s1 (.slice A n c) (.slice iA m.incs.length ic)).toArray 42 (0, 0))) := by
    rw [← put_incs m s1 (.slice A n c) i]
    exact heap_setCell_same w5 _ 33 _ _ _ X1
  have Y2 : Hid ((w5.setCell ⟨w.heap.size, 33, none⟩ (.slice iA m.incs.length ic)).heap[w.heap.size + 1]? = some (.cells (MsgD.zero.cells (.slice none 0 0) (.slice none 0 0) (.slice none 0 0)).toArray 42 (0, 0))) := (heap_setCell_other _ _ _ _ (by simp)).trans X2
  have K5 : Kept (fun b => w.heap.size + 2 ≤ b) w4 w5 := Kept.of_below hb _
  have K6 : Kept (fun b => w.heap.size + 2 ≤ b) w5 (w5.setCell ⟨w.heap.size, 33, none⟩ (.slice iA m.incs.length ic)) := Kept.of_grown (grown_set w5 w.heap.size 33 (.slice iA m.incs.length ic)) (fun g e h => by have e2 := Option.some.inj e; have h2 : w.heap.size + 2 ≤ g := h; omega)
  have hbW : Below w.heap.size w (w5.setCell ⟨w.heap.size, 33, none⟩ (.slice iA m.incs.length ic)) := (HB4.out.trans (hb.mono hsz)).setCell (by simp) _
  have hlists : Hid (MsgFree (w.heap.size + 2 ≤ ·) (w5.setCell ⟨w.heap.size, 33, none⟩ (.slice iA m.incs.length ic)) m s1 (.slice A n c) (.slice iA m.incs.length ic) qs) :=
    ⟨(HS4.out.1.kept K5).kept K6, (HF4.out.ops.kept K5).kept K6, by rw [HSM.out, HP.out], (IncsAt.mono hvi (fun b _ h => by omega)).kept K6,
      (HS4.out.2.kept K5).kept K6, (HF4.out.row.kept K5).kept K6, (Free.mono fvi.out fun b _ h => by have := h.1; omega).kept K6, fun p hp => ((HF4.out.steps p hp).kept K5).kept K6⟩
  have HBW := hide hbW
  clear X1 X2 hown hb hvi K5 K6 hbW
  go_wp2_with (refine wpList_load_box (by rfl) 42 _ (by rfl) w.heap.size 0 (by rfl) 42 _ Y1.out 34 _ Tryz.underlying42 (by rfl) (by kernel_rfl) _ (by rfl) (by rfl) ?_; refine wpList_store_box (by rfl) 42 _ _ (by rfl) (w.heap.size + 1) 0 (m.cells s1 (.slice A n c) (.slice iA m.incs.length ic)).toArray (by rfl) (by rfl) 42 _ Y2.out (by kernel_rfl) (by exact Nat.le_of_ble_eq_true rfl) (by exact m.one (FlatAt.oneCell hlists.out.1) rfl rfl) ?_; intro w7 hb7 hg7; rw [put_all] at hb7)
  refine bodyPost_ret (results_cell_row Tryz.results172 _ _ (w.heap.size + 1) 42 _ (0, 0) _ (by rfl) hb7 Tryz.underlying42 (by rfl) (by kernel_rfl)) (by rfl) ⟨_, _, _, qs, rfl, ?_, ?_⟩
  · exact (hlists.out.kept (Kept.of_grown hg7 (fun g e h => by have e2 := Option.some.inj e; have h2 : w.heap.size + 2 ≤ g := h; omega))).mono (fun i _ h => by have h2 : w.heap.size + 2 ≤ i := h; omega)
  · exact HBW.out.grown hg7 HBW.out.size (fun k hk => by have := Option.some.inj hk; omega)
theorem copy_any (F : Nat → Prop) (m : MsgD) (v : Value) (w : World) (h : MsgAt F w v m) (hl : m.lightN 200) (hi : m.incs.length ≤ 1000000) :
    Calls Tryz.prog 172 #[v] w (Copied m w) := (copy_own F m v w h hl hi).mono fun _ _ => Owned.copied
end Go.Proofs.YtaiegmhlgjogmaaGreat
/- A message that a node sends: signed, a copy of its own. -/
namespace Go.Proofs.YtaiegmhlgjogmaaGreat
open Go.RowKit Go.Maps

set_option maxHeartbeats 2000000 in
set_option maxRecDepth 100000 in
theorem bagcopy_any {F : Nat → Prop} {m : MsgD} {s o i : Value} (w : World) (h : Lists F w m s o i) (hl : m.lightN 200) (hi : m.incs.length ≤ 1000000) :
    Calls Tryz.prog 139 #[.agg (m.cells s o i).toArray] w (Owned m w) := by
  obtain ⟨k1, k2, k3⟩ := h.cell
  have HB : Hid (Below w.heap.size w ((w.alloc (.cells (m.cells s o i).toArray 42 (0, 0))).alloc (.cells zcells 42 (0, 0)))) := ((Below.refl _ _).alloc (Nat.le_refl _) _).alloc (by simp) _
  have X1 : Hid (((w.alloc (.cells (m.cells s o i).toArray 42 (0, 0))).alloc (.cells zcells 42 (0, 0))).heap[w.heap.size]? = some (.cells (m.cells s o i).toArray 42 (0, 0))) := heap_alloc2_old w _ _
  have X2 : Hid (((w.alloc (.cells (m.cells s o i).toArray 42 (0, 0))).alloc (.cells zcells 42 (0, 0))).heap[w.heap.size + 1]? = some (.cells zcells 42 (0, 0))) := heap_alloc2_new w _ _
  have C := hide (copy_own F m _ _ ⟨s, o, i, rfl, h.kept (Kept.of_below HB.out _)⟩ hl hi)
  have K := hide (m.one k1 k2 k3)
  clear h hl hi k1 k2 k3
  unfold MsgD.cells
  go_enter Tryz.func139, Tryz.ntmps139
  go_wp2_with (refine wpList_load_box (by rfl) 42 _ (by rfl) w.heap.size 0 (by rfl) 42 _ X1.out 34 _ Tryz.underlying42 (by rfl) (by kernel_rfl) _ (by rfl) (by rfl) ?_)
  refine C.out.mono ?_
  rintro e w5 ⟨s5, o5, i5, ps5, rfl, hf5, hb5⟩
  have Y2 : Hid (w5.heap[w.heap.size + 1]? = some (.cells zcells 42 (0, 0))) := (hb5.block _ (lt_of_block X2.out)).trans X2.out
  have L5 : Hid (Below w.heap.size w w5) := HB.out.trans (hb5.mono HB.out.size)
  have hs5 : w.heap.size + 2 ≤ w5.heap.size := by have := hb5.size; simp at this; omega
  have HF := hide (hf5.mono (G := (w.heap.size + 2 ≤ ·)) (fun _ _ h => by simp at h; omega))
  have hat := HF.out.at_
  clear hf5 hb5 C
  obtain ⟨j1, j2, j3⟩ : s5.oneCell' = true ∧ o5.oneCell' = true ∧ i5.oneCell' = true := ⟨FlatAt.oneCell HF.out.1, FlatAt.oneCell HF.out.2.1.1, FlatAt.oneCell HF.out.2.2.2.1⟩
  go_wp2_with (refine wpList_store_box (by rfl) 42 _ _ (by rfl) (w.heap.size + 1) 0 (m.cells s5 o5 i5).toArray (by rfl) (by rfl) 42 _ Y2.out (by kernel_rfl) (by exact Nat.le_of_ble_eq_true rfl) (by exact m.one j1 j2 j3) ?_; intro w7 hb7 hg7; rw [put_zmsg] at hb7)
  refine bodyPost_ret (results_cell_row Tryz.results139 _ _ (w.heap.size + 1) 42 _ (0, 0) _ (by rfl) hb7 Tryz.underlying42 (by rfl) (by kernel_rfl)) (by rfl) ⟨_, _, _, ps5, rfl, ?_, ?_⟩
  · exact (HF.out.kept (Kept.of_grown hg7 (fun g e h => by have e2 := Option.some.inj e; have h2 : w.heap.size + 2 ≤ g := h; omega))).mono (fun i _ h => by have h2 : w.heap.size + 2 ≤ i := h; omega)
  · exact L5.out.grown hg7 L5.out.size (fun k hk => by have := Option.some.inj hk; omega)

section
variable {col : Nat → Nat} {q B r g : Nat} {w : World} {p : RepP} {x : RepD}
/-- A message as the node signs it. -/
def signM (x : RepD) (to : Int) (m : MsgD) : MsgD := { m with src := x.id, dst := to, incs := x.incs }
theorem sign_light {m : MsgD} (h : m.lightN 200) (to : Int) : (signM x to m).lightN 200 := h

set_option maxHeartbeats 4000000 in
set_option maxRecDepth 100000 in
theorem signed_any {F : Nat → Prop} {m : MsgD} {s o i : Value} (h : RepAt col q B w r p x g) (to : Int) (hm : Lists F w m s o i) (hl : m.lightN 200) :
    Calls Tryz.prog 102 #[.pointer (some ⟨p.s, 0, none⟩), .int .i64 to, .agg (m.cells s o i).toArray] w (Owned (signM x to m) w) := by
  obtain ⟨k1, k2, k3⟩ := hm.cell
  have HB : Hid (Below w.heap.size w ((w.alloc (.cells (m.cells s o i).toArray 42 (0, 0))).alloc (.cells zcells 42 (0, 0)))) := ((Below.refl _ _).alloc (Nat.le_refl _) _).alloc (by simp) _
  obtain ⟨iA, ic, hiv, hic1, hic2⟩ := h.incs.shape
  obtain ⟨W, hW⟩ : ∃ W, W = ((w.alloc (.cells (m.cells s o i).toArray 42 (0, 0))).alloc (.cells zcells 42 (0, 0))) := ⟨_, rfl⟩
  rw [← hW] at HB
  have H2 := h.later HB.out
  have X1 : Hid (W.heap[w.heap.size]? = some (.cells (m.cells s o i).toArray 42 (0, 0))) := by rw [hW]; exact heap_alloc2_old w _ _
  have X2 : Hid (W.heap[w.heap.size + 1]? = some (.cells zcells 42 (0, 0))) := by rw [hW]; exact heap_alloc2_new w _ _
  have c0 : W.cell? ⟨p.s, 0, none⟩ = some (.int .i64 x.id) := H2.cell (k := 0) rfl
  have c6 : W.cell? ⟨p.s, 6, none⟩ = some (.slice iA x.incs.length ic) := by rw [← hiv]; exact H2.cell (k := 6) rfl
  have b1 : W.cell? ⟨w.heap.size, 1, none⟩ = some (.int .i64 m.src) := box_cell X1.out 1 _ (by rfl)
  have b2 : W.cell? ⟨w.heap.size, 2, none⟩ = some (.int .i64 m.dst) := box_cell X1.out 2 _ (by rfl)
  have b33 : W.cell? ⟨w.heap.size, 33, none⟩ = some i := box_cell X1.out 33 _ (by rfl)
  have f1 : W.frozen? ⟨w.heap.size, 1, none⟩ = false := box_free X1.out 1
  have f2 : W.frozen? ⟨w.heap.size, 2, none⟩ = false := box_free X1.out 2
  have f33 : W.frozen? ⟨w.heap.size, 33, none⟩ = false := box_free X1.out 33
  have H := hide h
  have HM := hide hm
  have HI := hide hiv
  clear h hm H2 hiv
  have h33 : i.oneCell' = true := k3
  simp only [zcells, MsgD.cells, MsgD.zero, OpD.zero] at hW
  unfold MsgD.cells
  go_enter Tryz.func102, Tryz.ntmps102
  go_wp2
  rw [← hW]
  clear hW
  go_region
  obtain ⟨W3, hW3⟩ : ∃ W3, W3 = (((W.setCell ⟨w.heap.size, 1, none⟩ (.int .i64 x.id)).setCell ⟨w.heap.size, 2, none⟩ (.int .i64 to)).setCell ⟨w.heap.size, 33, none⟩ (.slice iA x.incs.length ic)).drew := ⟨_, rfl⟩
  have Y1 : Hid (W3.heap[w.heap.size]? = some (.cells ((signM x to m).cells s o (.slice iA x.incs.length ic)).toArray 42 (0, 0))) := by
    rw [hW3]
    have a1 := heap_setCell_same W w.heap.size 1 _ _ (.int .i64 x.id) X1.out
    have a2 := heap_setCell_same _ w.heap.size 2 _ _ (.int .i64 to) a1
    exact heap_setCell_same _ w.heap.size 33 _ _ (.slice iA x.incs.length ic) a2
  have G3 : Hid (W.grownBy W3 (some w.heap.size)) := by
    rw [hW3]
    have a := grown_trans (grown_trans (grown_set W w.heap.size 1 (.int .i64 x.id)) (grown_set _ w.heap.size 2 (.int .i64 to))) (grown_set _ w.heap.size 33 (.slice iA x.incs.length ic))
    exact ⟨a.os, a.tape, a.output, a.size, a.block⟩
  rw [← hW3]
  clear hW3 c0 c6 b1 b2 b33 f1 f2 f33
  have Y2 : Hid (W3.heap[w.heap.size + 1]? = some (.cells zcells 42 (0, 0))) := (G3.out.block _ (lt_of_block X2.out) (by simp)).trans X2.out
  have hsW : w.heap.size + 2 ≤ W3.heap.size := lt_of_block Y2.out
  have L3 : Hid (Below w.heap.size w W3) := HB.out.grown G3.out HB.out.size (fun k hk => by have := Option.some.inj hk; omega)
  have hli : Lists (fun _ => True) W3 (signM x to m) s o (.slice iA x.incs.length ic) := by
    have a1 := (HM.out.kept (Kept.of_below L3.out _)).mono (G := fun _ => True) (fun _ _ _ => trivial)
    have a2 := (H.out.incs.kept (Kept.of_below L3.out _)).mono (G := fun _ => True) (fun _ _ _ => trivial)
    rw [HI.out] at a2
    exact ⟨a1.1, a1.2.1, a2.1⟩
  have hlen : x.incs.length ≤ 1000000 := by have := H.out.ok.incs; have := H.out.ok.n; omega
  have C := hide (bagcopy_any W3 hli (sign_light hl to) hlen)
  unfold MsgD.cells at C
  obtain ⟨j1, j2, j3⟩ := hli.cell
  clear hli X1 X2 k1 k2 k3
  go_wp2_with (refine wpList_load_box (by rfl) 42 _ (by rfl) w.heap.size 0 (by rfl) 42 _ Y1.out 34 _ Tryz.underlying42 (by rfl) (by kernel_rfl) _ (by rfl) (by rfl) ?_)
  refine C.out.mono ?_
  rintro e w5 ⟨s5, o5, i5, ps5, rfl, hf5, hb5⟩
  have Y5 : Hid (w5.heap[w.heap.size + 1]? = some (.cells zcells 42 (0, 0))) := (hb5.block _ (lt_of_block Y2.out)).trans Y2.out
  have L5 : Hid (Below w.heap.size w w5) := L3.out.trans (hb5.mono L3.out.size)
  have hs5 : w.heap.size + 2 ≤ w5.heap.size := by have := hb5.size; omega
  have HF := hide (hf5.mono (G := (w.heap.size + 2 ≤ ·)) (fun _ _ h => by have h2 : W3.heap.size ≤ _ := h; omega))
  clear hf5 hb5 C
  obtain ⟨j1, j2, j3⟩ : s5.oneCell' = true ∧ o5.oneCell' = true ∧ i5.oneCell' = true := ⟨FlatAt.oneCell HF.out.1, FlatAt.oneCell HF.out.2.1.1, FlatAt.oneCell HF.out.2.2.2.1⟩
  go_wp2_with (refine wpList_store_box (by rfl) 42 _ _ (by rfl) (w.heap.size + 1) 0 ((signM x to m).cells s5 o5 i5).toArray (by rfl) (by rfl) 42 _ Y5.out (by kernel_rfl) (by exact Nat.le_of_ble_eq_true rfl) (by exact (signM x to m).one j1 j2 j3) ?_; intro w7 hb7 hg7; rw [put_zmsg] at hb7)
  refine bodyPost_ret (results_cell_row Tryz.results102 _ _ (w.heap.size + 1) 42 _ (0, 0) _ (by rfl) hb7 Tryz.underlying42 (by rfl) (by kernel_rfl)) (by rfl) ⟨_, _, _, ps5, rfl, ?_, ?_⟩
  · exact (HF.out.kept (Kept.of_grown hg7 (fun g e h => by have e2 := Option.some.inj e; have h2 : w.heap.size + 2 ≤ g := h; omega))).mono (fun i _ h => by have h2 : w.heap.size + 2 ≤ i := h; omega)
  · exact L5.out.grown hg7 L5.out.size (fun k hk => by have := Option.some.inj hk; omega)
end
end Go.Proofs.YtaiegmhlgjogmaaGreat
/- The walk over Stale of package vr: does a message come from an elder incarnation? -/
namespace Go.Proofs.YtaiegmhlgjogmaaGreat
open Go.RowKit

/-- Does it come from an elder incarnation than l knows, or from no node? -/
def staleB (l : List Int) (m : MsgD) : Bool :=
  if m.src < 1 ∨ (l.length : Int) < m.src ∨ (m.incs.length : Int) < m.src then true else decide (m.incs.getD (m.src.toNat - 1) 0 < l.getD (m.src.toNat - 1) 0)
theorem stale_out {l : List Int} {m : MsgD} (h : m.src < 1 ∨ (l.length : Int) < m.src ∨ (m.incs.length : Int) < m.src) : staleB l m = true := by rw [staleB, if_pos h]
theorem stale_in {l : List Int} {m : MsgD} {p : Nat} (h : m.src = (p : Int) + 1) (h1 : p < l.length) (h2 : p < m.incs.length) : staleB l m = decide (m.incs.getD p 0 < l.getD p 0) := by
  rw [staleB, if_neg (by omega), show m.src.toNat - 1 = p from by omega]

set_option maxHeartbeats 2000000 in
set_option maxRecDepth 100000 in
theorem stale_any {F G : Nat → Prop} {w : World} {v : Value} {l : List Int} {m : MsgD} {s o i : Value} (hl : SlI F w v l) (hm : IncsAt G w i m.incs) (hi : I64 m.src) :
    Calls Tryz.prog 105 #[v, .agg (m.cells s o i).toArray] w fun e w' => e = .returned (.bool (staleB l m)) ∧ Later w w' := by
  have HB : Hid (Later w (w.alloc (.cells (m.cells s o i).toArray 42 (0, 0)))) := (Below.refl _ _).alloc (Nat.le_refl _) _
  have hx : (w.alloc (.cells (m.cells s o i).toArray 42 (0, 0))).heap[w.heap.size]? = some (.cells (m.cells s o i).toArray 42 (0, 0)) := heap_alloc_new _ _
  have c1 := box_cell hx 1 (.int .i64 m.src) (by rfl)
  have c33 := box_cell hx 33 i (by rfl)
  obtain ⟨A, c, rfl, h1, h2⟩ := hl.shape
  obtain ⟨A2, c2, rfl, h3, h4, _⟩ := FlatAt.shape hm
  have HS := hide (hl.kept (Kept.of_below HB.out F))
  have HI := hide (hm.kept (Kept.of_below HB.out G))
  obtain ⟨n, hn⟩ : ∃ n, l.length = n := ⟨_, rfl⟩
  obtain ⟨k, hk⟩ : ∃ k, m.incs.length = k := ⟨_, rfl⟩
  rw [hn] at HS
  rw [hk] at HS HI c33 ⊢
  rw [hn]
  have hn2 : n ≤ maxLen := by omega
  have hk2 : k ≤ maxLen := by omega
  unfold maxLen at hn2 hk2
  have HN := hide hn
  have HK := hide hk
  obtain ⟨x, hx2⟩ : ∃ x, m.src = x := ⟨_, rfl⟩
  have HX := hide hx2
  have hxi : I64 x := by rw [← hx2]; exact hi
  unfold I64 at hxi
  clear hl hm hx h1 h2 h3 h4 hn hk hi
  unfold MsgD.cells at c1 c33 ⊢
  rw [hx2] at c1 c33 ⊢
  clear hx2
  by_cases hx1 : x < 1
  · have H : Hid (staleB l m = true) := by show _ = _; exact stale_out (.inl (by rw [HX.out]; exact hx1))
    go_enter Tryz.func105, Tryz.ntmps105
    go_wp2
    go_ret
    exact ⟨ret_bool H.out.symm, (Below.refl _ _).alloc (Nat.le_refl _) _⟩
  · obtain ⟨p, rfl⟩ : ∃ p : Nat, x = (p : Int) + 1 := ⟨(x - 1).toNat, by omega⟩
    by_cases hp : p < n ∧ p < k
    · obtain ⟨hp1, hp2⟩ := hp
      have H := hide (stale_in HX.out (l := l) (by rw [HN.out]; exact hp1) (by rw [HK.out]; exact hp2))
      obtain ⟨b, off, rfl, _, hc⟩ := HS.out.cell (i := p) hp1
      obtain ⟨y, b2, off2, c3, hy, hv, _, _, _, hc2⟩ := IncsAt.at_ HI.out (i := p) (by rw [HK.out]; exact hp2)
      obtain rfl : A2 = some ⟨b2, off2, none⟩ := by injection hv
      have hy2 : m.incs.getD p 0 = y := by simp [List.getD, hy]
      rw [hy2] at H
      obtain ⟨z, hz⟩ : ∃ z, l.getD p 0 = z := ⟨_, rfl⟩
      rw [hz] at hc H
      have hmin : decide (min (n : Int) (k : Int) < (p : Int) + 1) = false := by simp; omega
      unfold MsgD.cells at hc hc2
      rw [HX.out] at hc hc2
      clear hy hv hy2 hz
      go_enter Tryz.func105, Tryz.ntmps105
      go_wp2
      go_quiet (fail)
      go_wp2
      go_ret
      exact ⟨ret_bool H.out.symm, ((Below.refl _ _).alloc (Nat.le_refl _) _).trans (below_drewN _ _ _)⟩
    · have H : Hid (staleB l m = true) := by show _ = _; exact stale_out (.inr (by rw [HX.out, HN.out, HK.out]; omega))
      have hmin : decide (min (n : Int) (k : Int) < (p : Int) + 1) = true := by simp; omega
      go_enter Tryz.func105, Tryz.ntmps105
      go_wp2
      go_ret
      exact ⟨ret_bool H.out.symm, (Below.refl _ _).alloc (Nat.le_refl _) _⟩
end Go.Proofs.YtaiegmhlgjogmaaGreat
/- Append of a slice of structs to a row of the call's own, and where the row lies behind it. -/
namespace Go.Proofs.YtaiegmhlgjogmaaGreat
open Go.RowKit
section
variable {P : Program} {w : World}
theorem wpList_append_flat_to {ops : Array Oper} {rest : List Oper} {o : Oper} {a : Act} {Q : Exit → Act → World → Prop} (hgd : o.guard = none) (s x : Operand) (t : TypeId)
    (ho : o.op = .call { callee := .builtin .append, args := #[s, x], argTypes := #[t, t] })
    (base : Nat) (e : TypeId) (i : TypeInfo) (z : Value) (k bytes : Nat) (ht : P.underlying t = some (.slice e)) (hi : P.info? e = some i) (hz : i.zero = some z)
    (hsize : i.size = k) (hby : i.bytes = bytes) (hzs : z.cells.size = k) (hk : 0 < k)
    (v : Value) (n : Nat) (xs : List Value) (hs : a.eval s = v) (hown : w.ownsRow base e k v n xs)
    (g c m : Nat) (ys : List Value) (hx : a.eval x = .slice (some ⟨g, 0, none⟩) m c) (F : Nat → Prop) (hl : FlatAt F w k (.slice (some ⟨g, 0, none⟩) m c) m ys) (hm : 0 < m) (hroom : n + m ≤ maxLen) (hbytes : (n + m) * bytes ≤ 140737488355328) (hbase : base ≤ w.heap.size)
    (h : ∀ v' w', w'.ownsRow base e k v' (n + m) (xs ++ ys) → w.grownBy w' v.ownBlock → (v'.ownBlock = v.ownBlock ∨ v'.ownBlock = some w.heap.size) → wpList P ops Q rest (a.put o.dst v') w') : wpList P ops Q (o :: rest) a w :=
  wpList_plain hgd fun _ hK => wp_append_flat s x t ho base e i z k bytes ht hi hz hsize hby hzs hk v n xs hs hown g c m ys hx F hl hm hroom hbytes hbase (fun v' w' h1 h2 h3 => hK _ _ (h v' w' h1 h2 h3))
end
end Go.Proofs.YtaiegmhlgjogmaaGreat
/- Fresh of package vr, and the document's: the messages of no elder incarnation. -/
namespace Go.Proofs.YtaiegmhlgjogmaaGreat
open Go.RowKit

theorem Tryz.infoMsg : (Tryz.prog.info? 42).map (fun i => (i.zero, i.size, i.bytes)) = some (some (.agg zcells), 34, 304) := by kernel_rfl
/-- Those that are not stale. -/
def freshL (a : List Int) (l : List MsgD) : List MsgD := l.filter fun m => !staleB a m
/-- A row of messages of the call's own, their lists in other blocks. -/
structure MRow (w : World) (base : Nat) (v : Value) (ps : List MsgV) : Prop where
  own : w.ownsRow base 42 34 v ps.length (ps.flatMap MsgV.cells)
  lists : ∀ p ∈ ps, Lists (fun b => some b ≠ v.ownBlock) w p.m p.s p.o p.i
theorem MRow.nil (w : World) (base : Nat) : MRow w base (.slice none 0 0) [] := ⟨World.ownsRow_nil _ _ _ _, by simp⟩
theorem MRow.later {w w' : World} {base : Nat} {v : Value} {ps : List MsgV} (h : MRow w base v ps) (hl : Later w w') : MRow w' base v ps := ⟨own_on h.own hl, fun p hp => (h.lists p hp).kept (Kept.of_below hl _)⟩
theorem msgs_one {F : Nat → Prop} {w : World} {ps : List MsgV} (h : ∀ p ∈ ps, Lists F w p.m p.s p.o p.i) : ∀ u ∈ ps.flatMap MsgV.cells, u.oneCell' = true := by
  intro u hu
  obtain ⟨p, hp, hu⟩ := List.mem_flatMap.1 hu
  have hc := (h p hp).cell
  exact msg_one p hc.1 hc.2.1 hc.2.2 u hu
theorem MRow.msgs {w : World} {base : Nat} {v : Value} {ps : List MsgV} (h : MRow w base v ps) : MsgsIn (fun _ => True) w v ps := ⟨(FlatAt.of_own h.own (msgs_one h.lists)).mono (fun _ _ _ => trivial), fun p hp => (h.lists p hp).mono (fun _ _ _ => trivial)⟩
/-- With one message more. -/
theorem MRow.next {w1 w2 : World} {base : Nat} {v v2 : Value} {ps : List MsgV} {p : MsgV} {X : Obj} (h : MRow w1 base v ps) (hp : Lists (fun b => some b ≠ v.ownBlock) w1 p.m p.s p.o p.i)
    (ho : w2.ownsRow base 42 34 v2 (ps.length + 1) (ps.flatMap MsgV.cells ++ p.cells)) (hg : (w1.alloc X).grownBy w2 v.ownBlock) (hw : v2.ownBlock = v.ownBlock ∨ v2.ownBlock = some (w1.alloc X).heap.size) : MRow w2 base v2 (ps ++ [p]) := by
  have go : ∀ q : MsgV, Lists (fun b => some b ≠ v.ownBlock) w1 q.m q.s q.o q.i → Lists (fun b => some b ≠ v2.ownBlock) w2 q.m q.s q.o q.i := fun q hq => by
    have h1 := hq.kept (Kept.of_below (show Below w1.heap.size w1 (w1.alloc X) from (Below.refl _ _).alloc (Nat.le_refl _) _) _)
    have h2 := h1.mono (G := fun b => some b ≠ v.ownBlock ∧ some b ≠ v2.ownBlock) (fun i hi hf => ⟨hf, by
      rcases hw with hw | hw
      · rw [hw]; exact hf
      · rw [hw]; intro e; have := Option.some.inj e; omega⟩)
    exact (h2.kept (Kept.of_grown hg (fun g e h => h.1 e.symm))).mono (fun _ _ hf => hf.2)
  refine ⟨by simpa using ho, fun q hq => ?_⟩
  rcases List.mem_append.1 hq with hq | hq
  · exact go q (h.lists q hq)
  · obtain rfl : q = p := by simpa using hq
    exact go q hp
/-- What Fresh tells: a new row of those that are not stale. -/
def Freshed (a : List Int) (ps : List MsgV) (w : World) (e : Ending) (w' : World) : Prop :=
  ∃ v qs, e = .returned v ∧ MsgsIn (fun _ => True) w' v qs ∧ qs.map MsgV.m = freshL a (ps.map MsgV.m) ∧ Later w w'
theorem fresh_next {a : List Int} {ps : List MsgV} {q : Nat} {p : MsgV} (h : ps[q]? = some p) : freshL a ((ps.take (q + 1)).map MsgV.m) = freshL a ((ps.take q).map MsgV.m) ++ if staleB a p.m then [] else [p.m] := by
  rw [List.take_add_one, h]
  unfold freshL
  simp only [Option.toList_some, List.map_append, List.map_cons, List.map_nil, List.filter_append]
  cases hs : staleB a p.m <;> simp [hs]

end Go.Proofs.YtaiegmhlgjogmaaGreat
/- A node sends a message to each other node: a row of copies in new memory. -/
namespace Go.Proofs.YtaiegmhlgjogmaaGreat
open Go.RowKit Go.Maps

/-- A row of messages in new memory, their lists in other blocks, new too. -/
structure NRow (w : World) (base : Nat) (v : Value) (ps : List MsgV) : Prop where
  own : w.ownsRow base 42 34 v ps.length (ps.flatMap MsgV.cells)
  lists : ∀ p ∈ ps, Lists (fun b => base ≤ b ∧ some b ≠ v.ownBlock) w p.m p.s p.o p.i
theorem NRow.nil (w : World) (base : Nat) : NRow w base (.slice none 0 0) [] := ⟨World.ownsRow_nil _ _ _ _, by simp⟩
theorem NRow.later {w w' : World} {base : Nat} {v : Value} {ps : List MsgV} (h : NRow w base v ps) (hl : Later w w') : NRow w' base v ps := ⟨own_on h.own hl, fun p hp => (h.lists p hp).kept (Kept.of_below hl _)⟩
/-- As a slice of messages, that lie in the row's new blocks. -/
theorem NRow.msgs {w : World} {base : Nat} {v : Value} {ps : List MsgV} (h : NRow w base v ps) : MsgsIn (base ≤ ·) w v ps := ⟨FlatAt.of_own h.own (msgs_one h.lists), fun p hp => (h.lists p hp).mono (fun _ _ hf => hf.1)⟩
theorem NRow.lower {w : World} {base base' : Nat} {v : Value} {ps : List MsgV} (h : NRow w base v ps) (hb : base' ≤ base) : NRow w base' v ps := by
  refine ⟨⟨h.own.1, ?_⟩, fun p hp => (h.lists p hp).mono fun _ _ hf => ⟨Nat.le_trans hb hf.1, hf.2⟩⟩
  rcases h.own.2 with h0 | ⟨g, cap, cur, hv, h1, h2⟩
  · exact .inl h0
  · exact .inr ⟨g, cap, cur, hv, Nat.le_trans hb h1, h2⟩
/-- With one message more. -/
theorem NRow.next {w1 w2 : World} {base : Nat} {v v2 : Value} {ps : List MsgV} {p : MsgV} {X : Obj} (h : NRow w1 base v ps) (hp : Lists (fun b => base ≤ b ∧ some b ≠ v.ownBlock) w1 p.m p.s p.o p.i)
    (ho : w2.ownsRow base 42 34 v2 (ps.length + 1) (ps.flatMap MsgV.cells ++ p.cells)) (hg : (w1.alloc X).grownBy w2 v.ownBlock) (hw : v2.ownBlock = v.ownBlock ∨ v2.ownBlock = some (w1.alloc X).heap.size) : NRow w2 base v2 (ps ++ [p]) := by
  have go : ∀ q : MsgV, Lists (fun b => base ≤ b ∧ some b ≠ v.ownBlock) w1 q.m q.s q.o q.i → Lists (fun b => base ≤ b ∧ some b ≠ v2.ownBlock) w2 q.m q.s q.o q.i := fun q hq => by
    have h1 := hq.kept (Kept.of_below (show Below w1.heap.size w1 (w1.alloc X) from (Below.refl _ _).alloc (Nat.le_refl _) _) _)
    have h2 := h1.mono (G := fun b => base ≤ b ∧ some b ≠ v.ownBlock ∧ some b ≠ v2.ownBlock) (fun i hi hf => ⟨hf.1, hf.2, by
      rcases hw with hw | hw
      · rw [hw]; exact hf.2
      · rw [hw]; intro e; have := Option.some.inj e; omega⟩)
    exact (h2.kept (Kept.of_grown hg (fun g e h => h.2.1 e.symm))).mono (fun _ _ hf => ⟨hf.1, hf.2.2⟩)
  refine ⟨by simpa using ho, fun q hq => ?_⟩
  rcases List.mem_append.1 hq with hq | hq
  · exact go q (h.lists q hq)
  · obtain rfl : q = p := by simpa using hq
    exact go q hp

section
variable {col : Nat → Nat} {q B r g : Nat} {w : World} {p : RepP} {x : RepD}
/-- The message to the nodes up to k, but for this one. -/
def allUp (x : RepD) (m : MsgD) (k : Nat) : List MsgD := ((List.range k).filter fun (i : Nat) => !(((i : Int) + 1) == x.id)).map fun (i : Nat) => signM x ((i : Int) + 1) m
def allM (x : RepD) (m : MsgD) : List MsgD := allUp x m x.n.toNat
theorem allUp_next (x : RepD) (m : MsgD) (k : Nat) : allUp x m (k + 1) = allUp x m k ++ if ((k : Int) + 1 == x.id) = true then [] else [signM x ((k : Int) + 1) m] := by
  unfold allUp
  rw [List.range_succ, List.filter_append, List.map_append]
  cases h : ((k : Int) + 1 == x.id) <;> simp [h]
theorem allUp_len (x : RepD) (m : MsgD) (k : Nat) : (allUp x m k).length ≤ k := by
  unfold allUp
  rw [List.length_map]
  exact Nat.le_trans (List.length_filter_le _ _) (by simp)
/-- What sending to all tells. -/
def Sent (l : List MsgD) (w : World) (e : Ending) (w' : World) : Prop := ∃ v ps, e = .returned v ∧ NRow w' w.heap.size v ps ∧ ps.map MsgV.m = l ∧ Later w w'

set_option maxHeartbeats 4000000 in
set_option maxRecDepth 100000 in
theorem toall_any {F : Nat → Prop} {m : MsgD} {s o i : Value} (h : RepAt col q B w r p x g) (hm : Lists F w m s o i) (hl : m.lightN 200) :
    Calls Tryz.prog 54 #[.pointer (some ⟨p.s, 0, none⟩), .agg (m.cells s o i).toArray] w (Sent (allM x m) w) := by
  obtain ⟨i0, hi, hz0, hz1, hz2⟩ := info_parts Tryz.infoMsg
  obtain ⟨k1, k2, k3⟩ := hm.cell
  obtain ⟨n, hn⟩ : ∃ n : Nat, x.n = (n : Int) := ⟨x.n.toNat, by have := h.ok.n; omega⟩
  have hn5 : n ≤ 5 := by have := h.ok.n; omega
  have LB : Hid (Later w (w.alloc (.cells (m.cells s o i).toArray 42 (0, 0)))) := (Below.refl _ _).alloc (Nat.le_refl _) _
  have XB : Hid ((w.alloc (.cells (m.cells s o i).toArray 42 (0, 0))).heap[w.heap.size]? = some (.cells (m.cells s o i).toArray 42 (0, 0))) := heap_alloc_new _ _
  obtain ⟨W, hW⟩ : ∃ W, W = w.alloc (.cells (m.cells s o i).toArray 42 (0, 0)) := ⟨_, rfl⟩
  rw [← hW] at LB XB
  have c1 : W.cell? ⟨p.s, 1, none⟩ = some (.int .i64 (n : Int)) := by rw [← hn]; exact (h.later LB.out).cell (k := 1) rfl
  have H := hide h
  have HM := hide hm
  have HN := hide hn
  have HL := hide hl
  clear h hm hn hl
  unfold MsgD.cells at hW ⊢
  have c1w := c1
  rw [hW] at c1w
  go_enter Tryz.func54, Tryz.ntmps54
  go_wp2
  rw [← hW]
  clear c1w hW
  go_loopw [5, 13] (fun r0 j wr => ∃ (k : Nat) (qs : List MsgV) (v : Value), v = r0 ∧ k ≤ n ∧ j = .int .i64 (k : Int) ∧ NRow wr W.heap.size v qs ∧ qs.map MsgV.m = allUp x m k ∧ qs.length ≤ k ∧ Later W wr) (fun _ j _ => n - (Go.RowKit.intOf j).toNat)
  case atStart => exact ⟨0, [], _, rfl, by omega, rfl, NRow.nil _ _, rfl, Nat.le_refl _, Below.refl _ _⟩
  case round =>
    obtain ⟨k, qs, v, rfl, hk, rfl, hrow, heq, hql, hb⟩ := hrel
    have HR := hide hrow
    have HE := hide heq
    have HB := hide hb
    have L0 : Hid (Below w.heap.size w wr) := LB.out.trans hb
    have HRep := hide (H.out.later L0.out)
    have c0 : wr.cell? ⟨p.s, 0, none⟩ = some (.int .i64 x.id) := HRep.out.cell (k := 0) rfl
    have XR : Hid (wr.heap[w.heap.size]? = some (.cells (m.cells s o i).toArray 42 (0, 0))) := (hb.block _ (lt_of_block XB.out)).trans XB.out
    clear hrow heq hb c1
    by_cases hlt : k < n
    · have hw : IntKind.i64.wrap ((k : Int) + 1) = (k : Int) + 1 := IntWalk.i64_in _ (by omega)
      have HNX := hide (allUp_next x m k)
      obtain ⟨t, ht⟩ : ∃ t, ((k : Int) + 1 == x.id) = t := ⟨_, rfl⟩
      have ht2 : (!((k : Int) + 1 == x.id)) = !t := by rw [ht]
      have ht3 : ((k : Int) + 1 != x.id) = !t := ht2
      have HT := hide ht
      have CS := hide (signed_any HRep.out ((k : Int) + 1) (HM.out.kept (Kept.of_below L0.out _)) HL.out)
      clear ht
      cases t with
      | true =>
        simp only [Bool.not_true] at ht2 ht3
        go_wp2
        go_roundw
        case rel => exact ⟨k + 1, qs, _, rfl, by omega, by go_num, HR.out, by rw [HE.out, HNX.out, HT.out]; simp, by omega, HB.out⟩
        case measure => simp [Go.RowKit.intOf]; omega
      | false =>
        simp only [Bool.not_false] at ht2 ht3
        go_wp2_with (refine wpList_load_box (by rfl) 42 _ (by rfl) (w.heap.size) 0 (by rfl) 42 _ (XR.out) 34 _ Tryz.underlying42 (by rfl) (by kernel_rfl) (m.cells s o i) (by rfl) (by rfl) ?_)
        refine CS.out.mono ?_
        rintro e w4 ⟨s4, o4, i4, ps4, rfl, hf4, hb4⟩
        have L4 : Hid (Later wr w4) := hb4
        have HR4 := hide (HR.out.later L4.out)
        have hsz : W.heap.size ≤ w4.heap.size := Below.size (HB.out.trans L4.out)
        have hl4 := hf4.at_
        have HL4 : Hid (Lists (fun b => W.heap.size ≤ b ∧ some b ≠ v.ownBlock) w4 (signM x ((k : Int) + 1) m) s4 o4 i4) := by
          have a : Lists (wr.heap.size ≤ ·) w4 (signM x ((k : Int) + 1) m) s4 o4 i4 := ⟨hf4.1, ⟨ps4, hf4.2.2.1, hf4.2.1⟩, hf4.2.2.2.1⟩
          refine a.mono (fun b _ hf => ⟨by have := Below.size HB.out; have h2 : wr.heap.size ≤ b := hf; omega, fun hb => ?_⟩)
          have h1 := (HR.out.own.lt b hb.symm).2
          have h2 : wr.heap.size ≤ b := hf
          omega
        have HO := hide (HR4.out.own.alloc (.cells ((signM x ((k : Int) + 1) m).cells s4 o4 i4).toArray 42 (0, 0)))
        obtain ⟨j1, j2, j3⟩ := HL4.out.cell
        clear hf4 hb4 CS hl4
        go_wp2_with (first
          | (refine wpList_buildSlice_one (by rfl) 57 42 _ (by rfl) i0 _ 34 Tryz.underlying57 hi hz0 hz1 (by decide) (by decide) (((signM x ((k : Int) + 1) m).cells s4 o4 i4).toArray) (by rfl) (by rfl) ?_)
          | (at_builtin; refine wpList_append_flat_to (by rfl) _ _ 57 (by rfl) W.heap.size 42 i0 _ 34 304 Tryz.underlying57 hi hz0 hz1 hz2 (by rfl) (by decide) v qs.length (qs.flatMap MsgV.cells) (by rfl) HO.out w4.heap.size 1 1 ((signM x ((k : Int) + 1) m).cells s4 o4 i4) (by rfl) (fun _ => True) (flat_one w4 42 34 ((signM x ((k : Int) + 1) m).cells s4 o4 i4).toArray (by rfl) (by exact (signM x ((k : Int) + 1) m).one j1 j2 j3) (fun _ => True) trivial) (by decide) (by unfold maxLen; omega) (by omega) (by simp; omega) ?_; intro v5 w5 o5 g5 e5))
        have R5 := hide (NRow.next (p := ⟨signM x ((k : Int) + 1) m, s4, o4, i4⟩) HR4.out HL4.out o5 g5 e5)
        have L5 : Hid (Later W w5) := Below.grown (Below.alloc (HB.out.trans L4.out) (by have := Below.size (HB.out.trans L4.out); omega) _) g5 (by have := Below.size (HB.out.trans L4.out); simp; omega) (fun k hk => (HR.out.own.lt k hk).1)
        clear o5 g5 e5
        go_wp2
        go_roundw
        case rel => exact ⟨k + 1, qs ++ [⟨signM x ((k : Int) + 1) m, s4, o4, i4⟩], _, rfl, by omega, by go_num, R5.out, by rw [List.map_append, HE.out, HNX.out, HT.out]; simp, by simp; omega, L5.out⟩
        case measure => simp [Go.RowKit.intOf]; omega
    · obtain rfl : k = n := by omega
      have hall : qs.map MsgV.m = allM x m := by rw [HE.out]; unfold allM; rw [HN.out]; simp
      have HALL := hide hall
      clear hall
      go_wp2
      go_ret
      exact ⟨_, qs, rfl, HR.out.lower (Below.size LB.out), HALL.out, L0.out⟩
end
end Go.Proofs.YtaiegmhlgjogmaaGreat
/- A node is for a view, which has yet to begin. -/
namespace Go.Proofs.YtaiegmhlgjogmaaGreat
open Go.RowKit Go.Maps

section
variable {col : Nat → Nat} {q B r g : Nat} {w : World} {p : RepP} {x : RepD}
/-- Messages told, all in new blocks that are no node's. -/
def SentC (col' : Nat → Nat) (l : List MsgD) (w : World) (e : Ending) (w' : World) : Prop :=
  ∃ v ps base, e = .returned v ∧ w.heap.size ≤ base ∧ (∀ i, base ≤ i → col' i = 0) ∧ NRow w' base v ps ∧ ps.map MsgV.m = l

theorem enters_start : EntersF 167 := fun args w => by go_simp
theorem start_any (w : World) (y : HeardD) (hl : Lists (fun i => col i = 0) w y.p.m y.p.s y.p.o y.p.i) : Changes 167 #[] col w y (startH y) := by
  intro W u hW hu hb
  have c1 : W.cell? ⟨u, 1, none⟩ = some (.bool y.start) := box_cell hb 1 _ (by rfl)
  have f1 : W.frozen? ⟨u, 1, none⟩ = false := box_free hb 1
  have HB := hide hb
  have HL := hide hl
  have HW := hide hW
  clear hb hl hW
  simp only [Array.append_empty]
  go_enter Tryz.func167, Tryz.ntmps167
  go_wp2
  go_end0
  have hg := grown_set W u 1 (.bool true)
  refine ⟨rfl, Turned.of_grown hg (fun i e => (Option.some.inj e).symm), ?_, ?_⟩
  · rw [heap_setCell_same W u 1 _ _ (.bool true) HB.out, start_cells]
  · have h1 := (HL.out.mono (G := fun i => col i = 0 ∧ i ≠ u) fun i hi e => ⟨e, by omega⟩).kept (Kept.of_below HW.out _)
    exact h1.kept (Kept.of_grown hg fun i e h => h.2 (Option.some.inj e).symm)

/-- Its view, and that it has yet to begin. -/
def forView (x : RepD) (v : Int) : RepD := { x with view := v, phase := 2 }
def changeR (x : RepD) (v : Int) : RepD := aloneT (keptR (forgetR (forView x v)) x.id (startH HeardD.nil)) 3
def startM (v : Int) : MsgD := { MsgD.zero with kind := 6, view := v }

set_option maxHeartbeats 4000000 in
set_option maxRecDepth 100000 in
theorem change_any (h : RepAt col q B w r p x g) (v : Int) (hv1 : 0 ≤ v) (hv2 : v ≤ 1099511627776 + g) (hg : g ≤ 800000) :
    Calls Tryz.prog 122 #[.pointer (some ⟨p.s, 0, none⟩), .int .i64 v] w fun e w' => ∃ col', Since q B w col col' w' r p (changeR x v) (g + 2) ∧ SentC col' (allM (changeR x v) (startM v)) w e w' := by
  have H := hide h
  have c2 : w.cell? ⟨p.s, 2, none⟩ = some (.int .i64 x.phase) := h.cell (k := 2) rfl
  have c3 : w.cell? ⟨p.s, 3, none⟩ = some (.int .i64 x.view) := h.cell (k := 3) rfl
  have f2 := h.free 2
  have f3 := h.free 3
  have HV1 := hide hv1
  have HV2 := hide hv2
  clear h hv1 hv2
  go_enter Tryz.func122, Tryz.ntmps122
  go_wp2_with (fail)
  obtain ⟨W, hW⟩ : ∃ W, W = (w.setCell ⟨p.s, 3, none⟩ (.int .i64 v)).setCell ⟨p.s, 2, none⟩ (.int .i64 2) := ⟨_, rfl⟩
  have HS1 : Hid (Since q B w col col W r p (forView x v) g) := by
    have ok := H.out.ok
    have s1 := H.out.put (x' := { x with view := v }) (k := 3) (v := .int .i64 v) rfl rfl ⟨rfl, rfl, rfl, rfl, rfl⟩ ⟨rfl, rfl⟩ ⟨ok.id, ok.n, ⟨HV1.out, HV2.out⟩, ok.last, ok.nonce, ok.incs, ok.taken, ok.now, ok.names, ok.later, ok.keys, ok.rise, ok.acks⟩
    have s2 := s1.rep.put (x' := forView x v) hW rfl ⟨rfl, rfl, rfl, rfl, rfl⟩ ⟨rfl, rfl⟩ ⟨ok.id, ok.n, ⟨HV1.out, HV2.out⟩, ok.last, ok.nonce, ok.incs, ok.taken, ok.now, ok.names, ok.later, ok.keys, ok.rise, ok.acks⟩
    exact s1.next s2
  rw [← hW]
  clear hW c2 c3 f2 f3
  refine (forget_any HS1.out.rep).mono ?_
  rintro e w2 ⟨rfl, hs2⟩
  have HS2 := hide (HS1.out.next hs2)
  clear hs2
  have c0 : w2.cell? ⟨p.s, 0, none⟩ = some (.int .i64 x.id) := HS2.out.rep.cell (k := 0) rfl
  have CK := hide (keep_any HS2.out.rep (node := x.id) H.out.ok.id enters_start (start_any w2 (foundH (forgetR (forView x v)).kept x.id) (found_lists HS2.out.rep x.id)) (found_acks HS2.out.rep.ok x.id) (by omega))
  rw [show foundH (forgetR (forView x v)).kept x.id = HeardD.nil from rfl] at CK
  go_wp2_with (fail)
  refine CK.out.mono ?_
  rintro e w3 ⟨rfl, hs3⟩
  have HS3 := hide (HS2.out.next hs3)
  have CA := hide (alone_any hs3.rep 3 (by decide) (by decide) (by omega))
  clear hs3 c0 CK
  go_wp2_with (fail)
  refine CA.out.mono ?_
  rintro e w4 ⟨rfl, c4, hs4⟩
  have HS4 : Hid (Since q B w col c4 w4 r p (changeR x v) (g + 2)) := HS3.out.next hs4
  have CT := hide (toall_any (F := fun _ => True) (m := startM v) (s := .slice none 0 0) (o := .slice none 0 0) (i := .slice none 0 0) HS4.out.rep ⟨StepsAt.nil_ _ _, ⟨[], rfl, FlatAt.nil_ _ _ _, by simp⟩, IncsAt.nil_ _ _⟩ ⟨by show (0 : Int) ≤ 200; decide, by show (0 : Int) ≤ 200; decide, by simp [startM, MsgD.zero]⟩)
  simp only [MsgD.cells, startM, MsgD.zero, OpD.zero] at CT
  clear hs4 CA
  go_wp2_with (fail)
  refine CT.out.mono ?_
  rintro e w5 ⟨u, ps, rfl, hrow, hps, hl⟩
  have HROW := hide hrow
  have HPS := hide hps
  have HL := hide hl
  obtain ⟨A, n, c, rfl⟩ : ∃ A n c, u = .slice A n c := by
    obtain ⟨_, _, A, c, e, _⟩ := hrow.msgs.1
    exact ⟨A, _, c, e⟩
  clear hrow hps hl CT
  go_wp2
  go_ret
  exact ⟨c4, HS4.out.later HL.out, _, ps, w4.heap.size, rfl, HS4.out.turned.size, HS4.out.rep.fresh, HROW.out, HPS.out⟩
end
end Go.Proofs.YtaiegmhlgjogmaaGreat
/- What a node says of itself; a new one. -/
namespace Go.Proofs.YtaiegmhlgjogmaaGreat
open Go.RowKit Go.Maps

section
variable {col : Nat → Nat} {q B r g : Nat} {w : World} {p : RepP} {x : RepD}
theorem made_any (h : RepAt col q B w r p x g) : Calls Tryz.prog 47 #[.pointer (some ⟨r, 0, none⟩)] w fun e w' => e = .returned (.bool true) ∧ w = w' := by
  have c0 := h.rptr
  clear h
  go_enter Tryz.func47, Tryz.ntmps47
  go_wp2
  go_ret
  exact ⟨rfl, rfl⟩
def leadsR (x : RepD) : Bool := leadsB x.id x.n x.phase x.view

set_option maxHeartbeats 2000000 in
set_option maxRecDepth 100000 in
theorem rleads_any (h : RepAt col q B w r p x g) : Calls Tryz.prog 23 #[.pointer (some ⟨r, 0, none⟩)] w fun e w' => e = .returned (.bool (leadsR x)) ∧ Later w w' := by
  have cr := h.rptr
  have C := hide (made_any h)
  have c0 : w.cell? ⟨p.s, 0, none⟩ = some (.int .i64 x.id) := h.cell (k := 0) rfl
  have c1 : w.cell? ⟨p.s, 1, none⟩ = some (.int .i64 x.n) := h.cell (k := 1) rfl
  have c2 : w.cell? ⟨p.s, 2, none⟩ = some (.int .i64 x.phase) := h.cell (k := 2) rfl
  have c3 : w.cell? ⟨p.s, 3, none⟩ = some (.int .i64 x.view) := h.cell (k := 3) rfl
  have c4 : w.cell? ⟨p.s, 4, none⟩ = some (.int .i64 x.last) := h.cell (k := 4) rfl
  have CL := hide (leads_any x.id x.n x.phase x.view x.last w)
  unfold leadsR
  generalize leadsB x.id x.n x.phase x.view = b at CL ⊢
  clear h
  go_enter Tryz.func23, Tryz.ntmps23
  go_wp2_with (fail)
  refine C.out.mono ?_
  rintro e w1 ⟨rfl, rfl⟩
  go_wp2_with (fail)
  refine CL.out.mono ?_
  rintro e w2 ⟨rfl, hl⟩
  have HL := hide hl
  clear hl CL C cr c0 c1 c2 c3 c4
  go_wp2
  go_ret
  exact ⟨rfl, HL.out⟩
set_option maxHeartbeats 2000000 in
set_option maxRecDepth 100000 in
theorem rcommitted_any (h : RepAt col q B w r p x g) : Calls Tryz.prog 20 #[.pointer (some ⟨r, 0, none⟩)] w fun e w' => e = .returned (.int .i64 (x.com : Int)) ∧ w = w' := by
  have cr := h.rptr
  have C := hide (made_any h)
  have c7 : w.cell? ⟨p.s, 7, none⟩ = some (.pointer (some ⟨p.l, 0, none⟩)) := h.cell (k := 7) rfl
  have CL := hide (Ol.lg_committed h.log)
  clear h
  go_enter Tryz.func20, Tryz.ntmps20
  go_wp2_with (fail)
  refine C.out.mono ?_
  rintro e w1 ⟨rfl, rfl⟩
  go_wp2_with (fail)
  refine CL.out.mono ?_
  rintro e w2 ⟨rfl, rfl⟩
  go_wp2
  go_ret
  exact ⟨rfl, rfl⟩
set_option maxHeartbeats 2000000 in
set_option maxRecDepth 100000 in
theorem rstatus_any (h : RepAt col q B w r p x g) : Calls Tryz.prog 28 #[.pointer (some ⟨r, 0, none⟩)] w fun e w' => e = .returned (.agg #[.int .i64 x.id, .int .i64 x.n, .int .i64 x.phase, .int .i64 x.view, .int .i64 x.last]) ∧ Later w w' := by
  have LZ : Hid (Later w (w.alloc (.cells #[.int .i64 0, .int .i64 0, .int .i64 0, .int .i64 0, .int .i64 0] 76 (0, 0)))) := (Below.refl _ _).alloc (Nat.le_refl _) _
  have XZ : Hid ((w.alloc (.cells #[.int .i64 0, .int .i64 0, .int .i64 0, .int .i64 0, .int .i64 0] 76 (0, 0))).heap[w.heap.size]? = some (.cells #[.int .i64 0, .int .i64 0, .int .i64 0, .int .i64 0, .int .i64 0] 76 (0, 0))) := heap_alloc_new _ _
  obtain ⟨W, hW⟩ : ∃ W, W = w.alloc (.cells #[.int .i64 0, .int .i64 0, .int .i64 0, .int .i64 0, .int .i64 0] 76 (0, 0)) := ⟨_, rfl⟩
  rw [← hW] at LZ XZ
  have H := h.later LZ.out
  have cr := H.rptr
  have C := hide (made_any H)
  have c0 : W.cell? ⟨p.s, 0, none⟩ = some (.int .i64 x.id) := H.cell (k := 0) rfl
  have c1 : W.cell? ⟨p.s, 1, none⟩ = some (.int .i64 x.n) := H.cell (k := 1) rfl
  have c2 : W.cell? ⟨p.s, 2, none⟩ = some (.int .i64 x.phase) := H.cell (k := 2) rfl
  have c3 : W.cell? ⟨p.s, 3, none⟩ = some (.int .i64 x.view) := H.cell (k := 3) rfl
  have c4 : W.cell? ⟨p.s, 4, none⟩ = some (.int .i64 x.last) := H.cell (k := 4) rfl
  clear h H
  go_enter Tryz.func28, Tryz.ntmps28
  go_wp2_with (fail)
  rw [← hW]
  clear hW
  refine C.out.mono ?_
  rintro e w1 ⟨rfl, rfl⟩
  go_wp2_with (refine wpList_store_box (by rfl) 76 _ _ (by rfl) w.heap.size 0 #[.int .i64 x.id, .int .i64 x.n, .int .i64 x.phase, .int .i64 x.view, .int .i64 x.last] (by rfl) (by rfl) 76 _ XZ.out (by kernel_rfl) (by exact Nat.le_of_ble_eq_true rfl) (by intro u hu; simp at hu; rcases hu with rfl | rfl | rfl | rfl | rfl <;> rfl) ?_; intro w7 hb7 hg7)
  refine bodyPost_ret (results_cell_row Tryz.results28 _ _ w.heap.size 76 _ (0, 0) _ (by rfl) hb7 Tryz.underlying76 (by rfl) (by kernel_rfl)) (by rfl) ⟨rfl, ?_⟩
  exact Below.grown LZ.out hg7 (Below.size LZ.out) (fun k hk => by have := Option.some.inj hk; omega)
end

/-- A node that takes part in view 0. -/
def newR (id : Int) (n : Nat) (iv : Value) : RepD := enterR (rep0 id n iv) 0
theorem Made.next {q g g' r : Nat} {w w1 w2 : World} {col c1 c2 : Nat → Nat} {p : RepP} {x y : RepD} (h : Made q w col c1 w1 r p x g) (hq : ∀ i, ¬ hues col q i) (k : Since q w.heap.size w1 c1 c2 w2 r p y g') : Made q w col c2 w2 r p y g' :=
  ⟨k.rep, h.ext.trans k.ext (Below.size h.later), Below.trans h.later (k.turned.below (fun i hi => by
    by_cases hl : i < w.heap.size
    · have := h.ext.old i hl
      exact absurd (by unfold hues at hi ⊢; omega) (hq i)
    · omega) (Below.size h.later))⟩
set_option maxHeartbeats 2000000 in
set_option maxRecDepth 100000 in
theorem new_any {q n : Nat} {id : Int} {w : World} {col : Nat → Nat} (hf : ∀ i, w.heap.size ≤ i → col i = 0) (hq : ∀ i, ¬ hues col q i) (hid : 1 ≤ id ∧ id ≤ (n : Int)) (hn : 2 ≤ n ∧ n ≤ 5) :
    Calls Tryz.prog 13 #[.int .i64 id, .int .i64 (n : Int)] w fun e w' => ∃ r p col' iv, e = .returned (.pointer (some ⟨r, 0, none⟩)) ∧ Made q w col col' w' r p (newR id n iv) 1 := by
  have C := hide (build_any hf hq hid hn)
  have HQ := hide hq
  clear hf hq hid hn
  go_enter Tryz.func13, Tryz.ntmps13
  go_wp2_with (fail)
  refine C.out.mono ?_
  rintro e w1 ⟨r, p, c1, iv, rfl, hm⟩
  have cr := hm.rep.rptr
  have CE := hide (enter_any hm.rep 0 (by decide) (by decide) (by decide))
  have HM := hide hm
  clear hm C
  go_wp2_with (fail)
  refine CE.out.mono ?_
  rintro e w2 ⟨rfl, c2, hs⟩
  have HS := hide hs
  clear hs CE cr
  go_wp2
  go_ret
  exact ⟨r, p, c2, iv, rfl, HM.out.next HQ.out HS.out⟩
end Go.Proofs.YtaiegmhlgjogmaaGreat
/- A node that no call made: what its methods tell. -/
namespace Go.Proofs.YtaiegmhlgjogmaaGreat
open Go.RowKit Go.Maps

/-- nil, or one without its state. -/
def NoNode (w : World) (v : Value) : Prop := v = .pointer none ∨ ∃ z, v = .pointer (some ⟨z, 0, none⟩) ∧ w.heap[z]? = some (.cells #[.pointer none] 70 (0, 0))
section
variable {w w' : World} {v : Value}
theorem NoNode.later (h : NoNode w v) (hl : Later w w') : NoNode w' v := h.imp id fun ⟨z, e, hz⟩ => ⟨z, e, (hl.block z (lt_of_block hz)).trans hz⟩
theorem NoNode.ptr (h : NoNode w v) : ∃ a, v = .pointer a := by rcases h with rfl | ⟨z, rfl, _⟩ <;> exact ⟨_, rfl⟩
theorem nmade_no (h : NoNode w v) : Calls Tryz.prog 47 #[v] w fun e w' => e = .returned (.bool false) ∧ w = w' := by
  rcases h with rfl | ⟨z, rfl, hz⟩
  · go_enter Tryz.func47, Tryz.ntmps47
    go_wp2
    go_ret
    exact ⟨rfl, rfl⟩
  · have c0 : w.cell? ⟨z, 0, none⟩ = some (.pointer none) := cell_of_row w z 0 _ _ _ hz
    clear hz
    go_enter Tryz.func47, Tryz.ntmps47
    go_wp2
    go_ret
    exact ⟨rfl, rfl⟩
theorem nleads_no (h : NoNode w v) : Calls Tryz.prog 23 #[v] w fun e w' => e = .returned (.bool false) ∧ w = w' := by
  have C := hide (nmade_no h)
  obtain ⟨a, rfl⟩ := h.ptr
  clear h
  go_enter Tryz.func23, Tryz.ntmps23
  go_wp2_with (fail)
  refine C.out.mono ?_
  rintro e w1 ⟨rfl, rfl⟩
  go_wp2
  go_ret
  exact ⟨rfl, rfl⟩
theorem ntick_no (h : NoNode w v) : Calls Tryz.prog 26 #[v] w fun e w' => e = .returned (.slice none 0 0) ∧ w = w' := by
  have C := hide (nmade_no h)
  obtain ⟨a, rfl⟩ := h.ptr
  clear h
  go_enter Tryz.func26, Tryz.ntmps26
  go_wp2_with (fail)
  refine C.out.mono ?_
  rintro e w1 ⟨rfl, rfl⟩
  go_wp2
  go_ret
  exact ⟨rfl, rfl⟩
theorem ntake_no (h : NoNode w v) : Calls Tryz.prog 22 #[v] w fun e w' => e = .returned (.slice none 0 0) ∧ w = w' := by
  have C := hide (nmade_no h)
  obtain ⟨a, rfl⟩ := h.ptr
  clear h
  go_enter Tryz.func22, Tryz.ntmps22
  go_wp2_with (fail)
  refine C.out.mono ?_
  rintro e w1 ⟨rfl, rfl⟩
  go_wp2
  go_ret
  exact ⟨rfl, rfl⟩
theorem nlog_no (h : NoNode w v) : Calls Tryz.prog 19 #[v] w fun e w' => e = .returned (.slice none 0 0) ∧ w = w' := by
  have C := hide (nmade_no h)
  obtain ⟨a, rfl⟩ := h.ptr
  clear h
  go_enter Tryz.func19, Tryz.ntmps19
  go_wp2_with (fail)
  refine C.out.mono ?_
  rintro e w1 ⟨rfl, rfl⟩
  go_wp2
  go_ret
  exact ⟨rfl, rfl⟩
theorem nincs_no (h : NoNode w v) : Calls Tryz.prog 27 #[v] w fun e w' => e = .returned (.slice none 0 0) ∧ w = w' := by
  have C := hide (nmade_no h)
  obtain ⟨a, rfl⟩ := h.ptr
  clear h
  go_enter Tryz.func27, Tryz.ntmps27
  go_wp2_with (fail)
  refine C.out.mono ?_
  rintro e w1 ⟨rfl, rfl⟩
  go_wp2
  go_ret
  exact ⟨rfl, rfl⟩
theorem ncommitted_no (h : NoNode w v) : Calls Tryz.prog 20 #[v] w fun e w' => e = .returned (.int .i64 0) ∧ w = w' := by
  have C := hide (nmade_no h)
  obtain ⟨a, rfl⟩ := h.ptr
  clear h
  go_enter Tryz.func20, Tryz.ntmps20
  go_wp2_with (fail)
  refine C.out.mono ?_
  rintro e w1 ⟨rfl, rfl⟩
  go_wp2
  go_ret
  exact ⟨rfl, rfl⟩
set_option maxHeartbeats 1000000 in
set_option maxRecDepth 100000 in
theorem npropose_no {o : OpD} {s : Value} (h : NoNode w v) (hs : s.oneCell' = true) : Calls Tryz.prog 24 #[v, .agg (o.cells s).toArray] w fun e w' => e = .returned (.tuple #[.slice none 0 0, .int .i64 1]) ∧ Later w w' := by
  obtain ⟨W, hW⟩ : ∃ W, W = w.alloc (.cells (o.cells s).toArray 33 (0, 0)) := ⟨_, rfl⟩
  have LB : Hid (Later w W) := by rw [hW]; exact (Below.refl _ _).alloc (Nat.le_refl _) _
  have C := hide (nmade_no (h.later LB.out))
  obtain ⟨a, rfl⟩ := h.ptr
  clear h
  unfold OpD.cells at hW ⊢
  go_enter Tryz.func24, Tryz.ntmps24
  go_wp2_with (fail)
  rw [← hW]
  clear hW
  refine C.out.mono ?_
  rintro e w1 ⟨rfl, rfl⟩
  go_wp2
  go_ret2
  exact ⟨rfl, LB.out⟩
set_option maxHeartbeats 1000000 in
set_option maxRecDepth 100000 in
theorem nstatus_no (h : NoNode w v) : Calls Tryz.prog 28 #[v] w fun e w' => e = .returned (.agg #[.int .i64 0, .int .i64 0, .int .i64 0, .int .i64 0, .int .i64 0]) ∧ Later w w' := by
  have LZ : Hid (Later w (w.alloc (.cells #[.int .i64 0, .int .i64 0, .int .i64 0, .int .i64 0, .int .i64 0] 76 (0, 0)))) := (Below.refl _ _).alloc (Nat.le_refl _) _
  have XZ : Hid ((w.alloc (.cells #[.int .i64 0, .int .i64 0, .int .i64 0, .int .i64 0, .int .i64 0] 76 (0, 0))).heap[w.heap.size]? = some (.cells #[.int .i64 0, .int .i64 0, .int .i64 0, .int .i64 0, .int .i64 0] 76 (0, 0))) := heap_alloc_new _ _
  obtain ⟨W, hW⟩ : ∃ W, W = w.alloc (.cells #[.int .i64 0, .int .i64 0, .int .i64 0, .int .i64 0, .int .i64 0] 76 (0, 0)) := ⟨_, rfl⟩
  rw [← hW] at LZ XZ
  have C := hide (nmade_no (h.later LZ.out))
  obtain ⟨a, rfl⟩ := h.ptr
  clear h
  go_enter Tryz.func28, Tryz.ntmps28
  go_wp2_with (fail)
  rw [← hW]
  clear hW
  refine C.out.mono ?_
  rintro e w1 ⟨rfl, rfl⟩
  go_wp2_with (refine wpList_store_box (by rfl) 76 _ _ (by rfl) w.heap.size 0 #[.int .i64 0, .int .i64 0, .int .i64 0, .int .i64 0, .int .i64 0] (by rfl) (by rfl) 76 _ XZ.out (by kernel_rfl) (by exact Nat.le_of_ble_eq_true rfl) (by intro u hu; simp at hu; subst hu; rfl) ?_; intro w7 hb7 hg7)
  refine bodyPost_ret (results_cell_row Tryz.results28 _ _ w.heap.size 76 _ (0, 0) _ (by rfl) hb7 Tryz.underlying76 (by rfl) (by kernel_rfl)) (by rfl) ⟨rfl, ?_⟩
  exact Below.grown LZ.out hg7 (Below.size LZ.out) (fun k hk => by have := Option.some.inj hk; omega)
set_option maxHeartbeats 2000000 in
set_option maxRecDepth 100000 in
theorem nhear_no {m : MsgD} {s o i : Value} (h : NoNode w v) (h1 : s.oneCell' = true) (h2 : o.oneCell' = true) (h3 : i.oneCell' = true) :
    Calls Tryz.prog 25 #[v, .agg (m.cells s o i).toArray] w fun e w' => e = .returned (.slice none 0 0) ∧ Later w w' := by
  obtain ⟨W, hW⟩ : ∃ W, W = w.alloc (.cells (m.cells s o i).toArray 42 (0, 0)) := ⟨_, rfl⟩
  have LB : Hid (Later w W) := by rw [hW]; exact (Below.refl _ _).alloc (Nat.le_refl _) _
  have D0 : Hid (Later W W.drew) := (Below.refl _ _).drew
  have C := hide (fun w' (hl : Later W w') => nmade_no (h.later (LB.out.trans hl)))
  obtain ⟨a, rfl⟩ := h.ptr
  clear h
  unfold MsgD.cells at hW ⊢
  go_enter Tryz.func25, Tryz.ntmps25
  go_wp2
  rw [← hW]
  clear hW
  refine wp_region_L (by kernel_rfl) ?_
  refine wpAnyL_take (i := 0) (d := some 5) (v := ?vaa0) rfl rfl (by kernel_rfl) (by kernel_rfl) (by kernel_rfl) (fun _ _ _ h => h) (by rfl) ?yaa0 ?_
  case yaa0 => (intro w' hw'; go_simp; try (with_reducible rfl))
  simp only [Act.put]; try simp only [List.setIfInBounds_toArray]; try simp only [List.set_cons_zero, List.set_cons_succ]
  refine wpAnyL_only (i := 1) rfl (by kernel_rfl) (by rfl) fun K hK => ?_
  go_simp
  refine (C.out _ D0.out).mono ?_
  rintro e v1 ⟨rfl, rfl⟩
  refine hK.out _ _ (Below.refl _ _) ?_
  clear hK K
  try (simp only [Act.put]; try simp only [List.setIfInBounds_toArray]; try simp only [List.set_cons_zero, List.set_cons_succ])
  refine wpAnyL_take (i := 2) (d := some 7) (v := ?vaa2) rfl rfl (by kernel_rfl) (by kernel_rfl) (by kernel_rfl) (fun _ _ _ h => h) (by rfl) ?yaa2 ?_
  case yaa2 => (intro w' hw'; go_simp; try (with_reducible rfl))
  simp only [Act.put]; try simp only [List.setIfInBounds_toArray]; try simp only [List.set_cons_zero, List.set_cons_succ]
  refine wpAnyL_take (i := 3) (d := some 8) (v := ?vaa3) rfl rfl (by kernel_rfl) (by kernel_rfl) (by kernel_rfl) (fun _ _ _ h => h) (by rfl) ?yaa3 ?_
  case yaa3 => (intro w' hw'; go_simp; try (with_reducible rfl))
  simp only [Act.put]; try simp only [List.setIfInBounds_toArray]; try simp only [List.set_cons_zero, List.set_cons_succ]
  refine wpAnyL_pass (i := 4) (d := some 9) rfl rfl (by kernel_rfl) (by kernel_rfl) (by kernel_rfl) (fun _ _ _ h => h) (by rfl) ?_
  try (simp only [Act.put]; try simp only [List.setIfInBounds_toArray]; try simp only [List.set_cons_zero, List.set_cons_succ])
  refine wpAnyL_pass (i := 5) (d := some 10) rfl rfl (by kernel_rfl) (by kernel_rfl) (by kernel_rfl) (fun _ _ _ h => h) (by rfl) ?_
  try (simp only [Act.put]; try simp only [List.setIfInBounds_toArray]; try simp only [List.set_cons_zero, List.set_cons_succ])
  refine wpAnyL_pass (i := 6) (d := some 11) rfl rfl (by kernel_rfl) (by kernel_rfl) (by kernel_rfl) (fun _ _ _ h => h) (by rfl) ?_
  try (simp only [Act.put]; try simp only [List.setIfInBounds_toArray]; try simp only [List.set_cons_zero, List.set_cons_succ])
  refine wpAnyL_pass (i := 7) (d := some 12) rfl rfl (by kernel_rfl) (by kernel_rfl) (by kernel_rfl) (fun _ _ _ h => h) (by rfl) ?_
  try (simp only [Act.put]; try simp only [List.setIfInBounds_toArray]; try simp only [List.set_cons_zero, List.set_cons_succ])
  refine wpAnyL_pass (i := 8) (d := some 13) rfl rfl (by kernel_rfl) (by kernel_rfl) (by kernel_rfl) (fun _ _ _ h => h) (by rfl) ?_
  try (simp only [Act.put]; try simp only [List.setIfInBounds_toArray]; try simp only [List.set_cons_zero, List.set_cons_succ])
  refine wpAnyL_pass (i := 9) (d := some 14) rfl rfl (by kernel_rfl) (by kernel_rfl) (by kernel_rfl) (fun _ _ _ h => h) (by rfl) ?_
  try (simp only [Act.put]; try simp only [List.setIfInBounds_toArray]; try simp only [List.set_cons_zero, List.set_cons_succ])
  refine wpAnyL_pass (i := 10) (d := some 15) rfl rfl (by kernel_rfl) (by kernel_rfl) (by kernel_rfl) (fun _ _ _ h => h) (by rfl) ?_
  try (simp only [Act.put]; try simp only [List.setIfInBounds_toArray]; try simp only [List.set_cons_zero, List.set_cons_succ])
  refine wpAnyL_take (i := 11) (d := some 16) (v := ?vaa11) rfl rfl (by kernel_rfl) (by kernel_rfl) (by kernel_rfl) (fun _ _ _ h => h) (by rfl) ?yaa11 ?_
  case yaa11 => (intro w' hw'; go_simp; try (with_reducible rfl))
  simp only [Act.put]; try simp only [List.setIfInBounds_toArray]; try simp only [List.set_cons_zero, List.set_cons_succ]
  refine wpAnyL_done (by kernel_rfl) ?_ _
  go_wp2
  go_ret
  exact ⟨rfl, LB.out.trans D0.out⟩
end
end Go.Proofs.YtaiegmhlgjogmaaGreat
/- Whether an act is light: whatever is told, nothing turns. -/
namespace Go.Proofs.YtaiegmhlgjogmaaGreat
open Go.RowKit

/-- An act, and its lists. -/
structure ActV where
  kind : Int
  p : MsgV
  o : OpD
  t : Value
def ActV.cells (a : ActV) : List Value := .int .i64 a.kind :: (a.p.cells ++ a.o.cells a.t)
def ActV.nil : ActV := ⟨0, default, .zero, .slice none 0 0⟩
def ActLists (F : Nat → Prop) (w : World) (a : ActV) : Prop := Lists F w a.p.m a.p.s a.p.o a.p.i ∧ StepsAt F w a.t a.o.steps
def ActV.wf (a : ActV) : Prop := a.p.m.wf ∧ a.o.wf
theorem put_act (z a : ActV) : putAt z.cells.toArray 0 a.cells = a.cells.toArray := by simp [putAt, ActV.cells, MsgV.cells, MsgD.cells, OpD.cells]
theorem ActV.one {F : Nat → Prop} {w : World} {a : ActV} (h : ActLists F w a) : ∀ u ∈ a.cells, u.oneCell' = true := by
  intro u hu
  rcases List.mem_cons.1 hu with rfl | hu
  · rfl
  · rcases List.mem_append.1 hu with hu | hu
    · exact a.p.m.one h.1.cell.1 h.1.cell.2.1 h.1.cell.2.2 u hu
    · exact a.o.one (FlatAt.oneCell h.2) u hu
/-- A message of an operation alone. -/
def opM (o : OpD) : MsgD := { MsgD.zero with op := o }
theorem opM_wf {o : OpD} (h : o.wf) : (opM o).wf := by
  simp only [MsgD.wf, opM, MsgD.zero, I64]
  exact ⟨by decide, by decide, by decide, by decide, by decide, by decide, by decide, by decide, by decide, h, by decide, by decide, by decide, by decide, by decide, by decide, by decide, by decide, by decide, by simp, by simp⟩

/-- A bool is told. -/
def SomeBool (e : Ending) : Prop := ∃ x : Bool, e = .returned (.bool x)
theorem some_bool (x : Bool) : SomeBool (.returned (.bool x)) := ⟨x, rfl⟩

set_option maxHeartbeats 4000000 in
set_option maxRecDepth 100000 in
theorem light_one {F : Nat → Prop} {w : World} {a : ActV} {b : Nat} (hb : w.heap[b]? = some (.cells a.cells.toArray 44 (0, 0))) (ha : ActLists F w a) (hw : a.wf) :
    Calls Tryz.prog 11 #[.slice (some ⟨b, 0, none⟩) 1 1] w fun e w' => SomeBool e ∧ Later w w' := by
  have HB := hide hb
  have HA := hide ha
  have HW := hide hw
  have CS := hide (fun w' (hl : Later w w') => stepsn_any 100 (by decide) (by decide) F a.p.m a.p.s a.p.o a.p.i w' hw.1 (ha.1.kept (Kept.of_below hl F)))
  have CO := hide (fun w' (hl : Later w w') => stepsn_any 100 (by decide) (by decide) F (opM a.o) a.t (.slice none 0 0) (.slice none 0 0) w' (opM_wf hw.2) ⟨ha.2.kept (Kept.of_below hl F), ⟨[], rfl, FlatAt.nil_ _ _ _, by simp⟩, IncsAt.nil_ _ _⟩)
  simp only [MsgD.cells, opM, MsgD.zero] at CO
  obtain ⟨iA, ic, hii, _, hic, _⟩ := FlatAt.shape ha.1.2.2
  have HII := hide hii
  have ht1 : a.t.oneCell' = true := FlatAt.oneCell ha.2
  clear hb ha hw hii
  go_enter Tryz.func11, Tryz.ntmps11
  go_wp2
  go_loopw [10] (fun j wr => (j = .int .i64 0 ∨ j = .int .i64 1) ∧ Later w wr) (fun j _ => 2 - (Go.RowKit.intOf j).toNat)
  case atStart => exact ⟨.inl rfl, Below.refl _ _⟩
  case round =>
    obtain ⟨hj, hl⟩ := hrel
    have HL := hide hl
    have XB : Hid (wr.heap[b]? = some (.cells a.cells.toArray 44 (0, 0))) := (hl.block b (lt_of_block HB.out)).trans HB.out
    have ZB : Hid ((wr.alloc (.cells ActV.nil.cells.toArray 44 (0, 0))).heap[wr.heap.size]? = some (.cells ActV.nil.cells.toArray 44 (0, 0))) := heap_alloc_new _ _
    clear hl
    rcases hj with rfl | rfl
    · go_wp2_with (first
        | (refine wpList_load_box (by rfl) 44 _ (by rfl) b 0 (by rfl) 44 _ XB.out 45 _ Tryz.underlying44 (by rfl) (by kernel_rfl) a.cells (by rfl) (by rfl) ?_)
        | (refine wpList_store_box (by rfl) 44 _ _ (by rfl) wr.heap.size 0 a.cells.toArray (by rfl) (by rfl) 44 _ ZB.out (by kernel_rfl) (by exact Nat.le_of_ble_eq_true rfl) (by exact ActV.one HA.out) ?_; intro w2 hb2 hg2; rw [put_act] at hb2)
        | (refine wpList_load_box (by rfl) 42 _ (by rfl) wr.heap.size 1 (by rfl) 44 _ hb2 34 _ Tryz.underlying42 (by rfl) (by kernel_rfl) (a.p.m.cells a.p.s a.p.o a.p.i) (by rfl) (by rfl) ?_))
      have L2 : Hid (Later w w2) := HL.out.trans (Below.grown ((Below.refl _ _).alloc (Nat.le_refl _) _) hg2 (by simp) (fun k hk => by have := Option.some.inj hk; omega))
      have HX2 := hide hb2
      refine (CS.out w2 L2.out).mono ?_
      rintro e w3 ⟨n, rfl, _, hl3⟩
      have X3 : w3.heap[wr.heap.size]? = some (.cells a.cells.toArray 44 (0, 0)) := (hl3.block _ (lt_of_block hb2)).trans hb2
      have L3 : Hid (Later w w3) := L2.out.trans hl3
      have ci : w3.cell? ⟨wr.heap.size, 34, none⟩ = some (.slice iA a.p.m.incs.length ic) := by rw [← HII.out]; exact box_cell X3 34 _ (by rfl)
      have HX3 := hide X3
      clear hb2 hg2 hl3 X3 CS
      by_cases hn : n ≤ 100
      · by_cases hi : 100 < a.p.m.incs.length
        · go_wp2
          go_ret
          exact ⟨some_bool false, L3.out⟩
        · have q0 : w3.cell? ⟨wr.heap.size, 35, none⟩ = some (.int .i64 a.o.kind) := box_cell HX3.out 35 _ (by rfl)
          have q1 : w3.cell? ⟨wr.heap.size, 36, none⟩ = some (.int .i64 a.o.client) := box_cell HX3.out 36 _ (by rfl)
          have q2 : w3.cell? ⟨wr.heap.size, 37, none⟩ = some (.int .i64 a.o.request) := box_cell HX3.out 37 _ (by rfl)
          have q3 : w3.cell? ⟨wr.heap.size, 38, none⟩ = some (.string a.o.name) := box_cell HX3.out 38 _ (by rfl)
          have q4 : w3.cell? ⟨wr.heap.size, 39, none⟩ = some (a.t) := box_cell HX3.out 39 _ (by rfl)
          have q5 : w3.cell? ⟨wr.heap.size, 40, none⟩ = some (.int .i64 a.o.saga) := box_cell HX3.out 40 _ (by rfl)
          have q6 : w3.cell? ⟨wr.heap.size, 41, none⟩ = some (.int .i64 a.o.step) := box_cell HX3.out 41 _ (by rfl)
          have q7 : w3.cell? ⟨wr.heap.size, 42, none⟩ = some (.int .i64 a.o.try_) := box_cell HX3.out 42 _ (by rfl)
          have q8 : w3.cell? ⟨wr.heap.size, 43, none⟩ = some (.bool a.o.back) := box_cell HX3.out 43 _ (by rfl)
          have q9 : w3.cell? ⟨wr.heap.size, 44, none⟩ = some (.bool a.o.good) := box_cell HX3.out 44 _ (by rfl)
          go_wp2_with (fail)
          refine (CO.out w3 L3.out).mono ?_
          rintro e w4 ⟨n2, rfl, _, hl4⟩
          have L4 : Hid (Later w w4) := L3.out.trans hl4
          clear hl4 CO
          by_cases hn2 : n2 ≤ 100
          · go_wp2
            go_roundw
            case rel => exact ⟨.inr (by go_num), L4.out⟩
            case measure => simp [Go.RowKit.intOf]
          · go_wp2
            go_ret
            exact ⟨some_bool false, L4.out⟩
      · go_wp2
        go_ret
        exact ⟨some_bool false, L3.out⟩
    · go_wp2
      go_ret
      exact ⟨some_bool true, HL.out⟩
end Go.Proofs.YtaiegmhlgjogmaaGreat
/- Two nodes side by side, in blocks of other colours. -/
namespace Go.Proofs.YtaiegmhlgjogmaaGreat
open Go.RowKit Go.Maps

section
variable {c c' : Nat → Nat} {q q' B B' ra rb ga gb ga' gb' : Nat} {w W W' : World} {pa pb : RepP} {xa xb xa' xb' : RepD}
/-- A node, behind a call that turned another one. -/
theorem RepAt.other {r' g' : Nat} {p' : RepP} {x' : RepD} (h : RepAt c q B W ra pa xa ga) (hs : Since q' B' W c c' W' r' p' x' g') (hq : q + 5 ≤ q' ∨ q' + 5 ≤ q) : RepAt c' q B W' ra pa xa ga := by
  refine h.kept (hs.turned.kept fun i e e2 => by unfold hues at e e2; omega) hs.ext.old (fun i hi e => ?_) hs.rep.fresh
  have := hs.ext.new i hi
  unfold hues at this e
  omega
/-- Two nodes, made behind w. -/
structure Two (w : World) (c : Nat → Nat) (W : World) (Ba Bb ra rb : Nat) (pa pb : RepP) (xa xb : RepD) (ga gb : Nat) : Prop where
  a : RepAt c 0 Ba W ra pa xa ga
  b : RepAt c 10 Bb W rb pb xb gb
  old : ∀ i, i < w.heap.size → c i = 0
  later : Later w W
variable {Ba Bb : Nat}
theorem Two.left (h : Two w c W Ba Bb ra rb pa pb xa xb ga gb) (hs : Since 0 Ba W c c' W' ra pa xa' ga') : Two w c' W' Ba Bb ra rb pa pb xa' xb ga' gb :=
  ⟨hs.rep, h.b.other hs (by omega), fun i hi => (hs.ext.old i (Nat.lt_of_lt_of_le hi (Below.size h.later))).trans (h.old i hi), Below.trans h.later (hs.turned.below (fun i e => by
    by_cases hi : i < w.heap.size
    · have := h.old i hi; unfold hues at e; omega
    · omega) (Below.size h.later))⟩
theorem Two.right (h : Two w c W Ba Bb ra rb pa pb xa xb ga gb) (hs : Since 10 Bb W c c' W' rb pb xb' gb') : Two w c' W' Ba Bb ra rb pa pb xa xb' ga gb' :=
  ⟨h.a.other hs (by omega), hs.rep, fun i hi => (hs.ext.old i (Nat.lt_of_lt_of_le hi (Below.size h.later))).trans (h.old i hi), Below.trans h.later (hs.turned.below (fun i e => by
    by_cases hi : i < w.heap.size
    · have := h.old i hi; unfold hues at e; omega
    · omega) (Below.size h.later))⟩
theorem Two.on (h : Two w c W Ba Bb ra rb pa pb xa xb ga gb) (hl : Later W W') : Two w c W' Ba Bb ra rb pa pb xa xb ga gb := ⟨h.a.later hl, h.b.later hl, h.old, h.later.trans hl⟩
/-- The second one is made. -/
theorem Two.made {c1 : Nat → Nat} (ha : Made 0 w (fun _ => 0) c1 W ra pa xa ga) (hb : Made 10 W c1 c W' rb pb xb gb) : Two w c W' w.heap.size W.heap.size ra rb pa pb xa xb ga gb := by
  refine ⟨ha.rep.kept (Kept.of_below hb.later _) hb.ext.old (fun i hi e => ?_) hb.rep.fresh, hb.rep, fun i hi => ?_, ha.later.trans hb.later⟩
  · have := hb.ext.new i hi
    unfold hues at this e
    omega
  · rw [hb.ext.old i (Nat.lt_of_lt_of_le hi (Below.size ha.later)), ha.ext.old i hi]
theorem made_free {c1 : Nat → Nat} (ha : Made 0 w (fun _ => 0) c1 W ra pa xa ga) : ∀ i, ¬ hues c1 10 i := fun i e => by
  by_cases hi : i < w.heap.size
  · have := ha.ext.old i hi
    unfold hues at e
    omega
  · have := ha.ext.new i (by omega)
    unfold hues at e this
    omega
end
end Go.Proofs.YtaiegmhlgjogmaaGreat
/- A timer is over. -/
namespace Go.Proofs.YtaiegmhlgjogmaaGreat
open Go.RowKit Go.Maps

section
variable {col : Nat → Nat} {q B r g : Nat} {w : World} {p : RepP} {x : RepD}
def askM (x : RepD) : MsgD := { MsgD.zero with kind := 9, nonce := x.nonce }
def beatM (x : RepD) : MsgD := { MsgD.zero with kind := 5, view := x.view, num := (x.log.length : Int), commit := (x.com : Int) }
/-- What a timer's end leaves, and what is sent. -/
def overR (x : RepD) (tm : Int) : RepD := if tm = 1 then setT x 1 else if tm = 4 then setT x 4 else changeR x (x.view + 1)
def overM (x : RepD) (tm : Int) : List MsgD := if tm = 1 then allM (setT x 1) (beatM x) else if tm = 4 then allM (setT x 4) (askM x) else allM (changeR x (x.view + 1)) (startM (x.view + 1))
theorem nil_lists (w : World) {m : MsgD} (h1 : m.op.steps = []) (h2 : m.ops = []) (h3 : m.incs = []) : Lists (fun _ => True) w m (.slice none 0 0) (.slice none 0 0) (.slice none 0 0) := by
  refine ⟨by rw [h1]; exact StepsAt.nil_ _ _, by rw [h2]; exact ⟨[], rfl, FlatAt.nil_ _ _ _, by simp⟩, by rw [h3]; exact IncsAt.nil_ _ _⟩
theorem nil_light {m : MsgD} (h1 : m.op.steps = []) (h2 : m.ops = []) : m.lightN 200 := by
  refine ⟨by rw [h1]; decide, by rw [h2]; decide, by rw [h2]; simp⟩

set_option maxHeartbeats 4000000 in
set_option maxRecDepth 100000 in
theorem ask_any (h : RepAt col q B w r p x g) (hg : g ≤ 800000) :
    Calls Tryz.prog 93 #[.pointer (some ⟨p.s, 0, none⟩)] w fun e w' => ∃ col', Since q B w col col' w' r p (setT x 4) (g + 1) ∧ SentC col' (allM (setT x 4) (askM x)) w e w' := by
  have C1 := hide (set_any h 4 (by decide) (by decide) (by omega))
  clear h
  go_enter Tryz.func93, Tryz.ntmps93
  go_wp2_with (fail)
  refine C1.out.mono ?_
  rintro e w1 ⟨rfl, c1, hs⟩
  have HS := hide hs
  have c5 : w1.cell? ⟨p.s, 5, none⟩ = some (.int .i64 x.nonce) := hs.rep.cell (k := 5) rfl
  have CT := hide (toall_any (m := askM x) HS.out.rep (nil_lists w1 rfl rfl rfl) (nil_light rfl rfl))
  simp only [MsgD.cells, askM, MsgD.zero, OpD.zero] at CT
  clear hs C1
  go_wp2_with (fail)
  refine CT.out.mono ?_
  rintro e w5 ⟨u, ps, rfl, hrow, hps, hl⟩
  have HROW := hide hrow
  have HPS := hide hps
  have HL := hide hl
  obtain ⟨A, n, c, rfl⟩ : ∃ A n c, u = .slice A n c := by
    obtain ⟨_, _, A, c, e, _⟩ := hrow.msgs.1
    exact ⟨A, _, c, e⟩
  clear hrow hps hl CT
  go_wp2
  go_ret
  exact ⟨c1, HS.out.later HL.out, _, ps, w1.heap.size, rfl, HS.out.turned.size, HS.out.rep.fresh, HROW.out, HPS.out⟩
set_option maxHeartbeats 4000000 in
set_option maxRecDepth 100000 in
theorem over_beat (h : RepAt col q B w r p x g) (hg : g ≤ 800000) :
    Calls Tryz.prog 59 #[.pointer (some ⟨p.s, 0, none⟩), .int .i64 1] w fun e w' => ∃ col', Since q B w col col' w' r p (overR x 1) (g + 2) ∧ SentC col' (overM x 1) w e w' := by
  have C1 := hide (set_any h 1 (by decide) (by decide) (by omega))
  clear h
  go_enter Tryz.func59, Tryz.ntmps59
  go_wp2_with (fail)
  refine C1.out.mono ?_
  rintro e w1 ⟨rfl, c1, hs⟩
  have HS := hide hs
  have HF : Hid (∀ w', Later w1 w' → w'.cell? ⟨p.s, 3, none⟩ = some (.int .i64 x.view) ∧ w'.cell? ⟨p.s, 7, none⟩ = some (.pointer (some ⟨p.l, 0, none⟩))) := fun w' hl => ⟨(HS.out.rep.later hl).cell (k := 3) rfl, (HS.out.rep.later hl).cell (k := 7) rfl⟩
  have CL := hide (fun w' (hl : Later w1 w') => Ol.lg_last (HS.out.rep.later hl).log)
  have CC := hide (fun w' (hl : Later w1 w') => Ol.lg_committed (HS.out.rep.later hl).log)
  have CT := hide (fun w' (hl : Later w1 w') => toall_any (m := beatM x) (HS.out.rep.later hl) (nil_lists w' rfl rfl rfl) (nil_light rfl rfl))
  simp only [MsgD.cells, beatM, MsgD.zero, OpD.zero] at CT
  have hx : (setT x 1).log = x.log ∧ (setT x 1).com = x.com := ⟨rfl, rfl⟩
  rw [hx.1] at CL
  rw [hx.2] at CC
  have D0 : Hid (Later w1 w1.drew) := (Below.refl _ _).drew
  clear hs C1 hx
  go_wp2
  refine wp_region_L (by kernel_rfl) ?_
  refine wpAnyL_take (i := 0) (d := some 10) (v := ?vaa0) rfl rfl (by kernel_rfl) (by kernel_rfl) (by kernel_rfl) (fun _ _ _ h => h) (by rfl) ?yaa0 ?_
  case yaa0 => (intro w' hw'; go_simp; try (with_reducible rfl))
  simp only [Act.put]; try simp only [List.setIfInBounds_toArray]; try simp only [List.set_cons_zero, List.set_cons_succ]
  refine wpAnyL_take (i := 1) (d := some 11) (v := ?vaa1) rfl rfl (by kernel_rfl) (by kernel_rfl) (by kernel_rfl) (fun _ _ _ h => h) (by rfl) ?yaa1 ?_
  case yaa1 => (intro w' hw'; go_simp; try (with_reducible rfl))
  simp only [Act.put]; try simp only [List.setIfInBounds_toArray]; try simp only [List.set_cons_zero, List.set_cons_succ]
  refine wpAnyL_take (i := 2) (d := some 12) (v := ?vaa2) rfl rfl (by kernel_rfl) (by kernel_rfl) (by kernel_rfl) (fun _ _ _ h => h) (by rfl) ?yaa2 ?_
  case yaa2 => (intro w' hw'; go_simp; try (with_reducible rfl))
  simp only [Act.put]; try simp only [List.setIfInBounds_toArray]; try simp only [List.set_cons_zero, List.set_cons_succ]
  refine wpAnyL_take (i := 3) (d := some 13) (v := ?vaa3) rfl rfl (by kernel_rfl) (by kernel_rfl) (by kernel_rfl) (fun _ _ _ h => h) (by rfl) ?yaa3 ?_
  case yaa3 => (intro w' hw'; go_simp; try (with_reducible rfl))
  simp only [Act.put]; try simp only [List.setIfInBounds_toArray]; try simp only [List.set_cons_zero, List.set_cons_succ]
  refine wpAnyL_take (i := 4) (d := some 14) (v := ?vaa4) rfl rfl (by kernel_rfl) (by kernel_rfl) (by kernel_rfl) (fun _ _ _ h => h) (by rfl) ?yaa4 ?_
  case yaa4 => (intro w' hw'; go_simp; try (with_reducible rfl))
  simp only [Act.put]; try simp only [List.setIfInBounds_toArray]; try simp only [List.set_cons_zero, List.set_cons_succ]
  refine wpAnyL_take (i := 5) (d := some 15) (v := ?vaa5) rfl rfl (by kernel_rfl) (by kernel_rfl) (by kernel_rfl) (fun _ _ _ h => h) (by rfl) ?yaa5 ?_
  case yaa5 => (intro w' hw'; have hq := (HF.out w' (D0.out.trans hw')).1; go_simp; try (with_reducible rfl))
  simp only [Act.put]; try simp only [List.setIfInBounds_toArray]; try simp only [List.set_cons_zero, List.set_cons_succ]
  refine wpAnyL_take (i := 6) (d := some 16) (v := ?vaa6) rfl rfl (by kernel_rfl) (by kernel_rfl) (by kernel_rfl) (fun _ _ _ h => h) (by rfl) ?yaa6 ?_
  case yaa6 => (intro w' hw'; go_simp; try (with_reducible rfl))
  simp only [Act.put]; try simp only [List.setIfInBounds_toArray]; try simp only [List.set_cons_zero, List.set_cons_succ]
  refine wpAnyL_take (i := 7) (d := some 17) (v := ?vaa7) rfl rfl (by kernel_rfl) (by kernel_rfl) (by kernel_rfl) (fun _ _ _ h => h) (by rfl) ?yaa7 ?_
  case yaa7 => (intro w' hw'; go_simp; try (with_reducible rfl))
  simp only [Act.put]; try simp only [List.setIfInBounds_toArray]; try simp only [List.set_cons_zero, List.set_cons_succ]
  refine wpAnyL_take (i := 8) (d := some 18) (v := ?vaa8) rfl rfl (by kernel_rfl) (by kernel_rfl) (by kernel_rfl) (fun _ _ _ h => h) (by rfl) ?yaa8 ?_
  case yaa8 => (intro w' hw'; go_simp; try (with_reducible rfl))
  simp only [Act.put]; try simp only [List.setIfInBounds_toArray]; try simp only [List.set_cons_zero, List.set_cons_succ]
  refine wpAnyL_take (i := 9) (d := some 19) (v := .pointer (some ⟨p.l, 0, none⟩)) rfl rfl (by kernel_rfl) (by kernel_rfl) (by kernel_rfl) (fun _ _ _ h => h) (by rfl) ?yaa9 ?_
  case yaa9 => (intro w' hw'; have hq := (HF.out w' (D0.out.trans hw')).2; go_simp; try (with_reducible rfl))
  simp only [Act.put]; try simp only [List.setIfInBounds_toArray]; try simp only [List.set_cons_zero, List.set_cons_succ]
  refine wpAnyL_take (i := 11) (d := some 21) (v := ?vaa11) rfl rfl (by kernel_rfl) (by kernel_rfl) (by kernel_rfl) (fun _ _ _ h => h) (by rfl) ?yaa11 ?_
  case yaa11 => (intro w' hw'; go_simp; try (with_reducible rfl))
  simp only [Act.put]; try simp only [List.setIfInBounds_toArray]; try simp only [List.set_cons_zero, List.set_cons_succ]
  refine wpAnyL_take (i := 12) (d := some 22) (v := ?vaa12) rfl rfl (by kernel_rfl) (by kernel_rfl) (by kernel_rfl) (fun _ _ _ h => h) (by rfl) ?yaa12 ?_
  case yaa12 => (intro w' hw'; go_simp; try (with_reducible rfl))
  simp only [Act.put]; try simp only [List.setIfInBounds_toArray]; try simp only [List.set_cons_zero, List.set_cons_succ]
  refine wpAnyL_take (i := 13) (d := some 23) (v := ?vaa13) rfl rfl (by kernel_rfl) (by kernel_rfl) (by kernel_rfl) (fun _ _ _ h => h) (by rfl) ?yaa13 ?_
  case yaa13 => (intro w' hw'; go_simp; try (with_reducible rfl))
  simp only [Act.put]; try simp only [List.setIfInBounds_toArray]; try simp only [List.set_cons_zero, List.set_cons_succ]
  refine wpAnyL_take (i := 14) (d := some 24) (v := .pointer (some ⟨p.l, 0, none⟩)) rfl rfl (by kernel_rfl) (by kernel_rfl) (by kernel_rfl) (fun _ _ _ h => h) (by rfl) ?yaa14 ?_
  case yaa14 => (intro w' hw'; have hq := (HF.out w' (D0.out.trans hw')).2; go_simp; try (with_reducible rfl))
  simp only [Act.put]; try simp only [List.setIfInBounds_toArray]; try simp only [List.set_cons_zero, List.set_cons_succ]
  refine wpAnyL_only (i := 10) rfl (by kernel_rfl) (by rfl) fun K hK => ?_
  go_simp
  refine (CL.out _ D0.out).mono ?_
  rintro e v1 ⟨rfl, rfl⟩
  refine hK.out _ _ (Below.refl _ _) ?_
  clear hK K
  try (simp only [Act.put]; try simp only [List.setIfInBounds_toArray]; try simp only [List.set_cons_zero, List.set_cons_succ])
  refine wpAnyL_only (i := 15) rfl (by kernel_rfl) (by rfl) fun K hK => ?_
  go_simp
  refine (CC.out _ D0.out).mono ?_
  rintro e v1 ⟨rfl, rfl⟩
  refine hK.out _ _ (Below.refl _ _) ?_
  clear hK K
  try (simp only [Act.put]; try simp only [List.setIfInBounds_toArray]; try simp only [List.set_cons_zero, List.set_cons_succ])
  refine wpAnyL_take (i := 16) (d := some 26) (v := ?vaa16) rfl rfl (by kernel_rfl) (by kernel_rfl) (by kernel_rfl) (fun _ _ _ h => h) (by rfl) ?yaa16 ?_
  case yaa16 => (intro w' hw'; go_simp; try (with_reducible rfl))
  simp only [Act.put]; try simp only [List.setIfInBounds_toArray]; try simp only [List.set_cons_zero, List.set_cons_succ]
  refine wpAnyL_only (i := 17) rfl (by kernel_rfl) (by rfl) fun K hK => ?_
  go_simp
  refine (CT.out _ D0.out).mono ?_
  rintro e w5 ⟨u, ps, rfl, hrow, hps, hl⟩
  have HROW := hide hrow
  have HPS := hide hps
  have HL := hide hl
  obtain ⟨A, n, c, rfl⟩ : ∃ A n c, u = .slice A n c := by
    obtain ⟨_, _, A, c, e, _⟩ := hrow.msgs.1
    exact ⟨A, _, c, e⟩
  clear hrow hps hl CT
  refine hK.out _ _ HL.out ?_
  clear hK K
  try (simp only [Act.put]; try simp only [List.setIfInBounds_toArray]; try simp only [List.set_cons_zero, List.set_cons_succ])
  refine wpAnyL_take (i := 18) (d := some 4) (v := ?vaa18) rfl rfl (by kernel_rfl) (by kernel_rfl) (by kernel_rfl) (fun _ _ _ h => h) (by rfl) ?yaa18 ?_
  case yaa18 => (intro w' hw'; go_simp; try (with_reducible rfl))
  simp only [Act.put]; try simp only [List.setIfInBounds_toArray]; try simp only [List.set_cons_zero, List.set_cons_succ]
  refine wpAnyL_done (by kernel_rfl) ?_ _
  go_wp2
  go_ret
  exact ⟨c1, ((HS.out.later D0.out).later HL.out).more (by omega), _, ps, w1.drew.heap.size, rfl, HS.out.turned.size, HS.out.rep.fresh, HROW.out, HPS.out⟩
set_option maxHeartbeats 4000000 in
set_option maxRecDepth 100000 in
theorem over_change (h : RepAt col q B w r p x g) (tm : Int) (ht : tm = 2 ∨ tm = 3) (hv : x.view + 1 ≤ 1099511627776 + g) (hg : g ≤ 800000) :
    Calls Tryz.prog 59 #[.pointer (some ⟨p.s, 0, none⟩), .int .i64 tm] w fun e w' => ∃ col', Since q B w col col' w' r p (overR x tm) (g + 2) ∧ SentC col' (overM x tm) w e w' := by
  have hv0 := h.ok.view.1
  have e1 : IntKind.i64.wrap (x.view + 1) = x.view + 1 := IntWalk.i64_in _ (by omega)
  have c3 : w.cell? ⟨p.s, 3, none⟩ = some (.int .i64 x.view) := h.cell (k := 3) rfl
  have C := hide (change_any h (x.view + 1) (by omega) hv hg)
  have hR : overR x tm = changeR x (x.view + 1) ∧ overM x tm = allM (changeR x (x.view + 1)) (startM (x.view + 1)) := by
    unfold overR overM
    rcases ht with rfl | rfl <;> exact ⟨rfl, rfl⟩
  rw [hR.1, hR.2]
  clear h hR hv hv0
  rcases ht with rfl | rfl
  all_goals
    go_enter Tryz.func59, Tryz.ntmps59
    go_wp2_with (fail)
    refine C.out.mono ?_
    rintro e w1 ⟨c1, hs, u, ps, base, rfl, hb, hf, hrow, hps⟩
    have HS := hide hs
    have HB := hide hb
    have HF := hide hf
    have HROW := hide hrow
    have HPS := hide hps
    obtain ⟨A, n, c, rfl⟩ : ∃ A n c, u = .slice A n c := by
      obtain ⟨_, _, A, c, e, _⟩ := hrow.msgs.1
      exact ⟨A, _, c, e⟩
    clear hs hb hf hrow hps C c3 e1
    go_wp2
    go_ret
    exact ⟨c1, HS.out, _, ps, base, rfl, HB.out, HF.out, HROW.out, HPS.out⟩
set_option maxHeartbeats 4000000 in
theorem over_ask (h : RepAt col q B w r p x g) (hg : g ≤ 800000) :
    Calls Tryz.prog 59 #[.pointer (some ⟨p.s, 0, none⟩), .int .i64 4] w fun e w' => ∃ col', Since q B w col col' w' r p (overR x 4) (g + 2) ∧ SentC col' (overM x 4) w e w' := by
  have C := hide (ask_any h hg)
  clear h
  go_enter Tryz.func59, Tryz.ntmps59
  go_wp2_with (fail)
  refine C.out.mono ?_
  rintro e w1 ⟨c1, hs, u, ps, base, rfl, hb, hf, hrow, hps⟩
  have HS := hide hs
  have HB := hide hb
  have HF := hide hf
  have HROW := hide hrow
  have HPS := hide hps
  obtain ⟨A, n, c, rfl⟩ : ∃ A n c, u = .slice A n c := by
    obtain ⟨_, _, A, c, e, _⟩ := hrow.msgs.1
    exact ⟨A, _, c, e⟩
  clear hs hb hf hrow hps C
  go_wp2
  go_ret
  exact ⟨c1, HS.out.more (by omega), _, ps, base, rfl, HB.out, HF.out, HROW.out, HPS.out⟩
/-- A timer is over: what is left, what is sent. -/
theorem over_any (h : RepAt col q B w r p x g) (tm : Int) (h1 : 1 ≤ tm) (h2 : tm ≤ 4) (hv : x.view + 1 ≤ 1099511627776 + g) (hg : g ≤ 800000) :
    Calls Tryz.prog 59 #[.pointer (some ⟨p.s, 0, none⟩), .int .i64 tm] w fun e w' => ∃ col', Since q B w col col' w' r p (overR x tm) (g + 2) ∧ SentC col' (overM x tm) w e w' := by
  rcases (by omega : tm = 1 ∨ (tm = 2 ∨ tm = 3) ∨ tm = 4) with rfl | ht | rfl
  · exact over_beat h hg
  · exact over_change h tm ht hv hg
  · exact over_ask h hg
end
end Go.Proofs.YtaiegmhlgjogmaaGreat
/- A node's clock ticks: its one timer, where it is over. -/
namespace Go.Proofs.YtaiegmhlgjogmaaGreat
open Go.RowKit Go.Maps

section
variable {col : Nat → Nat} {q B r g : Nat} {w w' : World} {p : RepP} {x : RepD}
/-- Its clock has turned, in the blocks that it had. -/
theorem RepAt.clock_same {now' : Int} {T' : List (Int × Int)} {g' : Nat} (h : RepAt col q B w r p x g) (hc : Ck.Clk B (hue col (q + 2)) w' p.c now' T' g') (ht : Turned (hue col (q + 2)) w w') (hg : g ≤ g')
    (ok : ({ x with now := now', T := T' } : RepD).OK g') : Since q B w col col w' r p { x with now := now', T := T' } g' := by
  obtain ⟨l1, l2, l3⟩ := h.lt
  have K : ∀ F : Nat → Prop, (∀ i, F i → col i ≠ q + 2) → Kept F w w' := fun F hF => ht.kept fun i e e2 => hF i e e2
  have c1 := ht.block r l1 (by have := h.cols.1; unfold hue; omega)
  have c2 := ht.block p.s l2 (by have := h.cols.2.1; unfold hue; omega)
  have c3 := ht.block p.b l3 (by have := h.cols.2.2; unfold hue; omega)
  refine ⟨⟨c1.trans h.rcell, c2.trans h.scell, h.log.later (K _ fun i e => by unfold hue at e; omega), hc, ?_, h.cols, h.base, h.incs.kept (K _ fun i e => by omega), fun y hy => (h.msgs y hy).kept (K _ fun i e => by omega), fun i hi => h.fresh i (by have := ht.size; omega), ok⟩, Ext.refl q h.fresh, ht.mono fun i e => by unfold hue at e; unfold hues; omega⟩
  obtain ⟨es, clock, hb2, hsz, hle, rest⟩ := h.map
  exact ⟨es, clock, c3.trans hb2, hsz, Nat.le_trans hle hg, rest⟩

/-- The row of messages that are some. -/
theorem NRow.shape {base : Nat} {v : Value} {ps : List MsgV} (h : NRow w base v ps) (hp : 0 < ps.length) : ∃ gb c, v = .slice (some ⟨gb, 0, none⟩) ps.length c ∧ base ≤ gb ∧ gb < w.heap.size := by
  rcases h.own.2 with ⟨_, h0⟩ | ⟨gb, cap, cur, hv, h1, h2, h3⟩
  · exfalso
    have : (ps.flatMap MsgV.cells).length = ps.length * 34 := h.own.1
    rw [h0] at this
    simp at this
    omega
  · exact ⟨gb, cap, hv, h1, lt_of_block h2⟩
/-- The same messages in a row of new memory. -/
theorem NRow.again {base : Nat} {v v' : Value} {ps : List MsgV} (h : NRow w base v ps) (ho : w'.ownsRow base 42 34 v' ps.length (ps.flatMap MsgV.cells)) (hl : Later w w') (hv : v'.ownBlock = some w.heap.size) : NRow w' base v' ps :=
  ⟨ho, fun y hy => ((h.lists y hy).mono fun i hi e => ⟨e.1, by rw [hv]; intro e2; have := Option.some.inj e2; omega⟩).kept (Kept.of_below hl _)⟩
theorem allM_some {m : MsgD} (hn : 2 ≤ x.n ∧ x.n ≤ 5) : 0 < (allM x m).length ∧ (allM x m).length ≤ 5 := by
  refine ⟨?_, Nat.le_trans (allUp_len x m _) (by omega)⟩
  unfold allM allUp
  rw [List.length_map, List.length_pos_iff_exists_mem]
  by_cases h1 : x.id = 1
  · exact ⟨1, List.mem_filter.2 ⟨List.mem_range.2 (by omega), by simp; omega⟩⟩
  · exact ⟨0, List.mem_filter.2 ⟨List.mem_range.2 (by omega), by simp; omega⟩⟩
theorem overM_some (ok : x.OK g) (tm : Int) : 0 < (overM x tm).length ∧ (overM x tm).length ≤ 5 := by
  unfold overM
  split
  · exact allM_some (x := setT x 1) ok.n
  · split
    · exact allM_some (x := setT x 4) ok.n
    · exact allM_some (x := changeR x (x.view + 1)) ok.n
/-- A tick more. -/
def tickedR (x : RepD) : RepD := { x with now := x.now + 1, T := Ck.restT x.T (x.now + 1) }
def tickR (x : RepD) (due tm : Int) : RepD := if due ≤ x.now + 1 then overR (tickedR x) tm else tickedR x
def tickM (x : RepD) (due tm : Int) : List MsgD := if due ≤ x.now + 1 then overM (tickedR x) tm else []
theorem ticked_ok (ok : x.OK g) : (tickedR x).OK (g + 1) := by
  refine ⟨ok.id, ok.n, ⟨ok.view.1, by have := ok.view.2; show x.view ≤ _; omega⟩, ⟨ok.last.1, by have := ok.last.2; show x.last ≤ _; omega⟩, ok.nonce, ok.incs, ok.taken, by have := ok.now; show x.now + 1 ≤ _; omega, fun u hu => ok.names u (List.mem_filter.1 hu).1, fun u hu => ?_, ok.keys, ok.rise, ok.acks⟩
  exact Ck.rest_later u hu

set_option maxHeartbeats 4000000 in
set_option maxRecDepth 100000 in
theorem tick_any {due tm : Int} (h : RepAt col q B w r p x g) (hT : x.T = [(due, tm)]) (hv : x.view + 1 ≤ 1099511627776 + g) (hg : g ≤ 700000) :
    Calls Tryz.prog 26 #[.pointer (some ⟨r, 0, none⟩)] w fun e w' => ∃ col', Since q B w col col' w' r p (tickR x due tm) (g + 4) ∧ SentC col' (tickM x due tm) w e w' := by
  obtain ⟨i0, hi, hz0, hz1, hz2⟩ := info_parts Tryz.infoMsg
  have htm : 1 ≤ tm ∧ tm ≤ 4 := h.ok.names (due, tm) (by rw [hT]; simp)
  have cr := h.rptr
  have c9 : w.cell? ⟨p.s, 9, none⟩ = some (.pointer (some ⟨p.c, 0, none⟩)) := h.cell (k := 9) rfl
  have C := hide (made_any h)
  have CT := hide (Ck.clk_tick h.clk h.ok.later (by have := h.ok.now; omega))
  have H := hide h
  have HV := hide hv
  have HT := hide hT
  have HTM := hide htm
  clear h hv hT htm
  by_cases hd : due ≤ x.now + 1
  · have hnm : Ck.namesT (Ck.dueT [(due, tm)] (x.now + 1)) = [tm] := by simp [Ck.dueT, Ck.namesT, hd]
    have hR : tickR x due tm = overR (tickedR x) tm ∧ tickM x due tm = overM (tickedR x) tm := by unfold tickR tickM; rw [if_pos hd, if_pos hd]; exact ⟨rfl, rfl⟩
    rw [hR.1, hR.2]
    have HNM := hide hnm
    clear hR hnm hd
    go_enter Tryz.func26, Tryz.ntmps26
    go_wp2_with (fail)
    refine C.out.mono ?_
    rintro e w1 ⟨rfl, rfl⟩
    go_wp2_with (fail)
    refine CT.out.mono ?_
    rintro e w1 ⟨A, n, c, rfl, ho, hih, hnc, hck, htu⟩
    have HS1 : Hid (Since q B w col col w1 r p (tickedR x) (g + 1)) := H.out.clock_same (hck.more (by omega)) htu (by omega) (ticked_ok H.out.ok)
    have HN : Hid (SlI (fun i => col i = 0) w1 (.slice A n c) (Ck.namesT (Ck.dueT x.T (x.now + 1)))) := (SlI.of_own ho hih.2.1).mono (fun i _ hbase => H.out.fresh i hbase)
    have hn := hih.1
    have cr1 := HS1.out.rep.rptr
    rw [HT.out] at hn HN
    clear ho hih hck htu CT C cr c9 hnc
    rw [HNM.out] at hn HN
    obtain rfl : 1 = n := hn
    have CO := hide (over_any HS1.out.rep tm HTM.out.1 HTM.out.2 (by have h1 := HV.out; have h2 : (tickedR x).view = x.view := rfl; omega) (by omega))
    obtain ⟨b, off, rfl, hbl, hcell⟩ := HN.out.cell (i := 0) (by omega)
    simp only [List.getD_cons_zero, Nat.add_zero] at hcell
    clear hbl HT
    go_wp2
    go_loopw [3, 18] (fun r0 j wr => (j = .int .i64 0 ∧ r0 = .slice none 0 0 ∧ wr = w1) ∨ (j = .int .i64 1 ∧ ∃ c2, Since q B w col c2 wr r p (overR (tickedR x) tm) (g + 4) ∧ ∃ v ps base, v = r0 ∧ w.heap.size ≤ base ∧ (∀ i, base ≤ i → c2 i = 0) ∧ NRow wr base v ps ∧ ps.map MsgV.m = overM (tickedR x) tm)) (fun _ j _ => 2 - (Go.RowKit.intOf j).toNat)
    case atStart => exact .inl ⟨rfl, rfl, rfl⟩
    case round =>
      rcases hrel with ⟨rfl, rfl, rfl⟩ | ⟨rfl, c2, hs, v, ps, base, rfl, hb, hf, hrow, hps⟩
      · go_wp2_with (fail)
        refine CO.out.mono ?_
        rintro e w2 ⟨c2, hs, u, ps, base, rfl, hb, hf, hrow, hps⟩
        have hlen : ps.length = (overM (tickedR x) tm).length := by rw [← hps, List.length_map]
        have hsome := overM_some HS1.out.rep.ok tm
        obtain ⟨gb, cb, rfl, hgb, hgw⟩ := hrow.shape (by omega)
        have HS := hide hs
        have HB := hide hb
        have HF := hide hf
        have HROW := hide hrow
        have HPS := hide hps
        have hfl := hrow.msgs.1
        have hm0 : 0 < ps.length := by omega
        have hm5 : ps.length ≤ 5 := by omega
        clear hs hb hf hrow hps CO hlen hsome
        go_wp2_with (at_builtin; refine wpList_append_flat_to (by rfl) _ _ 57 (by rfl) base 42 i0 _ 34 304 Tryz.underlying57 hi hz0 hz1 hz2 (by rfl) (by decide) (.slice none 0 0) 0 [] (by rfl) (World.ownsRow_nil _ _ _ _) gb cb ps.length (ps.flatMap MsgV.cells) (by rfl) (base ≤ ·) hfl hm0 (by unfold maxLen; omega) (by omega) (by omega) ?_; intro v5 w5 o5 g5 e5)
        have L5 : Later w2 w5 := (Below.refl _ _).grown g5 (Nat.le_refl _) (fun k hk => by cases hk)
        simp only [Nat.zero_add, List.nil_append] at o5
        have hv5 : v5.ownBlock = some w2.heap.size := by
          rcases e5 with e5 | e5
          · exfalso
            rcases o5.2 with ⟨_, h0⟩ | ⟨g', cap, cur, hv, _⟩
            · omega
            · rw [hv] at e5
              cases e5
          · exact e5
        have R5 := HROW.out.again o5 L5 hv5
        have hsz := HS1.out.turned.size
        have HR5 := hide R5
        have HL5 := hide L5
        clear o5 g5 e5 hv5 R5 L5 hfl hm0 hm5
        go_roundw
        case rel => exact .inr ⟨rfl, c2, ((HS1.out.next HS.out).later HL5.out).more (by omega), _, ps, base, rfl, Nat.le_trans hsz HB.out, HF.out, HR5.out, HPS.out⟩
        case measure => simp [Go.RowKit.intOf]
      · have HS := hide hs
        have HB := hide hb
        have HF := hide hf
        have HROW := hide hrow
        have HPS := hide hps
        clear hs hb hf hrow hps
        go_wp2
        go_ret
        exact ⟨c2, HS.out, _, ps, base, rfl, HB.out, HF.out, HROW.out, HPS.out⟩
  · have hnm : Ck.namesT (Ck.dueT [(due, tm)] (x.now + 1)) = [] := by simp [Ck.dueT, Ck.namesT, hd]
    have hR : tickR x due tm = tickedR x ∧ tickM x due tm = [] := by unfold tickR tickM; rw [if_neg hd, if_neg hd]; exact ⟨rfl, rfl⟩
    rw [hR.1, hR.2]
    have HNM := hide hnm
    clear hR hnm hd
    go_enter Tryz.func26, Tryz.ntmps26
    go_wp2_with (fail)
    refine C.out.mono ?_
    rintro e w1 ⟨rfl, rfl⟩
    go_wp2_with (fail)
    refine CT.out.mono ?_
    rintro e w1 ⟨A, n, c, rfl, ho, hih, hnc, hck, htu⟩
    have HS1 : Hid (Since q B w col col w1 r p (tickedR x) (g + 1)) := H.out.clock_same (hck.more (by omega)) htu (by omega) (ticked_ok H.out.ok)
    have HN : Hid (SlI (fun i => col i = 0) w1 (.slice A n c) (Ck.namesT (Ck.dueT x.T (x.now + 1)))) := (SlI.of_own ho hih.2.1).mono (fun i _ hbase => H.out.fresh i hbase)
    have hn := hih.1
    have cr1 := HS1.out.rep.rptr
    rw [HT.out] at hn HN
    clear ho hih hck htu CT C cr c9 hnc
    rw [HNM.out] at hn HN
    obtain rfl : 0 = n := hn
    clear HN HT
    go_wp2
    go_loopw [3, 18] (fun r0 j wr => j = .int .i64 0 ∧ r0 = .slice none 0 0 ∧ wr = w1) (fun _ _ _ => 0)
    case atStart => exact ⟨rfl, rfl, rfl⟩
    case round =>
      obtain ⟨rfl, rfl, rfl⟩ := hrel
      go_wp2
      go_ret
      exact ⟨col, HS1.out.more (by omega), _, [], wr.heap.size, rfl, HS1.out.turned.size, HS1.out.rep.fresh, NRow.nil _ _, rfl⟩
end
end Go.Proofs.YtaiegmhlgjogmaaGreat
