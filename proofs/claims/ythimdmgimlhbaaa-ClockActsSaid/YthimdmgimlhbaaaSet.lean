/- Set of package clock. -/
import Derived.Test.YthimdmgimlhbaaaStop
namespace Go.Proofs.Ythimdmgimlhbaaa
open Go.RowKit Go.Maps

theorem set_no (p : Value) (name after : Int) (w : World) (h : NoClock w p) : Calls Try.prog 14 #[p, .int .i64 name, .int .i64 after] w fun e w' => e = .returned (.int .i64 1) ∧ w = w' := by
  have C := hide (made_no p w h)
  have hp : ∃ a, p = .pointer a := by rcases h with rfl | ⟨g, rfl, _⟩ <;> exact ⟨_, rfl⟩
  obtain ⟨a, rfl⟩ := hp
  clear h
  go_enter Try.func14, Try.ntmps14
  go_wp2_with (fail)
  refine C.out.mono ?_
  rintro e w1 ⟨rfl, rfl⟩
  go_wp2
  go_ret
  exact ⟨rfl, rfl⟩

section
variable {S : Nat → Prop} {c k b base cnt : Nat} {now : Int} {L : List (Int × Int)}
theorem set_range (name after : Int) (w : World) (h : ClockAt S w c k b base cnt now L) (ha : after < 1 ∨ 100000 < after) :
    Calls Try.prog 14 #[.pointer (some ⟨c, 0, none⟩), .int .i64 name, .int .i64 after] w fun e w' => e = .returned (.int .i64 15) ∧ w = w' := by
  have C := hide (made_yes w h)
  clear h
  by_cases h1 : after < 1
  · clear ha
    go_enter Try.func14, Try.ntmps14
    go_wp2_with (fail)
    refine C.out.mono ?_
    rintro e w1 ⟨rfl, rfl⟩
    go_wp2
    go_ret
    exact ⟨rfl, rfl⟩
  · have h2 : 100000 < after := by omega
    clear ha
    go_enter Try.func14, Try.ntmps14
    go_wp2_with (fail)
    refine C.out.mono ?_
    rintro e w1 ⟨rfl, rfl⟩
    go_wp2
    go_ret
    exact ⟨rfl, rfl⟩

theorem clock_size {w : World} (h : ClockAt S w c k b base cnt now L) (W : World) (hW : W.heap[b]? = w.heap[b]?) (ty : TypeId) :
    (Builtin.len_ #[54] ty #[.map (some b)]).run Try.prog W = .ok (.int .i64 (L.length : Int)) W := by
  have h1 : W.ownsMap Try.prog 3 heldR b cnt (mapD (L.map tpair)) := by
    obtain ⟨es, clock, hb, rest⟩ := h.map
    exact ⟨es, clock, hW.trans hb, rest⟩
  have := h1.len Try.underlying54 ty
  rw [size_mapD] at this
  simpa using this

set_option maxHeartbeats 1000000 in
set_option maxRecDepth 100000 in
theorem set_full (name after : Int) (w : World) (h : ClockAt S w c k b base cnt now L) (h1 : -9223372036854775808 ≤ name) (h2 : name < 9223372036854775808) (ha1 : 1 ≤ after) (ha2 : after ≤ 100000)
    (hf : findT L name = none) (hl : L.length = 100) :
    Calls Try.prog 14 #[.pointer (some ⟨c, 0, none⟩), .int .i64 name, .int .i64 after] w fun e w' => e = .returned (.int .i64 7) ∧ Below w.heap.size w w' := by
  have C := hide (made_yes w h)
  have HI := hide (int_key h1 h2)
  have HMAP := hide h.map
  obtain ⟨c0, k0, k1, kf⟩ := h.cells
  obtain ⟨hcl, hkl, hbl⟩ := h.klt
  have hlen : ∀ ty, (Builtin.len_ #[54] ty #[.map (some b)]).run Try.prog (w.alloc (.cells #[.int .i64 0, .int .i64 0] 60 (0, 0))) = .ok (.int .i64 100) (w.alloc (.cells #[.int .i64 0, .int .i64 0] 60 (0, 0))) := fun ty => by
    have := clock_size h (w.alloc (.cells #[.int .i64 0, .int .i64 0] 60 (0, 0))) (heap_alloc_old _ _ hbl) ty
    rw [hl] at this
    exact this
  have HR := hide (found_none hf)
  clear h hf hl
  go_enter Try.func14, Try.ntmps14
  go_wp2_with (fail)
  refine C.out.mono ?_
  rintro e w1 ⟨rfl, rfl⟩
  go_wp2_with (at_lookup; refine wpList_lookup_held rfl _ _ 54 rfl 3 60 Try.int_law Try.underlying54 zeroT (by kernel_rfl) b cnt _ rfl HMAP.out name rfl HI.out _ false HR.out ?_)
  go_ret
  exact ⟨rfl, (Below.refl _ _).alloc (Nat.le_refl _) _⟩

/-- A timer into the map. -/
theorem wp_mapUpdate_timer {w : World} {o : Oper} {a : Act} {Q : Exit → Act → World → Prop} {K : Act → World → Prop} (m x v : Operand) (hop : o.op = Op.mapUpdate 54 m x v) (b n : Nat) (L : List (Int × Int))
    (hm : a.eval m = .map (some b)) (hown : w.ownsMap Try.prog 3 heldR b n (mapD (L.map tpair))) (hn : n < maxLen) (t : Int × Int) (hx : a.eval x = .int .i64 t.2) (hv : a.eval v = tagg t) (hkey : keyOf Try.prog 3 (.int .i64 t.2) = some (.int .i64 t.2))
    (hL : ∀ p ∈ L, p.2 ≠ t.2) (hK : ∀ w', w'.ownsMap Try.prog 3 heldR b (n + 1) (mapD ((insT t L).map tpair)) → w.mapTurned w' b → K (a.put o.dst undef) w') : Oper.wp Try.prog o a w K Q := by
  obtain ⟨w', hrun, r1, r2⟩ := hown.store Try.int_law Try.underlying54 hn hkey (val := tagg t) (d := .held (tagg t)) (ps := []) rfl
  rw [put_timers t L hL] at r1
  unfold Oper.wp
  simp [execOp, hop, hm, hx, hv, hrun, Result.andThen]
  exact hK w' r1 r2

/-- What Set leaves. -/
def SetTo (S : Nat → Prop) (w : World) (c k b base cnt : Nat) (now : Int) (L : List (Int × Int)) (name after : Int) (e : Ending) (w' : World) : Prop :=
  e = .returned (.int .i64 0) ∧ ClockAt (fun i => S i ∨ (w.heap.size ≤ i ∧ i < w'.heap.size)) w' c k b base (cnt + 1) now (insT (now + after, name) (delT L name)) ∧ Turned S w w'

theorem delT_short {w : World} {name : Int} (h : ClockAt S w c k b base cnt now L) (hl : findT L name ≠ none ∨ L.length < 100) : (delT L name).length < 100 := by
  rcases hl with hl | hl
  · rcases hf : findT L name with _ | p
    · exact absurd hf hl
    · have hm := findT_mem hf
      have := (delT_perm h.rise hm.1).length_eq
      rw [hm.2] at this
      simp at this
      have := h.len
      omega
  · exact Nat.lt_of_le_of_lt (List.length_filter_le _ _) hl

theorem ClockAt.set_ {w w4 w5 : World} {L1 : List (Int × Int)} {name after : Int} {hv : Value} {hs : List (Int × Int)} {w2 : World} (h : ClockAt S w2 c k b base cnt now L1) (hno : ∀ p ∈ L1, p.2 ≠ name) (hl : L1.length < 100) (ha1 : 1 ≤ after) (ha2 : after ≤ 100000)
    (hh : HeapAt w2 base k (.int .i64 now) (.map (some b)) hv hs) (hp : hs.Perm L1) (hq : ∀ q, hv.ownBlock = some q → S q) (hT : Turned S w w2)
    (ho : w4.ownsMap Try.prog 3 heldR b (cnt + 1) (mapD ((insT (now + after, name) L1).map tpair))) (ht : Turned (fun i => i = b) w2 w4)
    (hr : Pushed w4.drew base k (.int .i64 now) (.map (some b)) hv hs (now + after, name) w5) :
    ClockAt (fun i => S i ∨ (w.heap.size ≤ i ∧ i < w5.heap.size)) w5 c k b base (cnt + 1) now (insT (now + after, name) L1) ∧ Turned S w w5 := by
  obtain ⟨hv', hs', a1, a2, a3, a4⟩ := hr
  obtain ⟨n1, n2⟩ := h.foot hh
  have a3' : Turned (Foot k hv) w4 w5 := a3.of_drew
  have hcb := h.ne.2.2
  have hS : Turned S w2 w5 := (ht.mono fun i hi => by subst hi; exact h.inn.2.2).trans (a3'.mono fun i hi => by
    rcases hi with rfl | hi
    · exact h.inn.2.1
    · exact hq i hi)
  refine ⟨⟨?_, ?_, ⟨hv', hs', a1, a2.trans ((hp.append_right _).trans (insT_perm _ L1).symm), fun q e => ?_⟩, insT_rise h.rise hno, ⟨.inl h.inn.1, .inl h.inn.2.1, .inl h.inn.2.2⟩, h.lt, h.ne, h.time, fun p hp' => ?_, ?_⟩, hT.trans hS⟩
  · rw [a3'.block c (Nat.lt_of_lt_of_le h.klt.1 ht.size) n1, ht.block c h.klt.1 hcb]
    exact h.cell
  · obtain ⟨es, clock, hb, rest⟩ := ho
    exact ⟨es, clock, (a3'.block b (lt_of_block hb) n2).trans hb, rest⟩
  · rcases a4 with e1 | ⟨q', e1, hq'⟩
    · exact .inl (hq q (by rw [← e1]; exact e))
    · have e2 := Option.some.inj (e1.symm.trans e)
      subst e2
      have h1 := a1.own.lt q' e1
      have h2 := hT.size
      have h3 := ht.size
      have h4 : w4.heap.size ≤ q' := hq'
      exact .inr ⟨by omega, h1.2⟩
  · rcases insT_mem.1 hp' with hp' | rfl
    · exact h.ends p hp'
    · simp only
      omega
  · rw [(insT_perm _ L1).length_eq]
    simp
    omega

set_option maxHeartbeats 2000000 in
set_option maxRecDepth 100000 in
theorem set_ok (name after : Int) (w : World) (h : ClockAt S w c k b base cnt now L) (h1 : -9223372036854775808 ≤ name) (h2 : name < 9223372036854775808) (ha1 : 1 ≤ after) (ha2 : after ≤ 100000)
    (hl : findT L name ≠ none ∨ L.length < 100) (hcnt : cnt ≤ 1000000) :
    Calls Try.prog 14 #[.pointer (some ⟨c, 0, none⟩), .int .i64 name, .int .i64 after] w (SetTo S w c k b base cnt now L name after) := by
  have C := hide (made_yes w h)
  have HI := hide (int_key h1 h2)
  have HMAP := hide h.map
  have H := hide h
  have HSH := hide (delT_short h hl)
  obtain ⟨c0, k0, k1, kf⟩ := h.cells
  obtain ⟨hcl, hkl, hbl⟩ := h.klt
  obtain ⟨ht0, ht1⟩ := h.time
  obtain ⟨r, hr⟩ : ∃ r : Bool, (findT L name).isSome = r := ⟨_, rfl⟩
  have hres : ∃ e n, foundIn (L.map tpair) zeroT name = (.agg #[.int .i64 e, .int .i64 n], r) := by
    rcases hf : findT L name with _ | p
    · rw [hf] at hr
      subst hr
      exact ⟨0, 0, found_none hf⟩
    · obtain ⟨e, rfl⟩ := findT_pair hf
      rw [hf] at hr
      subst hr
      exact ⟨e, name, found_some hf⟩
  obtain ⟨e0, n0, hres⟩ := hres
  have HR := hide hres
  have L1 : Hid (Below w.heap.size w (w.alloc (.cells #[.int .i64 e0, .int .i64 n0] 60 (0, 0)))) := (Below.refl _ _).alloc (Nat.le_refl _) _
  have CS := hide (stop_yes name _ (h.later L1.out) h1 h2)
  have hlen := fun ty => clock_size h (w.alloc (.cells #[.int .i64 e0, .int .i64 n0] 60 (0, 0))) (heap_alloc_old _ _ hbl) ty
  have hcase : r = true ∨ (r = false ∧ (L.length : Int) < 100) := by
    cases r with
    | true => exact .inl rfl
    | false =>
      refine .inr ⟨rfl, ?_⟩
      rcases hl with hl | hl
      · exact absurd (by simpa using hr) hl
      · omega
  have HKEY := hide h1
  have HKEY2 := hide h2
  clear h hl hr hres h1 h2
  rcases hcase with rfl | ⟨rfl, hlt⟩
  all_goals
    go_enter Try.func14, Try.ntmps14
    go_wp2_with (fail)
    refine C.out.mono ?_
    rintro e w1 ⟨rfl, rfl⟩
    go_wp2_with (at_lookup; refine wpList_lookup_held rfl _ _ 54 rfl 3 60 Try.int_law Try.underlying54 zeroT (by kernel_rfl) b cnt _ rfl HMAP.out name rfl HI.out _ _ HR.out ?_)
    refine CS.out.mono ?_
    rintro e w2 ⟨rfl, hc2, ht2⟩
    have HC2 := hide hc2
    have HT2 : Hid (Turned S w w2) := (Turned.of_below L1.out S).trans ht2
    obtain ⟨c0', k0', k1', _⟩ := hc2.cells
    obtain ⟨hcl2, hkl2, hbl2⟩ := hc2.klt
    obtain ⟨hv, hs, hh, hp, hq⟩ := hc2.heap
    have HH := hide hh
    have HP := hide hp
    have HQ := hide hq
    clear hc2 ht2 hh hp hq c0 k0 k1 kf hlen
    have hnow : IntKind.i64.wrap (now + after) = now + after := IntWalk.i64_in _ (by omega)
    go_wp2
    obtain ⟨w3, hw3⟩ : ∃ w3, w3 = w2.alloc (.cells #[.int .i64 (now + after), .int .i64 name] 60 (0, 0)) := ⟨_, rfl⟩
    have L3 : Hid (Below w2.heap.size w2 w3) := by
      rw [hw3]
      exact (Below.refl _ _).alloc (Nat.le_refl _) _
    have X3 : Hid (w3.heap[w2.heap.size]? = some (.cells #[.int .i64 (now + after), .int .i64 name] 60 (0, 0))) := by
      rw [hw3]
      exact heap_alloc_new _ _
    have C3 : Hid (ClockAt S w3 c k b base cnt now (delT L name)) := HC2.out.later L3.out
    rw [← hw3]
    clear hw3 c0' k0' k1'
    refine wp_region_S (fun j => j == 9) (by kernel_rfl) ?_
    refine wpAnyS_take (i := 0) (d := some 58) (v := ?vaa0) rfl rfl (by kernel_rfl) (by kernel_rfl) (by kernel_rfl) (by kernel_rfl) (by kernel_rfl) (fun _ _ _ h => h) (by rfl) ?yaa0 ?_
    case yaa0 => (intro w' hw'; go_simp; try (with_reducible rfl))
    simp only [Act.put]; try simp only [List.setIfInBounds_toArray]; try simp only [List.set_cons_zero, List.set_cons_succ]
    refine wpAnyS_take (i := 1) (d := some 59) (v := ?vaa1) rfl rfl (by kernel_rfl) (by kernel_rfl) (by kernel_rfl) (by kernel_rfl) (by kernel_rfl) (fun _ _ _ h => h) (by rfl) ?yaa1 ?_
    case yaa1 => (intro w' hw'; go_simp; try (with_reducible rfl))
    simp only [Act.put]; try simp only [List.setIfInBounds_toArray]; try simp only [List.set_cons_zero, List.set_cons_succ]
    refine wpAnyS_take (i := 2) (d := some 60) (v := ?vaa2) rfl rfl (by kernel_rfl) (by kernel_rfl) (by kernel_rfl) (by kernel_rfl) (by kernel_rfl) (fun _ _ _ h => h) (by rfl) ?yaa2 ?_
    case yaa2 => (intro w' hw'; go_simp; try (with_reducible rfl))
    simp only [Act.put]; try simp only [List.setIfInBounds_toArray]; try simp only [List.set_cons_zero, List.set_cons_succ]
    refine wpAnyS_take (i := 3) (d := some 61) (v := ?vaa3) rfl rfl (by kernel_rfl) (by kernel_rfl) (by kernel_rfl) (by kernel_rfl) (by kernel_rfl) (fun _ _ _ h => h) (by rfl) ?yaa3 ?_
    case yaa3 => (intro w' hw'; have hc : w'.heap[c]? = _ := (Below.block hw' c (lt_of_block C3.out.cell)).trans C3.out.cell; have hc0 := cell_of_row w' c 0 _ _ _ hc; simp only [List.getElem?_toArray, List.getElem?_cons_zero] at hc0; clear hc; go_simp; try (with_reducible rfl))
    simp only [Act.put]; try simp only [List.setIfInBounds_toArray]; try simp only [List.set_cons_zero, List.set_cons_succ]
    refine wpAnyS_take (i := 4) (d := some 62) (v := ?vaa4) rfl rfl (by kernel_rfl) (by kernel_rfl) (by kernel_rfl) (by kernel_rfl) (by kernel_rfl) (fun _ _ _ h => h) (by rfl) ?yaa4 ?_
    case yaa4 => (intro w' hw'; go_simp; try (with_reducible rfl))
    simp only [Act.put]; try simp only [List.setIfInBounds_toArray]; try simp only [List.set_cons_zero, List.set_cons_succ]
    refine wpAnyS_take (i := 5) (d := some 63) (v := ?vaa5) rfl rfl (by kernel_rfl) (by kernel_rfl) (by kernel_rfl) (by kernel_rfl) (by kernel_rfl) (fun _ _ _ h => h) (by rfl) ?yaa5 ?_
    case yaa5 => (intro w' hw'; go_simp; try (with_reducible rfl))
    simp only [Act.put]; try simp only [List.setIfInBounds_toArray]; try simp only [List.set_cons_zero, List.set_cons_succ]
    refine wpAnyS_take (i := 6) (d := some 64) (v := ?vaa6) rfl rfl (by kernel_rfl) (by kernel_rfl) (by kernel_rfl) (by kernel_rfl) (by kernel_rfl) (fun _ _ _ h => h) (by rfl) ?yaa6 ?_
    case yaa6 => (intro w' hw'; have hck := (C3.out.later ((Below.refl w3.heap.size w3).drew.trans hw')).cells.2.2.1; go_simp; try (with_reducible rfl))
    simp only [Act.put]; try simp only [List.setIfInBounds_toArray]; try simp only [List.set_cons_zero, List.set_cons_succ]
    refine wpAnyS_take (i := 7) (d := some 65) (v := ?vaa7) rfl rfl (by kernel_rfl) (by kernel_rfl) (by kernel_rfl) (by kernel_rfl) (by kernel_rfl) (fun _ _ _ h => h) (by rfl) ?yaa7 ?_
    case yaa7 => (intro w' hw'; go_simp; try (with_reducible rfl))
    simp only [Act.put]; try simp only [List.setIfInBounds_toArray]; try simp only [List.set_cons_zero, List.set_cons_succ]
    refine wpAnyS_take (i := 8) (d := some 66) (v := .agg #[.int .i64 (now + after), .int .i64 name]) rfl rfl (by kernel_rfl) (by kernel_rfl) (by kernel_rfl) (by kernel_rfl) (by kernel_rfl) (fun _ _ _ h => h) (by rfl) ?yaa8 ?_
    case yaa8 => (intro w' hw'; exact exec_load_box 60 _ (by rfl) w2.heap.size 0 (by rfl) 60 _ ((Below.block hw' w2.heap.size (lt_of_block X3.out)).trans X3.out) 2 _ Try.underlying60 (by rfl) (by kernel_rfl) (tcell (now + after, name)) (by rfl) (by rfl))
    simp only [Act.put]; try simp only [List.setIfInBounds_toArray]; try simp only [List.set_cons_zero, List.set_cons_succ]
    refine wpAnyS_write (i := 9) rfl rfl (by kernel_rfl) (by rfl) fun K hK => ?_
    refine wp_mapUpdate_timer _ _ _ (by rfl) b cnt (delT L name) (by rfl) (by exact C3.out.map) (by unfold maxLen; omega) (now + after, name) (by rfl) (by rfl) HI.out (fun p hp => (delT_mem.1 hp).2) ?_
    intro w4 ho4 ht4
    refine hK.out _ _ ?_
    clear hK K
    try simp only [Act.put]
    refine wpAnyS_done (by kernel_rfl) ?_ _
    have T4 : Hid (Turned (fun i => i = b) w2 w4) := (Turned.of_below L3.out _).trans (Turned.of_grown (grown_of_drew ht4.grown) fun q e => (Option.some.inj e).symm)
    have O4 := hide ho4
    have X4 : Hid (w4.heap[w2.heap.size]? = some (.cells #[.int .i64 (now + after), .int .i64 name] 60 (0, 0))) := (ht4.grown.block w2.heap.size (lt_of_block X3.out) (by intro e; have := Option.some.inj e; omega)).trans X3.out
    have C4 : Hid (w4.heap[c]? = some (.cells #[.pointer (some ⟨k, 0, none⟩)] 49 (0, 0))) := (T4.out.block c hcl2 HC2.out.ne.2.2).trans HC2.out.cell
    have HH4 : Hid (HeapAt w4 base k (.int .i64 now) (.map (some b)) hv hs) := HH.out.kept (T4.out.kept fun i hi e => (HC2.out.foot HH.out).2 (e ▸ hi))
    have hlen4 : hs.length < 1000 := by
      have h1 := HP.out.length_eq
      have h2 := HSH.out
      omega
    have ht64 : T64 (now + after, name) := by
      have := HKEY.out
      have := HKEY2.out
      refine ⟨⟨?_, ?_⟩, ?_, ?_⟩ <;> simp only <;> omega
    have HT64 := hide ht64
    clear ho4 ht4 ht64
    go_wp2
    refine wp_region_S (fun j => j == 7) (by kernel_rfl) ?_
    refine wpAnyS_take (i := 0) (d := some 67) (v := ?vab0) rfl rfl (by kernel_rfl) (by kernel_rfl) (by kernel_rfl) (by kernel_rfl) (by kernel_rfl) (fun _ _ _ h => h) (by rfl) ?yab0 ?_
    case yab0 => (intro w' hw'; go_simp; try (with_reducible rfl))
    simp only [Act.put]; try simp only [List.setIfInBounds_toArray]; try simp only [List.set_cons_zero, List.set_cons_succ]
    refine wpAnyS_take (i := 1) (d := some 68) (v := ?vab1) rfl rfl (by kernel_rfl) (by kernel_rfl) (by kernel_rfl) (by kernel_rfl) (by kernel_rfl) (fun _ _ _ h => h) (by rfl) ?yab1 ?_
    case yab1 => (intro w' hw'; go_simp; try (with_reducible rfl))
    simp only [Act.put]; try simp only [List.setIfInBounds_toArray]; try simp only [List.set_cons_zero, List.set_cons_succ]
    refine wpAnyS_take (i := 2) (d := some 69) (v := ?vab2) rfl rfl (by kernel_rfl) (by kernel_rfl) (by kernel_rfl) (by kernel_rfl) (by kernel_rfl) (fun _ _ _ h => h) (by rfl) ?yab2 ?_
    case yab2 => (intro w' hw'; go_simp; try (with_reducible rfl))
    simp only [Act.put]; try simp only [List.setIfInBounds_toArray]; try simp only [List.set_cons_zero, List.set_cons_succ]
    refine wpAnyS_take (i := 3) (d := some 70) (v := ?vab3) rfl rfl (by kernel_rfl) (by kernel_rfl) (by kernel_rfl) (by kernel_rfl) (by kernel_rfl) (fun _ _ _ h => h) (by rfl) ?yab3 ?_
    case yab3 => (intro w' hw'; have hc : w'.heap[c]? = _ := (Below.block hw' c (lt_of_block C4.out)).trans C4.out; have hc0 := cell_of_row w' c 0 _ _ _ hc; simp only [List.getElem?_toArray, List.getElem?_cons_zero] at hc0; clear hc; go_simp; try (with_reducible rfl))
    simp only [Act.put]; try simp only [List.setIfInBounds_toArray]; try simp only [List.set_cons_zero, List.set_cons_succ]
    refine wpAnyS_take (i := 4) (d := some 71) (v := ?vab4) rfl rfl (by kernel_rfl) (by kernel_rfl) (by kernel_rfl) (by kernel_rfl) (by kernel_rfl) (fun _ _ _ h => h) (by rfl) ?yab4 ?_
    case yab4 => (intro w' hw'; go_simp; try (with_reducible rfl))
    simp only [Act.put]; try simp only [List.setIfInBounds_toArray]; try simp only [List.set_cons_zero, List.set_cons_succ]
    refine wpAnyS_take (i := 5) (d := some 72) (v := ?vab5) rfl rfl (by kernel_rfl) (by kernel_rfl) (by kernel_rfl) (by kernel_rfl) (by kernel_rfl) (fun _ _ _ h => h) (by rfl) ?yab5 ?_
    case yab5 => (intro w' hw'; go_simp; try (with_reducible rfl))
    simp only [Act.put]; try simp only [List.setIfInBounds_toArray]; try simp only [List.set_cons_zero, List.set_cons_succ]
    refine wpAnyS_take (i := 6) (d := some 73) (v := .agg #[.int .i64 (now + after), .int .i64 name]) rfl rfl (by kernel_rfl) (by kernel_rfl) (by kernel_rfl) (by kernel_rfl) (by kernel_rfl) (fun _ _ _ h => h) (by rfl) ?yab6 ?_
    case yab6 => (intro w' hw'; exact exec_load_box 60 _ (by rfl) w2.heap.size 0 (by rfl) 60 _ ((Below.block hw' w2.heap.size (lt_of_block X4.out)).trans X4.out) 2 _ Try.underlying60 (by rfl) (by kernel_rfl) (tcell (now + after, name)) (by rfl) (by rfl))
    simp only [Act.put]; try simp only [List.setIfInBounds_toArray]; try simp only [List.set_cons_zero, List.set_cons_succ]
    refine wpAnyS_write (i := 7) rfl rfl (by kernel_rfl) (by rfl) fun K hK => ?_
    go_simp
    refine (push_any base k _ _ hv hs (now + after, name) w4.drew HH4.out.drew HT64.out hlen4).mono ?_
    rintro e w5 ⟨rfl, hr5⟩
    have HR5 := hide hr5
    clear hr5
    refine hK.out _ _ ?_
    clear hK K
    try (simp only [Act.put]; try simp only [List.setIfInBounds_toArray]; try simp only [List.set_cons_zero, List.set_cons_succ])
    refine wpAnyS_done (by kernel_rfl) ?_ _
    have HE := hide (HC2.out.set_ (fun p hp => (delT_mem.1 hp).2) HSH.out ha1 ha2 HH.out HP.out HQ.out HT2.out O4.out T4.out HR5.out)
    go_wp2
    go_ret
    exact ⟨rfl, HE.out.1, HE.out.2⟩
end
end Go.Proofs.Ythimdmgimlhbaaa
