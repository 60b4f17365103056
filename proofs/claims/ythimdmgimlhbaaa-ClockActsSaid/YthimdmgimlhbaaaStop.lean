/- Left and Stop of package clock. -/
import Derived.Test.YthimdmgimlhbaaaClock
namespace Go.Proofs.Ythimdmgimlhbaaa
open Go.RowKit Go.Maps

def zeroT : Value := .agg #[.int .i64 0, .int .i64 0]
theorem found_none {L : List (Int × Int)} {name : Int} (h : findT L name = none) : foundIn (L.map tpair) zeroT name = (.agg #[.int .i64 0, .int .i64 0], false) := by rw [found_timer, h]; rfl
theorem found_some {L : List (Int × Int)} {name e : Int} (h : findT L name = some (e, name)) : foundIn (L.map tpair) zeroT name = (.agg #[.int .i64 e, .int .i64 name], true) := by rw [found_timer, h]; rfl
theorem findT_pair {L : List (Int × Int)} {name : Int} {p : Int × Int} (h : findT L name = some p) : ∃ e, p = (e, name) := ⟨p.1, by have := (findT_mem h).2; rw [← this]⟩

theorem left_no (p : Value) (name : Int) (w : World) (h : NoClock w p) : Calls Try.prog 19 #[p, .int .i64 name] w fun e w' => e = .returned (.int .i64 0) ∧ w = w' := by
  have C := hide (made_no p w h)
  have hp : ∃ a, p = .pointer a := by rcases h with rfl | ⟨g, rfl, _⟩ <;> exact ⟨_, rfl⟩
  obtain ⟨a, rfl⟩ := hp
  clear h
  go_enter Try.func19, Try.ntmps19
  go_wp2_with (fail)
  refine C.out.mono ?_
  rintro e w1 ⟨rfl, rfl⟩
  go_wp2
  go_ret
  exact ⟨rfl, rfl⟩

/-- What is left of a timer. -/
def leftOf (L : List (Int × Int)) (now name : Int) : Int := match findT L name with | some p => p.1 - now | none => 0

section
variable {S : Nat → Prop} {c k b base cnt : Nat} {now : Int} {L : List (Int × Int)}
set_option maxHeartbeats 1000000 in
theorem left_yes (name : Int) (w : World) (h : ClockAt S w c k b base cnt now L) (h1 : -9223372036854775808 ≤ name) (h2 : name < 9223372036854775808) :
    Calls Try.prog 19 #[.pointer (some ⟨c, 0, none⟩), .int .i64 name] w fun e w' => e = .returned (.int .i64 (leftOf L now name)) ∧ Below w.heap.size w w' := by
  have C := hide (made_yes w h)
  have HI := hide (int_key h1 h2)
  have HMAP := hide h.map
  have H := hide h
  obtain ⟨c0, k0, k1, kf⟩ := h.cells
  obtain ⟨hcl, hkl, hbl⟩ := h.klt
  obtain ⟨ht0, ht1⟩ := h.time
  rcases hf : findT L name with _ | p
  · have HR := hide (found_none hf)
    have HE : Hid (leftOf L now name = 0) := by show _ = _; unfold leftOf; rw [hf]
    rw [HE.out]
    clear h hf
    go_enter Try.func19, Try.ntmps19
    go_wp2_with (fail)
    refine C.out.mono ?_
    rintro e w1 ⟨rfl, rfl⟩
    go_wp2_with (at_lookup; refine wpList_lookup_held rfl _ _ 54 rfl 3 60 Try.int_law Try.underlying54 zeroT (by kernel_rfl) b cnt _ rfl HMAP.out name rfl HI.out _ false HR.out ?_)
    go_ret
    exact ⟨rfl, (Below.refl _ _).alloc (Nat.le_refl _) _⟩
  · obtain ⟨e, rfl⟩ := findT_pair hf
    have he := h.ends _ (findT_mem hf).1
    simp only at he
    obtain ⟨he1, he2⟩ := he
    have HR := hide (found_some hf)
    have HE : Hid (leftOf L now name = e - now) := by show _ = _; unfold leftOf; rw [hf]
    rw [HE.out]
    clear h hf
    go_enter Try.func19, Try.ntmps19
    go_wp2_with (fail)
    refine C.out.mono ?_
    rintro e w1 ⟨rfl, rfl⟩
    go_wp2_with (at_lookup; refine wpList_lookup_held rfl _ _ 54 rfl 3 60 Try.int_law Try.underlying54 zeroT (by kernel_rfl) b cnt _ rfl HMAP.out name rfl HI.out _ true HR.out ?_)
    go_quiet (fail)
    go_wp2
    go_ret
    exact ⟨ret_int (by first | rfl | omega), by first | exact ((Below.refl _ _).alloc (Nat.le_refl _) _).trans ⟨rfl, rfl, rfl, Nat.le_refl _, fun _ _ => rfl⟩ | exact ⟨rfl, rfl, rfl, by simp [World.drewN, World.alloc], fun i hi => Below.block ((Below.refl w.heap.size w).alloc (Nat.le_refl _) _) i hi⟩⟩
end

theorem stop_no (p : Value) (name : Int) (w : World) (h : NoClock w p) : Calls Try.prog 16 #[p, .int .i64 name] w fun e w' => e = .returned (.bool false) ∧ w = w' := by
  have C := hide (made_no p w h)
  have hp : ∃ a, p = .pointer a := by rcases h with rfl | ⟨g, rfl, _⟩ <;> exact ⟨_, rfl⟩
  obtain ⟨a, rfl⟩ := hp
  clear h
  go_enter Try.func16, Try.ntmps16
  go_wp2_with (fail)
  refine C.out.mono ?_
  rintro e w1 ⟨rfl, rfl⟩
  go_wp2
  go_ret
  exact ⟨rfl, rfl⟩

/-- What Stop leaves: no timer of that name. -/
def Stopped (S : Nat → Prop) (w : World) (c k b base cnt : Nat) (now : Int) (L : List (Int × Int)) (name : Int) (e : Ending) (w' : World) : Prop :=
  e = .returned (.bool (findT L name).isSome) ∧ ClockAt S w' c k b base cnt now (delT L name) ∧ Turned S w w'

section
variable {S : Nat → Prop} {c k b base cnt : Nat} {now : Int} {L : List (Int × Int)}
theorem HeapAt.drew {w : World} {base k : Nat} {now mp hv : Value} {hs : List (Int × Int)} (h : HeapAt w base k now mp hv hs) : HeapAt w.drew base k now mp hv hs := h.kept (Kept.drew _ _)
/-- The map has turned, and the heap may: the blocks are apart. -/
theorem ClockAt.foot {w : World} (h : ClockAt S w c k b base cnt now L) {hv : Value} {hs : List (Int × Int)} (hh : HeapAt w base k (.int .i64 now) (.map (some b)) hv hs) : ¬ Foot k hv c ∧ ¬ Foot k hv b := by
  have h1 := h.ne
  have h2 := h.lt
  constructor
  · rintro (e | e)
    · exact h1.1 e
    · have := hh.own.lt c e
      omega
  · rintro (e | e)
    · exact h1.2.1 e
    · have := hh.own.lt b e
      omega
theorem ClockAt.stopped {w w2 w3 : World} {e name : Int} {hv : Value} {hs : List (Int × Int)} (h : ClockAt S w c k b base cnt now L) (hf : (e, name) ∈ L) (hh : HeapAt w base k (.int .i64 now) (.map (some b)) hv hs) (hp : hs.Perm L) (hq : ∀ q, hv.ownBlock = some q → S q)
    (ho : w2.ownsMap Try.prog 3 heldR b cnt ((mapD (L.map tpair)).del (.int .i64 name))) (ht : Turned (fun i => i = b) w w2)
    (hr : Removed w2.drew base k (.int .i64 now) (.map (some b)) hv hs (e, name) w3) :
    ClockAt S w3 c k b base cnt now (delT L name) ∧ Turned S w w3 := by
  obtain ⟨hv', hs', a1, a2, a3, a4⟩ := hr
  obtain ⟨n1, n2⟩ := h.foot hh
  have a3' : Turned (Foot k hv) w2 w3 := a3.of_drew
  have hcb := h.ne.2.2
  refine ⟨⟨?_, ?_, ⟨hv', hs', a1, ?_, fun q e => hq q (by rw [← a4]; exact e)⟩, delT_rise h.rise name, h.inn, h.lt, h.ne, h.time, fun p hp' => h.ends p (delT_mem.1 hp').1, Nat.le_trans (List.length_filter_le _ _) h.len⟩, ?_⟩
  · rw [a3'.block c (Nat.lt_of_lt_of_le h.klt.1 ht.size) n1, ht.block c h.klt.1 hcb]
    exact h.cell
  · rw [del_timers] at ho
    obtain ⟨es, clock, hb, rest⟩ := ho
    exact ⟨es, clock, (a3'.block b (lt_of_block hb) n2).trans hb, rest⟩
  · have h1 := delT_perm h.rise hf
    exact (List.perm_cons _).1 (a2.trans (hp.trans h1.symm))
  · refine (ht.mono fun i hi => ?_).trans (a3'.mono fun i hi => ?_)
    · subst hi; exact h.inn.2.2
    · rcases hi with rfl | hi
      · exact h.inn.2.1
      · exact hq i hi
set_option maxHeartbeats 1000000 in
set_option maxRecDepth 100000 in
theorem stop_yes (name : Int) (w : World) (h : ClockAt S w c k b base cnt now L) (h1 : -9223372036854775808 ≤ name) (h2 : name < 9223372036854775808) :
    Calls Try.prog 16 #[.pointer (some ⟨c, 0, none⟩), .int .i64 name] w (Stopped S w c k b base cnt now L name) := by
  have C := hide (made_yes w h)
  have HI := hide (int_key h1 h2)
  have HMAP := hide h.map
  have H := hide h
  obtain ⟨c0, k0, k1, kf⟩ := h.cells
  obtain ⟨hcl, hkl, hbl⟩ := h.klt
  obtain ⟨hv, hs, hh, hp, hq⟩ := h.heap
  have HH := hide hh
  have HP := hide hp
  have HQ := hide hq
  clear hh hp hq
  rcases hf : findT L name with _ | p
  · have HR := hide (found_none hf)
    have HF := hide hf
    clear h hf
    go_enter Try.func16, Try.ntmps16
    go_wp2_with (fail)
    refine C.out.mono ?_
    rintro e w1 ⟨rfl, rfl⟩
    go_wp2_with (at_lookup; refine wpList_lookup_held rfl _ _ 54 rfl 3 60 Try.int_law Try.underlying54 zeroT (by kernel_rfl) b cnt _ rfl HMAP.out name rfl HI.out _ false HR.out ?_)
    go_ret
    have hb : Below w.heap.size w (w.alloc (.cells #[.int .i64 0, .int .i64 0] 60 (0, 0))) := (Below.refl _ _).alloc (Nat.le_refl _) _
    refine ⟨by rw [HF.out]; rfl, ?_, Turned.of_below hb _⟩
    rw [delT_none HF.out]
    exact H.out.later hb
  · obtain ⟨e, rfl⟩ := findT_pair hf
    have HR := hide (found_some hf)
    have HF := hide hf
    clear h hf
    go_enter Try.func16, Try.ntmps16
    go_wp2_with (fail)
    refine C.out.mono ?_
    rintro e w1 ⟨rfl, rfl⟩
    go_wp2_with (first
      | (at_lookup; refine wpList_lookup_held rfl _ _ 54 rfl 3 60 Try.int_law Try.underlying54 zeroT (by kernel_rfl) b cnt _ rfl HMAP.out name rfl HI.out _ true HR.out ?_)
      | (at_delete; refine wpList_delete_own _ rfl _ _ 54 3 rfl 60 Try.int_law Try.underlying54 heldR b cnt (mapD (L.map tpair)) rfl (HMAP.out.alloc _) _ _ rfl HI.out ?_; intro w2 ho2 ht2))
    have L1 : Below w.heap.size w (w.alloc (.cells #[.int .i64 e, .int .i64 name] 60 (0, 0))) := (Below.refl _ _).alloc (Nat.le_refl _) _
    have T2 : Hid (Turned (fun i => i = b) w w2) := (Turned.of_below L1 _).trans (Turned.of_grown ht2.grown fun q e => (Option.some.inj e).symm)
    have HH2 : Hid (HeapAt w2 base k (.int .i64 now) (.map (some b)) hv hs) := HH.out.kept (T2.out.kept fun i hi e => (H.out.foot HH.out).2 (e ▸ hi))
    have X2 : Hid (w2.heap[w.heap.size]? = some (.cells #[.int .i64 e, .int .i64 name] 60 (0, 0))) := (ht2.grown.block w.heap.size (by simp) (by intro e; have := Option.some.inj e; omega)).trans (heap_alloc_new _ _)
    have C2 : Hid (w2.heap[c]? = some (.cells #[.pointer (some ⟨k, 0, none⟩)] 49 (0, 0))) := (T2.out.block c hcl H.out.ne.2.2).trans H.out.cell
    have O2 := hide ho2
    clear L1 ho2 ht2 C HI HMAP HR
    refine wp_region_S (fun j => j == 7) (by kernel_rfl) ?_
    refine wpAnyS_take (i := 0) (d := some 31) (v := ?vaa0) rfl rfl (by kernel_rfl) (by kernel_rfl) (by kernel_rfl) (by kernel_rfl) (by kernel_rfl) (fun _ _ _ h => h) (by rfl) ?yaa0 ?_
    case yaa0 => (intro w' hw'; go_simp; try (with_reducible rfl))
    simp only [Act.put]; try simp only [List.setIfInBounds_toArray]; try simp only [List.set_cons_zero, List.set_cons_succ]
    refine wpAnyS_take (i := 1) (d := some 32) (v := ?vaa1) rfl rfl (by kernel_rfl) (by kernel_rfl) (by kernel_rfl) (by kernel_rfl) (by kernel_rfl) (fun _ _ _ h => h) (by rfl) ?yaa1 ?_
    case yaa1 => (intro w' hw'; go_simp; try (with_reducible rfl))
    simp only [Act.put]; try simp only [List.setIfInBounds_toArray]; try simp only [List.set_cons_zero, List.set_cons_succ]
    refine wpAnyS_take (i := 2) (d := some 33) (v := ?vaa2) rfl rfl (by kernel_rfl) (by kernel_rfl) (by kernel_rfl) (by kernel_rfl) (by kernel_rfl) (fun _ _ _ h => h) (by rfl) ?yaa2 ?_
    case yaa2 => (intro w' hw'; go_simp; try (with_reducible rfl))
    simp only [Act.put]; try simp only [List.setIfInBounds_toArray]; try simp only [List.set_cons_zero, List.set_cons_succ]
    refine wpAnyS_take (i := 3) (d := some 34) (v := ?vaa3) rfl rfl (by kernel_rfl) (by kernel_rfl) (by kernel_rfl) (by kernel_rfl) (by kernel_rfl) (fun _ _ _ h => h) (by rfl) ?yaa3 ?_
    case yaa3 => (intro w' hw'; have hc : w'.heap[c]? = _ := (Below.block hw' c (lt_of_block C2.out)).trans C2.out; have hc0 := cell_of_row w' c 0 _ _ _ hc; simp only [List.getElem?_toArray, List.getElem?_cons_zero] at hc0; clear hc; go_simp; try (with_reducible rfl))
    simp only [Act.put]; try simp only [List.setIfInBounds_toArray]; try simp only [List.set_cons_zero, List.set_cons_succ]
    refine wpAnyS_take (i := 4) (d := some 35) (v := ?vaa4) rfl rfl (by kernel_rfl) (by kernel_rfl) (by kernel_rfl) (by kernel_rfl) (by kernel_rfl) (fun _ _ _ h => h) (by rfl) ?yaa4 ?_
    case yaa4 => (intro w' hw'; go_simp; try (with_reducible rfl))
    simp only [Act.put]; try simp only [List.setIfInBounds_toArray]; try simp only [List.set_cons_zero, List.set_cons_succ]
    refine wpAnyS_take (i := 5) (d := some 36) (v := ?vaa5) rfl rfl (by kernel_rfl) (by kernel_rfl) (by kernel_rfl) (by kernel_rfl) (by kernel_rfl) (fun _ _ _ h => h) (by rfl) ?yaa5 ?_
    case yaa5 => (intro w' hw'; go_simp; try (with_reducible rfl))
    simp only [Act.put]; try simp only [List.setIfInBounds_toArray]; try simp only [List.set_cons_zero, List.set_cons_succ]
    refine wpAnyS_take (i := 6) (d := some 37) (v := .agg #[.int .i64 e, .int .i64 name]) rfl rfl (by kernel_rfl) (by kernel_rfl) (by kernel_rfl) (by kernel_rfl) (by kernel_rfl) (fun _ _ _ h => h) (by rfl) ?yaa6 ?_
    case yaa6 => (intro w' hw'; exact exec_load_box 60 _ (by rfl) w.heap.size 0 (by rfl) 60 _ ((Below.block hw' w.heap.size (lt_of_block X2.out)).trans X2.out) 2 _ Try.underlying60 (by rfl) (by kernel_rfl) (tcell (e, name)) (by rfl) (by rfl))
    simp only [Act.put]; try simp only [List.setIfInBounds_toArray]; try simp only [List.set_cons_zero, List.set_cons_succ]
    refine wpAnyS_write (i := 7) rfl rfl (by kernel_rfl) (by rfl) fun K hK => ?_
    go_simp
    refine (remove_any base k _ _ hv hs (e, name) w2.drew HH2.out.drew (HP.out.mem_iff.2 (findT_mem HF.out).1)).mono ?_
    rintro e w3 ⟨rfl, hr3⟩
    have HR3 := hide hr3
    clear hr3
    refine hK.out _ _ ?_
    clear hK K
    try (simp only [Act.put]; try simp only [List.setIfInBounds_toArray]; try simp only [List.set_cons_zero, List.set_cons_succ])
    refine wpAnyS_done (by kernel_rfl) ?_ _
    have HE := hide (H.out.stopped (findT_mem HF.out).1 HH.out HP.out HQ.out O2.out T2.out HR3.out)
    go_wp2
    go_ret
    exact ⟨by rw [HF.out]; rfl, HE.out.1, HE.out.2⟩
end
end Go.Proofs.Ythimdmgimlhbaaa
