/- A clock in memory: its ticks, its timers by names in a map, the same ones in a heap; New, made, Now, Left. -/
import Derived.Test.YthimdmgimlhbaaaRemove
import Derived.Test.YthimdmgimlhbaaaMapHeld
import Derived.Test.YthimdmgimlhbaaaRefInts
namespace Go.Proofs.Ythimdmgimlhbaaa
open Go.RowKit Go.Maps

/-- A timer as an entry of the map. -/
def tpair (p : Int × Int) : Int × Value := (p.2, tagg p)
/-- The timer of that name. -/
def findT (L : List (Int × Int)) (name : Int) : Option (Int × Int) := L.find? (fun p => p.2 == name)
/-- Those of other names. -/
def delT (L : List (Int × Int)) (name : Int) : List (Int × Int) := L.filter (fun p => !(p.2 == name))
/-- One more, at its place. -/
def insT (t : Int × Int) : List (Int × Int) → List (Int × Int)
  | [] => [t]
  | y :: r => if t.2 < y.2 then t :: y :: r else y :: insT t r

theorem found_timer (L : List (Int × Int)) (z : Value) (name : Int) : foundIn (L.map tpair) z name = match findT L name with | some p => (tagg p, true) | none => (z, false) := by
  unfold foundIn findT
  rw [List.find?_map]
  show (match (L.find? (fun p => p.2 == name)).map tpair with | some p => (p.2, true) | none => (z, false)) = _
  cases L.find? (fun p => p.2 == name) <;> rfl
theorem findT_mem {L : List (Int × Int)} {name : Int} {p : Int × Int} (h : findT L name = some p) : p ∈ L ∧ p.2 = name := by
  unfold findT at h
  exact ⟨List.mem_of_find?_eq_some h, by simpa using List.find?_some h⟩
theorem findT_none {L : List (Int × Int)} {name : Int} (h : findT L name = none) : ∀ p ∈ L, p.2 ≠ name := by
  unfold findT at h
  intro p hp
  have := List.find?_eq_none.1 h p hp
  simpa using this
theorem delT_none {L : List (Int × Int)} {name : Int} (h : findT L name = none) : delT L name = L := by
  unfold delT
  rw [List.filter_eq_self]
  intro p hp
  have := findT_none h p hp
  simpa using this
theorem delT_mem {L : List (Int × Int)} {name : Int} {p : Int × Int} : p ∈ delT L name ↔ p ∈ L ∧ p.2 ≠ name := by simp [delT]
theorem insT_perm (t : Int × Int) : ∀ L : List (Int × Int), (insT t L).Perm (L ++ [t])
  | [] => List.Perm.refl _
  | y :: r => by
    unfold insT
    split
    · exact (List.perm_append_comm (l₁ := [t]) (l₂ := y :: r))
    · exact List.Perm.cons y (insT_perm t r)
theorem insT_mem {t p : Int × Int} {L : List (Int × Int)} : p ∈ insT t L ↔ p ∈ L ∨ p = t := by
  rw [(insT_perm t L).mem_iff, List.mem_append, List.mem_singleton]
theorem insT_rise {t : Int × Int} : ∀ {L : List (Int × Int)}, L.Pairwise (fun p q => p.2 < q.2) → (∀ p ∈ L, p.2 ≠ t.2) → (insT t L).Pairwise (fun p q => p.2 < q.2)
  | [], _, _ => by simp [insT]
  | y :: r, h, hn => by
    obtain ⟨h1, h2⟩ := List.pairwise_cons.1 h
    have hy := hn y (by simp)
    unfold insT
    split
    · rename_i hlt
      refine List.pairwise_cons.2 ⟨fun q hq => ?_, h⟩
      rcases List.mem_cons.1 hq with rfl | hq
      · exact hlt
      · have := h1 q hq
        omega
    · refine List.pairwise_cons.2 ⟨fun q hq => ?_, insT_rise h2 fun p hp => hn p (by simp [hp])⟩
      rcases insT_mem.1 hq with hq | rfl
      · exact h1 q hq
      · omega
theorem delT_rise {L : List (Int × Int)} (h : L.Pairwise (fun p q => p.2 < q.2)) (name : Int) : (delT L name).Pairwise (fun p q => p.2 < q.2) := h.filter _
/-- Each name stands once. -/
theorem rise_one {L : List (Int × Int)} (h : L.Pairwise (fun p q => p.2 < q.2)) {p q : Int × Int} (hp : p ∈ L) (hq : q ∈ L) (he : p.2 = q.2) : p = q := by
  induction L with
  | nil => cases hp
  | cons y r ih =>
    obtain ⟨h1, h2⟩ := List.pairwise_cons.1 h
    rcases List.mem_cons.1 hp with rfl | hp' <;> rcases List.mem_cons.1 hq with rfl | hq'
    · rfl
    · have := h1 q hq'; omega
    · have := h1 p hp'; omega
    · exact ih h2 hp' hq'
theorem delT_perm {L : List (Int × Int)} (h : L.Pairwise (fun p q => p.2 < q.2)) {p : Int × Int} (hp : p ∈ L) : (p :: delT L p.2).Perm L := by
  induction L with
  | nil => cases hp
  | cons y r ih =>
    obtain ⟨h1, h2⟩ := List.pairwise_cons.1 h
    unfold delT
    rw [List.filter_cons]
    rcases List.mem_cons.1 hp with rfl | hp'
    · rw [if_neg (by simp)]
      have e : r.filter (fun q => !(q.2 == p.2)) = r := by
        rw [List.filter_eq_self]
        intro q hq
        have := h1 q hq
        simp
        omega
      rw [e]
    · have := h1 p hp'
      rw [if_pos (by simp; omega)]
      exact (List.Perm.swap _ _ _).trans (List.Perm.cons y (ih h2 hp'))

theorem del_timers (L : List (Int × Int)) (name : Int) : (mapD (L.map tpair)).del (.int .i64 name) = mapD ((delT L name).map tpair) := by
  rw [del_mapD]
  congr 1
  unfold delT
  rw [List.filter_map]
  rfl
theorem put_timers (t : Int × Int) (L : List (Int × Int)) (hn : ∀ p ∈ L, p.2 ≠ t.2) : (mapD (L.map tpair)).put (.int .i64 t.2) (.held (tagg t)) = mapD ((insT t L).map tpair) := by
  unfold mapD
  show DataW.map (DataW.insert _ _) = _
  have e : ((L.map tpair).map fun p : Int × Value => ((.int .i64 p.1, .held p.2) : Lit × DataW Value)).filter (fun p => !p.1.sameKey (.int .i64 t.2)) = (L.map tpair).map fun p => (.int .i64 p.1, .held p.2) := by
    rw [List.filter_eq_self]
    intro p hp
    obtain ⟨q, hq, rfl⟩ := List.mem_map.1 hp
    obtain ⟨r, hr, rfl⟩ := List.mem_map.1 hq
    have := hn r hr
    simp [Lit.sameKey, tpair]
    omega
  rw [e]
  congr 1
  clear e
  induction L with
  | nil => rfl
  | cons y r ih =>
    have hy := hn y (by simp)
    have hb : (Lit.int IntKind.i64 t.2).before (.int .i64 y.2) = decide (t.2 < y.2) := rfl
    simp only [List.map_cons, insT]
    unfold DataW.insert
    by_cases hlt : t.2 < y.2
    · rw [if_pos hlt]
      split
      · rfl
      · rename_i hc
        exact absurd (hb.trans (by simpa using hlt)) hc
    · rw [if_neg hlt]
      split
      · rename_i hc
        exact absurd (hb.symm.trans hc) (by simpa using hlt)
      · simp only [List.map_cons]
        congr 1
        exact ih fun p hp => hn p (by simp [hp])

theorem Try.int_law : Keyed Try.prog 3 := int_keyed Try.underlying3
theorem int_key {a : Int} (h1 : -9223372036854775808 ≤ a) (h2 : a < 9223372036854775808) : keyOf Try.prog 3 (.int .i64 a) = some (.int .i64 a) := keyOf_int_mk Try.underlying3 (WalkArith.wf_i64 (by omega))

/-- The blocks c, k and b hold a clock: S holds of all that it may write. -/
structure ClockAt (S : Nat → Prop) (w : World) (c k b base cnt : Nat) (now : Int) (L : List (Int × Int)) : Prop where
  cell : w.heap[c]? = some (.cells #[.pointer (some ⟨k, 0, none⟩)] 49 (0, 0))
  map : w.ownsMap Try.prog 3 heldR b cnt (mapD (L.map tpair))
  heap : ∃ hv hs, HeapAt w base k (.int .i64 now) (.map (some b)) hv hs ∧ hs.Perm L ∧ ∀ q, hv.ownBlock = some q → S q
  rise : L.Pairwise (fun p q => p.2 < q.2)
  inn : S c ∧ S k ∧ S b
  lt : c < base ∧ b < base
  ne : c ≠ k ∧ b ≠ k ∧ c ≠ b
  time : 0 ≤ now ∧ now ≤ 1000000
  ends : ∀ p ∈ L, now ≤ p.1 ∧ p.1 ≤ now + 100000
  len : L.length ≤ 100
section
variable {S T : Nat → Prop} {w w' : World} {c k b base cnt : Nat} {now : Int} {L : List (Int × Int)}
theorem ClockAt.kept (h : ClockAt S w c k b base cnt now L) (hk : Kept S w w') : ClockAt S w' c k b base cnt now L := by
  obtain ⟨hv, hs, h1, h2, h3⟩ := h.heap
  refine ⟨(hk.2 c (lt_of_block h.cell) h.inn.1).trans h.cell, ?_, ⟨hv, hs, h1.kept (hk.mono fun i _ hi => ?_), h2, h3⟩, h.rise, h.inn, h.lt, h.ne, h.time, h.ends, h.len⟩
  · obtain ⟨es, clock, hb, rest⟩ := h.map
    exact ⟨es, clock, (hk.2 b (lt_of_block hb) h.inn.2.2).trans hb, rest⟩
  · rcases hi with rfl | hi
    · exact h.inn.2.1
    · exact h3 i hi
theorem ClockAt.later (h : ClockAt S w c k b base cnt now L) (hb : Below w.heap.size w w') : ClockAt S w' c k b base cnt now L := h.kept (Kept.of_below hb _)
theorem ClockAt.mono (h : ClockAt S w c k b base cnt now L) (hs : ∀ i, S i → T i) : ClockAt T w c k b base cnt now L := by
  obtain ⟨hv, hs', h1, h2, h3⟩ := h.heap
  exact ⟨h.cell, h.map, ⟨hv, hs', h1, h2, fun q e => hs q (h3 q e)⟩, h.rise, ⟨hs _ h.inn.1, hs _ h.inn.2.1, hs _ h.inn.2.2⟩, h.lt, h.ne, h.time, h.ends, h.len⟩
theorem ClockAt.kcell (h : ClockAt S w c k b base cnt now L) : ∃ hv, w.heap[k]? = some (.cells #[.int .i64 now, .map (some b), hv] 58 (0, 0)) := by
  obtain ⟨hv, hs', h1, _⟩ := h.heap
  exact ⟨hv, h1.cell⟩
theorem ClockAt.klt (h : ClockAt S w c k b base cnt now L) : c < w.heap.size ∧ k < w.heap.size ∧ b < w.heap.size := by
  obtain ⟨hv, hc⟩ := h.kcell
  exact ⟨lt_of_block h.cell, lt_of_block hc, h.map.lt⟩
theorem ClockAt.cells (h : ClockAt S w c k b base cnt now L) : w.cell? ⟨c, 0, none⟩ = some (.pointer (some ⟨k, 0, none⟩)) ∧ w.cell? ⟨k, 0, none⟩ = some (.int .i64 now) ∧ w.cell? ⟨k, 1, none⟩ = some (.map (some b)) ∧ w.frozen? ⟨k, 0, none⟩ = false := by
  obtain ⟨hv, hc⟩ := h.kcell
  exact ⟨cell_of_row w c 0 _ _ _ h.cell, cell_of_row w k 0 _ _ _ hc, cell_of_row w k 1 _ _ _ hc, frozen_of_row w k 0 _ _ hc⟩
theorem ClockAt.t64 (h : ClockAt S w c k b base cnt now L) : ∀ p ∈ L, T64 p := by
  obtain ⟨hv, hs, h1, h2, _⟩ := h.heap
  exact fun p hp => h1.t64 p (h2.mem_iff.2 hp)
end

/-- A clock that no call made: nil, or one without its parts. -/
def NoClock (w : World) (p : Value) : Prop := p = .pointer none ∨ ∃ c, p = .pointer (some ⟨c, 0, none⟩) ∧ w.heap[c]? = some (.cells #[.pointer none] 49 (0, 0))
theorem NoClock.later {w w' : World} {p : Value} (h : NoClock w p) (hb : Below w.heap.size w w') : NoClock w' p :=
  h.imp id fun ⟨c, e, hc⟩ => ⟨c, e, (hb.block c (lt_of_block hc)).trans hc⟩

theorem made_no (p : Value) (w : World) (h : NoClock w p) : Calls Try.prog 23 #[p] w fun e w' => e = .returned (.bool false) ∧ w = w' := by
  rcases h with rfl | ⟨c, rfl, hc⟩
  · go_enter Try.func23, Try.ntmps23
    go_wp2
    go_ret
    exact ⟨rfl, rfl⟩
  · have c0 := cell_of_row w c 0 _ _ _ hc
    simp only [List.getElem?_toArray, List.getElem?_cons_zero] at c0
    clear hc
    go_enter Try.func23, Try.ntmps23
    go_wp2
    go_ret
    exact ⟨rfl, rfl⟩
theorem made_yes {S : Nat → Prop} {c k b base cnt : Nat} {now : Int} {L : List (Int × Int)} (w : World) (h : ClockAt S w c k b base cnt now L) :
    Calls Try.prog 23 #[.pointer (some ⟨c, 0, none⟩)] w fun e w' => e = .returned (.bool true) ∧ w = w' := by
  obtain ⟨c0, _, _, _⟩ := h.cells
  clear h
  go_enter Try.func23, Try.ntmps23
  go_wp2
  go_ret
  exact ⟨rfl, rfl⟩

theorem heap_at {w : World} {n : Nat} (o : Obj) (h : n = w.heap.size) : (w.alloc o).heap[n]? = some o := by
  subst h
  exact heap_alloc_new _ _
/-- What New hands back. -/
def NewClock (w : World) (e : Ending) (w' : World) : Prop :=
  ∃ c k b, e = .returned (.pointer (some ⟨c, 0, none⟩)) ∧ Below w.heap.size w w' ∧ ClockAt (fun i => w.heap.size ≤ i ∧ i < w'.heap.size) w' c k b w'.heap.size 0 0 []
theorem new_any (w : World) : Calls Try.prog 10 #[] w (NewClock w) := by
  have hmm := @run_makeMap Try.prog
  go_enter Try.func10, Try.ntmps10
  go_wp2
  go_ret
  refine ⟨w.heap.size + 2, w.heap.size + 1, w.heap.size, rfl, (((Below.refl _ _).alloc (Nat.le_refl _) _).alloc (by simp) _).alloc (by simp; omega) _, ?_⟩
  have hsz : ∀ o1 o2 o3 : Obj, (((w.alloc o1).alloc o2).alloc o3).heap.size = w.heap.size + 3 := fun _ _ _ => by simp
  refine ⟨?_, ?_, ⟨.slice none 0 0, [], ⟨?_, ?_, Nat.le_refl _, World.ownsRow_nil _ _ _ _, fun k hk => by simp at hk, by simp, by simp⟩, List.Perm.refl _, fun q e => by simp [Value.ownBlock] at e⟩, List.Pairwise.nil, ?_, ?_, by omega, by omega, by simp, by simp⟩
  · exact heap_at _ (by simp)
  · exact ((World.ownsMap_made w Try.prog 3 heldR).alloc _).alloc _
  · exact (heap_alloc_old _ _ (by simp)).trans (heap_at _ (by simp))
  · rw [hsz]; omega
  · simp only [hsz]; omega
  · simp only [hsz]; omega

theorem now_no (p : Value) (w : World) (h : NoClock w p) : Calls Try.prog 18 #[p] w fun e w' => e = .returned (.int .i64 0) ∧ w = w' := by
  have C := hide (made_no p w h)
  have hp : ∃ a, p = .pointer a := by rcases h with rfl | ⟨g, rfl, _⟩ <;> exact ⟨_, rfl⟩
  obtain ⟨a, rfl⟩ := hp
  clear h
  go_enter Try.func18, Try.ntmps18
  go_wp2_with (fail)
  refine C.out.mono ?_
  rintro e w1 ⟨rfl, rfl⟩
  go_wp2
  go_ret
  exact ⟨rfl, rfl⟩
theorem now_yes {S : Nat → Prop} {c k b base cnt : Nat} {now : Int} {L : List (Int × Int)} (w : World) (h : ClockAt S w c k b base cnt now L) :
    Calls Try.prog 18 #[.pointer (some ⟨c, 0, none⟩)] w fun e w' => e = .returned (.int .i64 now) ∧ w = w' := by
  have C := hide (made_yes w h)
  obtain ⟨c0, k0, _, _⟩ := h.cells
  clear h
  go_enter Try.func18, Try.ntmps18
  go_wp2_with (fail)
  refine C.out.mono ?_
  rintro e w1 ⟨rfl, rfl⟩
  go_wp2
  go_ret
  exact ⟨rfl, rfl⟩
end Go.Proofs.Ythimdmgimlhbaaa
