/- A clock as the statements see it: its ticks, its timers, and the blocks that it may write, all of the call's own. -/
import Derived.Test.YthimdmgimlhbaaaTick
namespace Go.Proofs.Ythimdmgimlhbaaa
open Go.RowKit Go.Maps

/-- The clock at c: S holds of the blocks that it may write, all from B on. -/
def Clk (B : Nat) (S : Nat → Prop) (w : World) (c : Nat) (now : Int) (L : List (Int × Int)) (N : Nat) : Prop :=
  (∀ i, S i → B ≤ i ∧ i < w.heap.size) ∧ ∃ k b base cnt, cnt ≤ N ∧ ClockAt S w c k b base cnt now L
section
variable {B c N : Nat} {S : Nat → Prop} {w w' : World} {now : Int} {L : List (Int × Int)}
theorem Clk.kept (h : Clk B S w c now L N) (hk : Kept S w w') : Clk B S w' c now L N :=
  ⟨fun i hi => ⟨(h.1 i hi).1, Nat.lt_of_lt_of_le (h.1 i hi).2 hk.1⟩, let ⟨k, b, base, cnt, hc, hh⟩ := h.2; ⟨k, b, base, cnt, hc, hh.kept hk⟩⟩
theorem Clk.later (h : Clk B S w c now L N) (hb : Below w.heap.size w w') : Clk B S w' c now L N := h.kept (Kept.of_below hb _)
theorem Clk.more (h : Clk B S w c now L N) {M : Nat} (hm : N ≤ M) : Clk B S w c now L M := ⟨h.1, let ⟨k, b, base, cnt, hc, hh⟩ := h.2; ⟨k, b, base, cnt, Nat.le_trans hc hm, hh⟩⟩
theorem Clk.low (h : Clk B S w c now L N) : B ≤ w.heap.size := by
  obtain ⟨h1, k, b, base, cnt, _, hh⟩ := h
  have := h1 c hh.inn.1
  omega
theorem Clk.below (h : Clk B S w c now L N) (ht : Turned S w w') : Below B w w' := ht.below (fun i hi => (h.1 i hi).1) h.low
theorem Clk.len (h : Clk B S w c now L N) : L.length ≤ 100 := let ⟨_, _, _, _, _, _, hh⟩ := h; hh.len
theorem Clk.t64 (h : Clk B S w c now L N) : ∀ p ∈ L, T64 p := let ⟨_, _, _, _, _, _, hh⟩ := h; hh.t64
theorem Clk.rise (h : Clk B S w c now L N) : L.Pairwise (fun p q => p.2 < q.2) := let ⟨_, _, _, _, _, _, hh⟩ := h; hh.rise
theorem Clk.time (h : Clk B S w c now L N) : 0 ≤ now ∧ now ≤ 1000000 := let ⟨_, _, _, _, _, _, hh⟩ := h; hh.time
/-- What lies in blocks that it may not write is as it was. -/
theorem own_apart {base e size n : Nat} {v : Value} {xs : List Value} (ho : w.ownsRow base e size v n xs) (ht : Turned S w w') (hS : ∀ q, v.ownBlock = some q → ¬ S q) : w'.ownsRow base e size v n xs := by
  refine ⟨ho.1, ?_⟩
  rcases ho.2 with h0 | ⟨g, cap, cur, e', a1, a2, a3⟩
  · exact .inl h0
  · exact .inr ⟨g, cap, cur, e', a1, (ht.block g (lt_of_block a2) (hS g (by rw [e']; rfl))).trans a2, a3⟩

/-- What New hands back. -/
def ClkNew (w : World) (e : Ending) (w' : World) : Prop := ∃ c S, e = .returned (.pointer (some ⟨c, 0, none⟩)) ∧ Below w.heap.size w w' ∧ Clk w.heap.size S w' c 0 [] 0
theorem clk_new (w : World) : Calls Try.prog 10 #[] w (ClkNew w) :=
  (new_any w).mono fun _ _ ⟨c, k, b, he, hb, hc⟩ => ⟨c, _, he, hb, fun _ hi => hi, k, b, _, 0, Nat.le_refl _, hc⟩

/-- What Set hands back where the time is one. -/
def ClkSet (B : Nat) (S : Nat → Prop) (w : World) (c : Nat) (now : Int) (L' : List (Int × Int)) (N : Nat) (e : Ending) (w' : World) : Prop :=
  ∃ S', e = .returned (.int .i64 0) ∧ Clk B S' w' c now L' (N + 1) ∧ Turned S w w' ∧ ∀ i, S' i → S i ∨ w.heap.size ≤ i
theorem clk_set (name after : Int) (h : Clk B S w c now L N) (h1 : -9223372036854775808 ≤ name) (h2 : name < 9223372036854775808) (ha1 : 1 ≤ after) (ha2 : after ≤ 100000) (hl : findT L name ≠ none ∨ L.length < 100) (hN : N ≤ 1000000) :
    Calls Try.prog 14 #[.pointer (some ⟨c, 0, none⟩), .int .i64 name, .int .i64 after] w (ClkSet B S w c now (insT (now + after, name) (delT L name)) N) := by
  have hlow := h.low
  obtain ⟨hS, k, b, base, cnt, hc, hh⟩ := h
  refine (set_ok name after w hh h1 h2 ha1 ha2 hl (by omega)).mono fun e w' ⟨he, hc', ht⟩ => ⟨_, he, ⟨fun i hi => ?_, k, b, base, cnt + 1, by omega, hc'⟩, ht, fun i hi => hi.imp id fun h => h.1⟩
  have hsz := ht.size
  rcases hi with hi | hi
  · have := hS i hi
    exact ⟨this.1, by omega⟩
  · exact ⟨by omega, hi.2⟩
theorem clk_range (name after : Int) (h : Clk B S w c now L N) (ha : after < 1 ∨ 100000 < after) :
    Calls Try.prog 14 #[.pointer (some ⟨c, 0, none⟩), .int .i64 name, .int .i64 after] w fun e w' => e = .returned (.int .i64 15) ∧ w = w' := by
  obtain ⟨hS, k, b, base, cnt, hc, hh⟩ := h
  exact set_range name after w hh ha
theorem clk_full (name after : Int) (h : Clk B S w c now L N) (h1 : -9223372036854775808 ≤ name) (h2 : name < 9223372036854775808) (ha1 : 1 ≤ after) (ha2 : after ≤ 100000) (hf : findT L name = none) (hl : L.length = 100) :
    Calls Try.prog 14 #[.pointer (some ⟨c, 0, none⟩), .int .i64 name, .int .i64 after] w fun e w' => e = .returned (.int .i64 7) ∧ Below w.heap.size w w' := by
  obtain ⟨hS, k, b, base, cnt, hc, hh⟩ := h
  exact set_full name after w hh h1 h2 ha1 ha2 hf hl
def ClkStop (B : Nat) (S : Nat → Prop) (w : World) (c : Nat) (now : Int) (L : List (Int × Int)) (N : Nat) (name : Int) (e : Ending) (w' : World) : Prop :=
  e = .returned (.bool (findT L name).isSome) ∧ Clk B S w' c now (delT L name) N ∧ Turned S w w'
theorem clk_stop (name : Int) (h : Clk B S w c now L N) (h1 : -9223372036854775808 ≤ name) (h2 : name < 9223372036854775808) :
    Calls Try.prog 16 #[.pointer (some ⟨c, 0, none⟩), .int .i64 name] w (ClkStop B S w c now L N name) := by
  obtain ⟨hS, k, b, base, cnt, hc, hh⟩ := h
  exact (stop_yes name w hh h1 h2).mono fun e w' ⟨he, hc', ht⟩ => ⟨he, ⟨fun i hi => ⟨(hS i hi).1, Nat.lt_of_lt_of_le (hS i hi).2 ht.size⟩, k, b, base, cnt, hc, hc'⟩, ht⟩
/-- What Tick hands back. -/
def ClkTick (B : Nat) (S : Nat → Prop) (w : World) (c : Nat) (now : Int) (L : List (Int × Int)) (N : Nat) (e : Ending) (w' : World) : Prop :=
  ∃ A n cp, e = .returned (.slice A n cp) ∧ w'.ownsRow w.heap.size 3 1 (.slice A n cp) n (ivs (namesT (dueT L (now + 1)))) ∧ IHolds w' w'.heap.size A n (namesT (dueT L (now + 1))) ∧ n ≤ cp ∧
    Clk B S w' c (now + 1) (restT L (now + 1)) N ∧ Turned S w w'
theorem clk_tick (h : Clk B S w c now L N) (hlt : ∀ p ∈ L, now < p.1) (hnow : now < 1000000) : Calls Try.prog 12 #[.pointer (some ⟨c, 0, none⟩)] w (ClkTick B S w c now L N) := by
  obtain ⟨hS, k, b, base, cnt, hc, hh⟩ := h
  exact (tick_yes w hh (fun i hi => (hS i hi).2) hlt hnow).mono fun e w' ⟨A, n, cp, he, ho, hi', hn, hc', ht⟩ =>
    ⟨A, n, cp, he, ho, hi', hn, ⟨fun i hi => ⟨(hS i hi).1, Nat.lt_of_lt_of_le (hS i hi).2 ht.size⟩, k, b, base, cnt, hc, hc'⟩, ht⟩
theorem clk_now (h : Clk B S w c now L N) : Calls Try.prog 18 #[.pointer (some ⟨c, 0, none⟩)] w fun e w' => e = .returned (.int .i64 now) ∧ w = w' := by
  obtain ⟨hS, k, b, base, cnt, hc, hh⟩ := h
  exact now_yes w hh
theorem clk_left (name : Int) (h : Clk B S w c now L N) (h1 : -9223372036854775808 ≤ name) (h2 : name < 9223372036854775808) :
    Calls Try.prog 19 #[.pointer (some ⟨c, 0, none⟩), .int .i64 name] w fun e w' => e = .returned (.int .i64 (leftOf L now name)) ∧ Below w.heap.size w w' := by
  obtain ⟨hS, k, b, base, cnt, hc, hh⟩ := h
  exact left_yes name w hh h1 h2
theorem clk_names (h : Clk B S w c now L N) : Calls Try.prog 21 #[.pointer (some ⟨c, 0, none⟩)] w (NewInts w (namesT L)) := by
  obtain ⟨hS, k, b, base, cnt, hc, hh⟩ := h
  exact names_yes w hh
/-- Those that a tick leaves are over later. -/
theorem rest_later {L : List (Int × Int)} {at_ : Int} : ∀ p ∈ restT L at_, at_ < p.1 := by
  intro p hp
  have := (List.mem_filter.1 hp).2
  simp at this
  omega
end
end Go.Proofs.Ythimdmgimlhbaaa
