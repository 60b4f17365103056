/- The document's table in memory: a row for each client; Is, Last, Done, Ask, Start, Finish, Forget. -/
import Derived.Test.YtmakibpbodfchaaTabC
namespace Go.Proofs.Ytmakibpbodfchaa
open Go.RowKit

/-- A row of the document's: the last request that is known, its reply, the one that waits. -/
structure RRow where
  known : Int
  rep : Rep
  wait : Int
def RRow.cells (m : RRow) : List Value := [.int .i64 m.known, .int .i64 m.rep.err, .int .i64 m.rep.saga, .int .i64 m.rep.st, .int .i64 m.rep.step, .int .i64 m.wait]
def RRow.zero : RRow := ⟨0, .zero, 0⟩
def RRow.abs (m : RRow) : Mry := ⟨max m.wait m.known, m.known, m.rep⟩
structure RTab where
  a : RRow
  b : RRow
  c : RRow
  d : RRow
def RTab.zero : RTab := ⟨.zero, .zero, .zero, .zero⟩
def RTab.cells (R : RTab) : List Value := R.a.cells ++ R.b.cells ++ R.c.cells ++ R.d.cells
def RTab.abs (R : RTab) : Tab := ⟨R.a.abs, R.b.abs, R.c.abs, R.d.abs⟩
def RTab.get (R : RTab) (c : Int) : RRow := if c = 1 then R.a else if c = 2 then R.b else if c = 3 then R.c else R.d
def RTab.put (R : RTab) (c : Int) (m : RRow) : RTab := if c = 1 then ⟨m, R.b, R.c, R.d⟩ else if c = 2 then ⟨R.a, m, R.c, R.d⟩ else if c = 3 then ⟨R.a, R.b, m, R.d⟩ else ⟨R.a, R.b, R.c, m⟩
def RTab.ok (R : RTab) : Prop := 0 ≤ R.a.known ∧ 0 ≤ R.b.known ∧ 0 ≤ R.c.known ∧ 0 ≤ R.d.known
theorem abs_get (R : RTab) {c : Int} (h : isC c = true) : R.abs.of c = (R.get c).abs := by
  unfold Tab.of
  rw [if_pos h]
  rcases isC_cases h with rfl | rfl | rfl | rfl <;> rfl
theorem abs_put (R : RTab) {c : Int} (h : isC c = true) (m : RRow) : (R.put c m).abs = R.abs.put c m.abs := by
  rcases isC_cases h with rfl | rfl | rfl | rfl <;> rfl
theorem get_ok {R : RTab} (hR : R.ok) (c : Int) : 0 ≤ (R.get c).known := by
  obtain ⟨h1, h2, h3, h4⟩ := hR
  unfold RTab.get
  split
  · exact h1
  · split
    · exact h2
    · split
      · exact h3
      · exact h4
theorem put_ok {R : RTab} (hR : R.ok) {c : Int} (h : isC c = true) {m : RRow} (hm : 0 ≤ m.known) : (R.put c m).ok := by
  obtain ⟨h1, h2, h3, h4⟩ := hR
  rcases isC_cases h with rfl | rfl | rfl | rfl
  · exact ⟨hm, h2, h3, h4⟩
  · exact ⟨h1, hm, h3, h4⟩
  · exact ⟨h1, h2, hm, h4⟩
  · exact ⟨h1, h2, h3, hm⟩

/-- The block g holds these rows; it is the document's table of T. -/
def RRaw (w : World) (g : Nat) (R : RTab) : Prop := w.heap[g]? = some (.cells R.cells.toArray 34 (0, 0))
def RAt (w : World) (g : Nat) (T : Tab) : Prop := ∃ R : RTab, R.abs = T ∧ R.ok ∧ RRaw w g R
section
variable {w w' : World} {g : Nat} {R : RTab} {T : Tab}
theorem RRaw.lt (h : RRaw w g R) : g < w.heap.size := lt_of_block h
theorem RRaw.later (h : RRaw w g R) (hb : Below w.heap.size w w') : RRaw w' g R := (hb.block g h.lt).trans h
theorem RAt.lt (h : RAt w g T) : g < w.heap.size := h.elim fun _ h => h.2.2.lt
theorem RAt.later (h : RAt w g T) (hb : Below w.heap.size w w') : RAt w' g T := by
  obtain ⟨R, h1, h2, h3⟩ := h
  exact ⟨R, h1, h2, h3.later hb⟩
theorem RAt.other (h : RAt w g T) {r : Option Nat} (hg : w.grownBy w' r) (hr : some g ≠ r) : RAt w' g T := by
  obtain ⟨R, h1, h2, h3⟩ := h
  exact ⟨R, h1, h2, (hg.block g h3.lt hr).trans h3⟩
end
theorem rtab_part (R : RTab) {c : Int} (h : isC c = true) : (R.cells.toArray.toList.drop ((c.toNat - 1) * 6)).take 6 = (R.get c).cells := by
  rcases isC_cases h with rfl | rfl | rfl | rfl <;> rfl
theorem rtab_reply (R : RTab) {c : Int} (h : isC c = true) : (R.cells.toArray.toList.drop ((c.toNat - 1) * 6 + 1)).take 4 = (R.get c).rep.cells := by
  rcases isC_cases h with rfl | rfl | rfl | rfl <;> rfl
theorem rtab_wait (R : RTab) {c : Int} (h : isC c = true) (r : Int) : R.cells.set ((c.toNat - 1) * 6 + 5) (.int .i64 r) = (R.put c ⟨(R.get c).known, (R.get c).rep, r⟩).cells := by
  rcases isC_cases h with rfl | rfl | rfl | rfl <;> simp [RTab.put, RTab.get, RTab.cells, RRow.cells]
theorem rtab_known (R : RTab) {c : Int} (h : isC c = true) (r : Int) (x : Rep) :
    (((((R.cells.set ((c.toNat - 1) * 6) (.int .i64 r)).set ((c.toNat - 1) * 6 + 1) (.int .i64 x.err)).set ((c.toNat - 1) * 6 + 2) (.int .i64 x.saga)).set ((c.toNat - 1) * 6 + 3) (.int .i64 x.st)).set ((c.toNat - 1) * 6 + 4) (.int .i64 x.step)) = (R.put c ⟨r, x, (R.get c).wait⟩).cells := by
  rcases isC_cases h with rfl | rfl | rfl | rfl <;> simp [RTab.put, RTab.get, RTab.cells, RRow.cells]
theorem rtab_cell (R : RTab) {c : Int} (h : isC c = true) {j : Nat} (hj : j < 6) : R.cells.toArray[(c.toNat - 1) * 6 + j]? = (R.get c).cells[j]? := by
  have : j = 0 ∨ j = 1 ∨ j = 2 ∨ j = 3 ∨ j = 4 ∨ j = 5 := by omega
  rcases isC_cases h with rfl | rfl | rfl | rfl <;> rcases this with rfl | rfl | rfl | rfl | rfl | rfl <;> rfl
theorem RRaw.cell {w : World} {g : Nat} {R : RTab} (hg : RRaw w g R) {c : Int} (h : isC c = true) {j : Nat} (hj : j < 6) : w.cell? ⟨g, (c.toNat - 1) * 6 + j, none⟩ = (R.get c).cells[j]? := by
  rw [cell_of_row w g _ _ _ _ hg, rtab_cell R h hj]

theorem is_any (c : Int) (w : World) : Calls Try.prog 26 #[.int .i64 c] w fun e w' => e = .returned (.bool (isC c)) ∧ w = w' := by
  by_cases h1 : 1 ≤ c
  · by_cases h2 : c ≤ 4
    · have H := hide (isC_mk h1 h2)
      go_enter Try.func26, Try.ntmps26
      go_wp2
      go_ret
      exact ⟨ret_bool H.out.symm, rfl⟩
    · have H := hide (isC_no (c := c) (fun h => h2 h.2))
      have hd : decide (c ≤ 4) = false := by simpa using h2
      go_enter Try.func26, Try.ntmps26
      go_wp2
      go_ret
      exact ⟨ret_bool H.out.symm, rfl⟩
  · have H := hide (isC_no (c := c) (fun h => h1 h.1))
    have hd : decide (1 ≤ c) = false := by simpa using h1
    go_enter Try.func26, Try.ntmps26
    go_wp2
    go_ret
    exact ⟨ret_bool H.out.symm, rfl⟩

set_option maxHeartbeats 1000000 in
set_option maxRecDepth 100000 in
theorem refdone_any {g : Nat} {T : Tab} (c : Int) (w : World) (h : RAt w g T) : Calls Try.prog 21 #[.pointer (some ⟨g, 0, none⟩), .int .i64 c] w fun e w' => e = .returned (.int .i64 (T.of c).done) ∧ w = w' := by
  obtain ⟨R, rfl, hok, h⟩ := h
  have C := hide (fun w' => is_any c w')
  by_cases hc : isC c = true
  · rw [hc] at C
    have hc1 : 1 ≤ c := by rcases isC_cases hc with rfl | rfl | rfl | rfl <;> omega
    have hc4 : c ≤ 4 := by rcases isC_cases hc with rfl | rfl | rfl | rfl <;> omega
    have k0 : w.cell? ⟨g, (c.toNat - 1) * 6, none⟩ = some (.int .i64 (R.get c).known) := h.cell hc (j := 0) (by omega)
    have HR : Hid ((R.abs.of c).done = (R.get c).known) := by show _ = _; rw [abs_get R hc]; rfl
    clear hc hok h
    go_enter Try.func21, Try.ntmps21
    go_wp2_with (go_at_call 26; refine (C.out _).mono ?_; rintro e w9 ⟨rfl, rfl⟩)
    go_ret
    exact ⟨ret_int HR.out.symm, rfl⟩
  · have hc : isC c = false := by simpa using hc
    rw [hc] at C
    have HR : Hid ((R.abs.of c).done = 0) := by show _ = _; unfold Tab.of; rw [hc]; rfl
    clear hc hok h
    go_enter Try.func21, Try.ntmps21
    go_wp2_with (go_at_call 26; refine (C.out _).mono ?_; rintro e w9 ⟨rfl, rfl⟩)
    go_ret
    exact ⟨ret_int HR.out.symm, rfl⟩

set_option maxHeartbeats 1000000 in
set_option maxRecDepth 100000 in
theorem reflast_any {g : Nat} {T : Tab} (c : Int) (w : World) (h : RAt w g T) : Calls Try.prog 19 #[.pointer (some ⟨g, 0, none⟩), .int .i64 c] w (Gives (.int .i64 (T.of c).last) w) := by
  obtain ⟨R, rfl, hok, h⟩ := h
  have C := hide (fun w' => is_any c w')
  by_cases hc : isC c = true
  · rw [hc] at C
    have hc1 : 1 ≤ c := by rcases isC_cases hc with rfl | rfl | rfl | rfl <;> omega
    have hc4 : c ≤ 4 := by rcases isC_cases hc with rfl | rfl | rfl | rfl <;> omega
    have HP := hide (rtab_part R hc)
    obtain ⟨m, hm⟩ : ∃ m, m = R.get c := ⟨_, rfl⟩
    rw [← hm] at HP
    have HR : Hid ((R.abs.of c).last = max m.wait m.known) := by show _ = _; rw [abs_get R hc, ← hm]; rfl
    have HH := hide h
    clear hc hok h hm
    have ld : ∀ w' : World, w'.heap[w.heap.size]? = some (.cells m.cells.toArray 31 (0, 0)) → w'.cell? ⟨w.heap.size, 0, none⟩ = some (.int .i64 m.known) ∧ w'.cell? ⟨w.heap.size, 5, none⟩ = some (.int .i64 m.wait) := fun w' hx => by
      constructor
      · rw [cell_of_row _ _ _ _ _ _ hx]; rfl
      · rw [cell_of_row _ _ _ _ _ _ hx]; rfl
    have LD := hide ld
    clear ld
    by_cases hg : m.known < m.wait
    all_goals
      first
        | (have hd : decide (m.known < m.wait) = true := by simpa using hg)
        | (have hd : decide (m.known < m.wait) = false := by simpa using hg)
      have hmx : max m.wait m.known = (if m.known < m.wait then m.wait else m.known) := by split <;> omega
      have HMX := hide hmx
      have HGT := hide hg
      clear hmx hg
      go_enter Try.func19, Try.ntmps19
      go_wp2_with (first
        | (go_at_call 26; refine (C.out _).mono ?_; rintro e w9 ⟨rfl, rfl⟩)
        | (refine wpList_load_box (by rfl) 31 _ (by rfl) g ((c.toNat - 1) * 6) (by rfl) 34 _ HH.out 6 _ Try.underlying31 (by rfl) (by kernel_rfl) m.cells (by exact HP.out) (by rfl) ?_)
        | (refine wpList_store_box (by rfl) 31 _ _ (by rfl) w.heap.size 0 m.cells.toArray (by rfl) (by rfl) 31 RRow.zero.cells.toArray (heap_alloc_new w _) (by kernel_rfl) (by exact Nat.le_of_ble_eq_true rfl) (by intro u hu; simp only [RRow.cells, List.mem_cons, List.not_mem_nil, or_false] at hu; rcases hu with rfl | rfl | rfl | rfl | rfl | rfl <;> rfl) ?_; intro w2 hx2 hg2; obtain ⟨k0, k5⟩ := LD.out w2 hx2; have HG2 := hide hg2; clear hx2 hg2))
      go_ret
      refine ⟨?_, ((Below.refl _ _).alloc (Nat.le_refl _) _).grown HG2.out (by simp) (fun k hk => by have := Option.some.inj hk; omega)⟩
      rw [HR.out, HMX.out]
      first
        | (rw [if_pos HGT.out]; rfl)
        | (rw [if_neg (by have := HGT.out; omega)]; rfl)
  · have hc : isC c = false := by simpa using hc
    rw [hc] at C
    have HR : Hid ((R.abs.of c).last = 0) := by show _ = _; unfold Tab.of; rw [hc]; rfl
    clear hc hok h
    go_enter Try.func19, Try.ntmps19
    go_wp2_with (go_at_call 26; refine (C.out _).mono ?_; rintro e w9 ⟨rfl, rfl⟩)
    go_ret
    exact ⟨ret_int HR.out.symm, Below.refl _ _⟩

/-- What a call of the document's says and leaves. -/
def DoesR (x : Int × Tab) (g : Nat) (w : World) (e : Ending) (w' : World) : Prop := e = .returned (.int .i64 x.1) ∧ RAt w' g x.2 ∧ w.grownBy w' (some g)
set_option maxHeartbeats 1000000 in
set_option maxRecDepth 100000 in
theorem refstart_any {g : Nat} {T : Tab} (c r : Int) (w : World) (h : RAt w g T) : Calls Try.prog 11 #[.pointer (some ⟨g, 0, none⟩), .int .i64 c, .int .i64 r] w (DoesR (startT T c r) g w) := by
  have C := hide (fun w' => is_any c w')
  have C2 := hide (fun w' hb => reflast_any c w' (h.later (w' := w') hb))
  by_cases hk : okC c r = true
  · obtain ⟨hc, hr⟩ := okC_and hk
    rw [hc] at C
    have hc1 : 1 ≤ c := by rcases isC_cases hc with rfl | rfl | rfl | rfl <;> omega
    have hc4 : c ≤ 4 := by rcases isC_cases hc with rfl | rfl | rfl | rfl <;> omega
    obtain ⟨l, hl⟩ : ∃ l, l = (T.of c).last := ⟨_, rfl⟩
    rw [← hl] at C2
    by_cases hle : r ≤ l
    · have HR : Hid (startT T c r = (10, T)) := by show _ = _; unfold startT; rw [if_pos hk, ← hl, if_pos hle]
      have H0 := hide h
      clear hk hc h hl
      go_enter Try.func11, Try.ntmps11
      go_wp2_with (first | (go_at_call 26; refine (C.out _).mono ?_; rintro e w9 ⟨rfl, rfl⟩) | (go_at_call 19; refine (C2.out _ (Below.refl _ _)).mono ?_; rintro e w1 ⟨rfl, hb1⟩; have HB1 := hide hb1; clear hb1))
      go_ret
      unfold DoesR
      rw [HR.out]
      exact ⟨rfl, H0.out.later HB1.out, grown_later HB1.out _⟩
    · have HR : Hid (startT T c r = (0, T.put c ((T.of c).started r))) := by show _ = _; unfold startT; rw [if_pos hk, ← hl, if_neg hle]
      have hd : decide (r ≤ l) = false := by simpa using hle
      obtain ⟨R, rfl, hok, hraw⟩ := h
      have k5 : ∀ w', Below w.heap.size w w' → w'.cell? ⟨g, (c.toNat - 1) * 6 + 5, none⟩ = some (.int .i64 (R.get c).wait) ∧ w'.frozen? ⟨g, (c.toNat - 1) * 6 + 5, none⟩ = false := fun w' hb => ⟨(hraw.later hb).cell hc (j := 5) (by omega), frozen_of_row _ _ _ _ _ (hraw.later hb)⟩
      have K5 := hide k5
      have HRAW := hide hraw
      have HE : Hid ((R.put c ⟨(R.get c).known, (R.get c).rep, r⟩).abs = R.abs.put c ((R.abs.of c).started r)) := by
        show _ = _
        rw [abs_put R hc, abs_get R hc]
        have hlt : max (R.get c).wait (R.get c).known < r := by rw [abs_get R hc] at hl; have : l = max (R.get c).wait (R.get c).known := hl; omega
        have e1 : max (max (R.get c).wait (R.get c).known) r = max r (R.get c).known := by omega
        simp only [RRow.abs, Mry.started, e1]
      have HC := hide hc
      have HOK := hide hok
      clear hk hc hl hle hraw hok k5
      go_enter Try.func11, Try.ntmps11
      go_wp2_with (first | (go_at_call 26; refine (C.out _).mono ?_; rintro e w9 ⟨rfl, rfl⟩) | (go_at_call 19; refine (C2.out _ (Below.refl _ _)).mono ?_; rintro e w1 ⟨rfl, hb1⟩; obtain ⟨k5, f5⟩ := K5.out w1 hb1; have HB1 := hide hb1; clear hb1))
      go_ret
      unfold DoesR
      rw [HR.out]
      refine ⟨rfl, ⟨R.put c ⟨(R.get c).known, (R.get c).rep, r⟩, HE.out, put_ok HOK.out HC.out (get_ok HOK.out c), ?_⟩, (grown_later HB1.out _).trans (grown_set _ _ _ _)⟩
      have hs : BlockAt 34 w1 g R.cells := HRAW.out.later HB1.out
      have h2 := hs.set ((c.toNat - 1) * 6 + 5) (.int .i64 r)
      rw [rtab_wait R HC.out r] at h2
      exact h2
  · have hk : okC c r = false := by simpa using hk
    have HR : Hid (startT T c r = (2, T)) := by show _ = _; unfold startT; rw [hk]; rfl
    have H0 := hide h
    have hq : isC c = false ∨ (isC c = true ∧ r < 1) := by
      rcases hcc : isC c with _ | _
      · exact .inl rfl
      · refine .inr ⟨rfl, ?_⟩
        unfold okC at hk
        rw [hcc] at hk
        simp at hk
        omega
    clear hk h
    rcases hq with hc | ⟨hc, hr⟩
    all_goals
      rw [hc] at C
      clear hc
      go_enter Try.func11, Try.ntmps11
      go_wp2_with (go_at_call 26; refine (C.out _).mono ?_; rintro e w9 ⟨rfl, rfl⟩)
      go_ret
      unfold DoesR
      rw [HR.out]
      exact ⟨rfl, H0.out, World.grownBy.refl w _⟩

set_option maxHeartbeats 2000000 in
set_option maxRecDepth 100000 in
theorem reffinish_any {g : Nat} {T : Tab} (c r : Int) (x : Rep) (w : World) (h : RAt w g T) : Calls Try.prog 13 #[.pointer (some ⟨g, 0, none⟩), .int .i64 c, .int .i64 r, x.val] w (DoesR (finishT T c r x) g w) := by
  have C := hide (fun w' => is_any c w')
  have C2 := hide (fun w' hb => refdone_any c w' (h.later (w' := w') hb))
  obtain ⟨w0, hw0⟩ : ∃ w0, w0 = w.alloc (.cells x.cells.toArray 29 (0, 0)) := ⟨_, rfl⟩
  have B0 : Hid (Below w.heap.size w w0) := by rw [hw0]; exact (Below.refl _ _).alloc (Nat.le_refl _) _
  have X0 : Hid (RepAt w0 w.heap.size x) := by rw [hw0]; exact RepAt.boxed w x
  have HW0 := hide hw0
  clear hw0
  by_cases hk : okC c r = true
  · obtain ⟨hc, hr⟩ := okC_and hk
    rw [hc] at C
    have hc1 : 1 ≤ c := by rcases isC_cases hc with rfl | rfl | rfl | rfl <;> omega
    have hc4 : c ≤ 4 := by rcases isC_cases hc with rfl | rfl | rfl | rfl <;> omega
    obtain ⟨l, hl⟩ : ∃ l, l = (T.of c).done := ⟨_, rfl⟩
    rw [← hl] at C2
    by_cases hlt : r < l
    · have HR : Hid (finishT T c r x = (10, T)) := by show _ = _; unfold finishT; rw [if_pos hk, ← hl, if_pos hlt]
      have H0 := hide h
      clear hk hc h hl
      go_enter Try.func13, Try.ntmps13
      go_wp2_with (fail)
      rw [← HW0.out]
      go_wp2_with (first | (go_at_call 26; refine (C.out _).mono ?_; rintro e w9 ⟨rfl, rfl⟩) | (go_at_call 21; refine (C2.out _ B0.out).mono ?_; rintro e w1 ⟨rfl, rfl⟩))
      go_ret
      unfold DoesR
      rw [HR.out]
      exact ⟨rfl, H0.out.later B0.out, grown_later B0.out _⟩
    have hd : decide (r < l) = false := by simpa using hlt
    by_cases he : r = l
    · have HR : Hid (finishT T c r x = (9, T)) := by show _ = _; unfold finishT; rw [if_pos hk, ← hl, if_neg hlt, if_pos he]
      have he2 : (r == l) = true := by simpa using he
      have H0 := hide h
      clear hk hc h hl he hlt
      go_enter Try.func13, Try.ntmps13
      go_wp2_with (fail)
      rw [← HW0.out]
      go_wp2_with (first | (go_at_call 26; refine (C.out _).mono ?_; rintro e w9 ⟨rfl, rfl⟩) | (go_at_call 21; refine (C2.out _ B0.out).mono ?_; rintro e w1 ⟨rfl, rfl⟩))
      go_ret
      unfold DoesR
      rw [HR.out]
      exact ⟨rfl, H0.out.later B0.out, grown_later B0.out _⟩
    · have HR : Hid (finishT T c r x = (0, T.put c ((T.of c).finished r x))) := by show _ = _; unfold finishT; rw [if_pos hk, ← hl, if_neg hlt, if_neg he]
      have he2 : (r == l) = false := by simpa using he
      obtain ⟨R, rfl, hok, hraw⟩ := h
      have hraw0 := hraw.later B0.out
      have k0 : w0.cell? ⟨g, (c.toNat - 1) * 6, none⟩ = some (.int .i64 (R.get c).known) := hraw0.cell hc (j := 0) (by omega)
      have k1 : w0.cell? ⟨g, (c.toNat - 1) * 6 + 1, none⟩ = some (.int .i64 (R.get c).rep.err) := hraw0.cell hc (j := 1) (by omega)
      have k2 : w0.cell? ⟨g, (c.toNat - 1) * 6 + 1 + 1, none⟩ = some (.int .i64 (R.get c).rep.saga) := hraw0.cell hc (j := 2) (by omega)
      have k3 : w0.cell? ⟨g, (c.toNat - 1) * 6 + 1 + 2, none⟩ = some (.int .i64 (R.get c).rep.st) := hraw0.cell hc (j := 3) (by omega)
      have k4 : w0.cell? ⟨g, (c.toNat - 1) * 6 + 1 + 3, none⟩ = some (.int .i64 (R.get c).rep.step) := hraw0.cell hc (j := 4) (by omega)
      have f0 : ∀ o, w0.frozen? ⟨g, o, none⟩ = false := fun o => frozen_of_row _ _ _ _ _ hraw0
      have x0 := X0.out.cell0
      have x1 := X0.out.cell1
      have x2 := X0.out.cell2
      have x3 := X0.out.cell3
      have hw1 : IntKind.i64.wrap (c - 1) = c - 1 := IntWalk.i64_in _ (by omega)
      have hc5 : c - 1 < 4 := by omega
      have hgn : g ≠ w.heap.size := by have := hraw.lt; omega
      have HRAW := hide hraw0
      have HE : Hid ((R.put c ⟨r, x, (R.get c).wait⟩).abs = R.abs.put c ((R.abs.of c).finished r x)) := by
        show _ = _
        rw [abs_put R hc, abs_get R hc]
        have hlt2 : (R.get c).known < r := by rw [abs_get R hc] at hl; have : l = (R.get c).known := hl; omega
        have e1 : max (max (R.get c).wait (R.get c).known) r = max (R.get c).wait r := by omega
        simp only [RRow.abs, Mry.finished, e1]
      have HC := hide hc
      have HR1 := hide hr
      have HOK := hide hok
      clear hk hc hl hlt he hraw hraw0 hok
      go_enter Try.func13, Try.ntmps13
      go_wp2_with (fail)
      rw [← HW0.out]
      go_wp2_with (first | (go_at_call 26; refine (C.out _).mono ?_; rintro e w9 ⟨rfl, rfl⟩) | (go_at_call 21; refine (C2.out _ B0.out).mono ?_; rintro e w1 ⟨rfl, rfl⟩))
      go_region
      go_wp2
      go_ret
      unfold DoesR
      rw [HR.out]
      have g := fun (w : World) (o : Nat) (v : Value) (b : Nat) => grown_set w b o v
      refine ⟨rfl, ⟨R.put c ⟨r, x, (R.get c).wait⟩, HE.out, put_ok HOK.out HC.out (by have := HR1.out; show 0 ≤ r; omega), ?_⟩, (grown_later B0.out _).trans ((grown_trans (grown_trans (grown_trans (grown_trans (g _ _ _ _) (g _ _ _ _)) (g _ _ _ _)) (g _ _ _ _)) (g _ _ _ _)).trans (grown_drewN _ _ 1))⟩
      have hs : BlockAt 34 w0 _ R.cells := HRAW.out
      have h2 := ((((hs.set ((c.toNat - 1) * 6) (.int .i64 r)).set ((c.toNat - 1) * 6 + 1) (.int .i64 x.err)).set ((c.toNat - 1) * 6 + 2) (.int .i64 x.saga)).set ((c.toNat - 1) * 6 + 3) (.int .i64 x.st)).set ((c.toNat - 1) * 6 + 4) (.int .i64 x.step)
      rw [rtab_known R HC.out r x] at h2
      exact h2
  · have hk : okC c r = false := by simpa using hk
    have HR : Hid (finishT T c r x = (2, T)) := by show _ = _; unfold finishT; rw [hk]; rfl
    have H0 := hide h
    have hq : isC c = false ∨ (isC c = true ∧ r < 1) := by
      rcases hcc : isC c with _ | _
      · exact .inl rfl
      · refine .inr ⟨rfl, ?_⟩
        unfold okC at hk
        rw [hcc] at hk
        simp at hk
        omega
    clear hk h
    rcases hq with hc | ⟨hc, hr⟩
    all_goals
      rw [hc] at C
      clear hc
      go_enter Try.func13, Try.ntmps13
      go_wp2_with (fail)
      rw [← HW0.out]
      go_wp2_with (go_at_call 26; refine (C.out _).mono ?_; rintro e w9 ⟨rfl, rfl⟩)
      go_ret
      unfold DoesR
      rw [HR.out]
      exact ⟨rfl, H0.out.later B0.out, grown_later B0.out _⟩

set_option maxHeartbeats 2000000 in
set_option maxRecDepth 100000 in
theorem refask_any {g : Nat} {T : Tab} (c r : Int) (w : World) (h : RAt w g T) : Calls Try.prog 17 #[.pointer (some ⟨g, 0, none⟩), .int .i64 c, .int .i64 r] w (Asks (askT T c r) w) := by
  have C := hide (fun w' => is_any c w')
  have C2 := hide (fun w' hb => refdone_any c w' (h.later (w' := w') hb))
  have C3 := hide (fun w' hb => reflast_any c w' (h.later (w' := w') hb))
  obtain ⟨w0, hw0⟩ : ∃ w0, w0 = w.alloc (.cells Rep.zero.cells.toArray 29 (0, 0)) := ⟨_, rfl⟩
  have B0 : Hid (Below w.heap.size w w0) := by rw [hw0]; exact (Below.refl _ _).alloc (Nat.le_refl _) _
  have X0 : Hid (RepAt w0 w.heap.size .zero) := by rw [hw0]; exact RepAt.new w
  have HW0 := hide hw0
  clear hw0
  by_cases hk : okC c r = true
  · obtain ⟨hc, hr⟩ := okC_and hk
    rw [hc] at C
    have hc1 : 1 ≤ c := by rcases isC_cases hc with rfl | rfl | rfl | rfl <;> omega
    have hc4 : c ≤ 4 := by rcases isC_cases hc with rfl | rfl | rfl | rfl <;> omega
    obtain ⟨m, hm⟩ : ∃ m, m = T.of c := ⟨_, rfl⟩
    have HRT : askT T c r = askM m r := by unfold askT; rw [if_pos hk, hm]
    rw [HRT]
    rw [← hm] at C2 C3
    clear HRT hk
    by_cases hd : r = m.done
    · obtain ⟨R, rfl, hok, hraw⟩ := h
      have HR : Hid (askM m r = (3, (R.get c).rep)) := by
        show _ = _
        unfold askM
        rw [if_pos hd, hm, abs_get R hc]
        rfl
      have hd2 : (r == m.done) = true := by simpa using hd
      have HP := hide (rtab_reply R hc)
      have hw1 : IntKind.i64.wrap (c - 1) = c - 1 := IntWalk.i64_in _ (by omega)
      have hc5 : c - 1 < 4 := by omega
      have HRAW := hide (hraw.later B0.out)
      have HX0d := hide (X0.out.later (Below.refl _ _).drew)
      clear hd hm hraw hok hc
      go_enter Try.func17, Try.ntmps17
      go_wp2_with (fail)
      rw [show (#[.int .i64 0, .int .i64 0, .int .i64 0, .int .i64 0] : Array Value) = Rep.zero.cells.toArray from rfl, ← HW0.out]
      go_wp2_with (first | (go_at_call 26; refine (C.out _).mono ?_; rintro e w9 ⟨rfl, rfl⟩) | (go_at_call 21; refine (C2.out _ B0.out).mono ?_; rintro e w9 ⟨rfl, rfl⟩))
      refine wp_region_S (fun j => j == 9) (by kernel_rfl) ?_
      refine wpAnyS_take (i := 0) (d := some 23) (v := ?vak0) rfl rfl (by kernel_rfl) (by kernel_rfl) (by kernel_rfl) (by kernel_rfl) (by kernel_rfl) (fun _ _ _ h => h) (by rfl) ?yak0 ?_
      case yak0 => (intro w' hw'; go_simp; try (with_reducible rfl))
      simp only [Act.put]; try simp only [List.setIfInBounds_toArray]; try simp only [List.set_cons_zero, List.set_cons_succ]
      refine wpAnyS_take (i := 1) (d := some 24) (v := ?vak1) rfl rfl (by kernel_rfl) (by kernel_rfl) (by kernel_rfl) (by kernel_rfl) (by kernel_rfl) (fun _ _ _ h => h) (by rfl) ?yak1 ?_
      case yak1 => (intro w' hw'; go_simp; try (with_reducible rfl))
      simp only [Act.put]; try simp only [List.setIfInBounds_toArray]; try simp only [List.set_cons_zero, List.set_cons_succ]
      refine wpAnyS_take (i := 2) (d := some 25) (v := .int .i64 (c - 1)) rfl rfl (by kernel_rfl) (by kernel_rfl) (by kernel_rfl) (by kernel_rfl) (by kernel_rfl) (fun _ _ _ h => h) (by rfl) ?yak2 ?_
      case yak2 => (intro w' hw'; go_simp; try (with_reducible rfl))
      simp only [Act.put]; try simp only [List.setIfInBounds_toArray]; try simp only [List.set_cons_zero, List.set_cons_succ]
      refine wpAnyS_take (i := 3) (d := some 26) (v := ?vak3) rfl rfl (by kernel_rfl) (by kernel_rfl) (by kernel_rfl) (by kernel_rfl) (by kernel_rfl) (fun _ _ _ h => h) (by rfl) ?yak3 ?_
      case yak3 => (intro w' hw'; go_simp; try (with_reducible rfl))
      simp only [Act.put]; try simp only [List.setIfInBounds_toArray]; try simp only [List.set_cons_zero, List.set_cons_succ]
      refine wpAnyS_take (i := 4) (d := some 27) (v := ?vak4) rfl rfl (by kernel_rfl) (by kernel_rfl) (by kernel_rfl) (by kernel_rfl) (by kernel_rfl) (fun _ _ _ h => h) (by rfl) ?yak4 ?_
      case yak4 => (intro w' hw'; go_simp; try (with_reducible rfl))
      simp only [Act.put]; try simp only [List.setIfInBounds_toArray]; try simp only [List.set_cons_zero, List.set_cons_succ]
      refine wpAnyS_take (i := 5) (d := some 28) (v := .pointer (some ⟨g, (c.toNat - 1) * 6, none⟩)) rfl rfl (by kernel_rfl) (by kernel_rfl) (by kernel_rfl) (by kernel_rfl) (by kernel_rfl) (fun _ _ _ h => h) (by rfl) ?yak5 ?_
      case yak5 => (intro w' hw'; go_simp; try (with_reducible rfl))
      simp only [Act.put]; try simp only [List.setIfInBounds_toArray]; try simp only [List.set_cons_zero, List.set_cons_succ]
      refine wpAnyS_take (i := 6) (d := some 29) (v := .pointer (some ⟨g, (c.toNat - 1) * 6 + 1, none⟩)) rfl rfl (by kernel_rfl) (by kernel_rfl) (by kernel_rfl) (by kernel_rfl) (by kernel_rfl) (fun _ _ _ h => h) (by rfl) ?yak6 ?_
      case yak6 => (intro w' hw'; go_simp; try (with_reducible rfl))
      simp only [Act.put]; try simp only [List.setIfInBounds_toArray]; try simp only [List.set_cons_zero, List.set_cons_succ]
      refine wpAnyS_take (i := 7) (d := some 30) (v := (R.get c).rep.val) rfl rfl (by kernel_rfl) (by kernel_rfl) (by kernel_rfl) (by kernel_rfl) (by kernel_rfl) (fun _ _ _ h => h) (by rfl) ?yak7 ?_
      case yak7 => (intro w' hw'; exact exec_load_box 29 _ (by rfl) g ((c.toNat - 1) * 6 + 1) (by rfl) 34 _ (HRAW.out.later ((Below.refl _ _).drew.trans hw')) 4 _ Try.underlying29 (by rfl) (by kernel_rfl) (R.get c).rep.cells (by exact HP.out) (by rfl))
      simp only [Act.put]; try simp only [List.setIfInBounds_toArray]; try simp only [List.set_cons_zero, List.set_cons_succ]
      refine wpAnyS_take (i := 8) (d := some 6) (v := ?vak8) rfl rfl (by kernel_rfl) (by kernel_rfl) (by kernel_rfl) (by kernel_rfl) (by kernel_rfl) (fun _ _ _ h => h) (by rfl) ?yak8 ?_
      case yak8 => (intro w' hw'; go_simp; try (with_reducible rfl))
      simp only [Act.put]; try simp only [List.setIfInBounds_toArray]; try simp only [List.set_cons_zero, List.set_cons_succ]
      refine wpAnyS_write (i := 9) rfl rfl (by kernel_rfl) (by rfl) fun K hK => ?_
      refine wp_store_rep (m := (R.get c).rep) _ _ (by rfl) (by rfl) HX0d.out (by rfl) ?_
      intro w3 hx3 hg3
      have HX3 := hide hx3
      have HG3 := hide hg3
      clear hx3 hg3
      refine hK.out _ _ ?_
      clear hK K
      try simp only [Act.put]
      refine wpAnyS_done (by kernel_rfl) ?_ _
      go_wp2
      have hx3 := HX3.out
      have hg3 : w0.grownBy w3 (some w.heap.size) := (grown_drewN _ _ 1).trans HG3.out
      refine bodyPost_ret (results_12 Try.results17 _ _ w.heap.size 29 _ _ (by rfl) hx3 Try.underlying29 (by rfl) (by kernel_rfl) _ (by rfl)) (by rfl) ?_
      have HBE : Below w.heap.size w _ := B0.out
      unfold Asks
      rw [HR.out]
      exact ⟨rfl, HBE.grown hg3 HBE.size (fun k hk => by have := Option.some.inj hk; omega)⟩
    have hd2 : (r == m.done) = false := by simpa using hd
    by_cases hl : r = m.last
    · have HR : Hid (askM m r = (2, .zero)) := by show _ = _; unfold askM; rw [if_neg hd, if_pos hl]
      have hl2 : (r == m.last) = true := by simpa using hl
      clear hd hl hm h hc
      go_enter Try.func17, Try.ntmps17
      go_wp2_with (fail)
      rw [show (#[.int .i64 0, .int .i64 0, .int .i64 0, .int .i64 0] : Array Value) = Rep.zero.cells.toArray from rfl, ← HW0.out]
      go_wp2_with (first | (go_at_call 26; refine (C.out _).mono ?_; rintro e w9 ⟨rfl, rfl⟩) | (go_at_call 21; refine (C2.out _ B0.out).mono ?_; rintro e w9 ⟨rfl, rfl⟩) | (go_at_call 19; refine (C3.out _ B0.out).mono ?_; rintro e w1 ⟨rfl, hb1⟩; have HB1 := hide hb1; clear hb1) | (refine wpList_store_rep (m := .zero) (by rfl) _ _ (by rfl) (by rfl) (X0.out.later HB1.out) (by rfl) ?_; intro w3 hx3 hg3))
      refine bodyPost_ret (results_12 Try.results17 _ _ w.heap.size 29 _ _ (by rfl) hx3 Try.underlying29 (by rfl) (by kernel_rfl) _ (by rfl)) (by rfl) ?_
      have HBE : Below w.heap.size w _ := B0.out.trans (HB1.out.mono B0.out.size)
      unfold Asks
      rw [HR.out]
      exact ⟨rfl, HBE.grown hg3 HBE.size (fun k hk => by have := Option.some.inj hk; omega)⟩
    have hl2 : (r == m.last) = false := by simpa using hl
    by_cases hn : m.last < r
    · have HR : Hid (askM m r = (1, .zero)) := by show _ = _; unfold askM; rw [if_neg hd, if_neg hl, if_pos hn]
      have hn2 : decide (m.last < r) = true := by simpa using hn
      clear hd hl hm h hc hn
      go_enter Try.func17, Try.ntmps17
      go_wp2_with (fail)
      rw [show (#[.int .i64 0, .int .i64 0, .int .i64 0, .int .i64 0] : Array Value) = Rep.zero.cells.toArray from rfl, ← HW0.out]
      go_wp2_with (first | (go_at_call 26; refine (C.out _).mono ?_; rintro e w9 ⟨rfl, rfl⟩) | (go_at_call 21; refine (C2.out _ B0.out).mono ?_; rintro e w9 ⟨rfl, rfl⟩) | (go_at_call 19; refine (C3.out _ B0.out).mono ?_; rintro e w1 ⟨rfl, hb1⟩; have HB1 := hide hb1; clear hb1) | (go_at_call 19; refine (C3.out _ (B0.out.trans (HB1.out.mono B0.out.size))).mono ?_; rintro e w2 ⟨rfl, hb2⟩; have HB2 := hide hb2; clear hb2) | (refine wpList_store_rep (m := .zero) (by rfl) _ _ (by rfl) (by rfl) ((X0.out.later HB1.out).later HB2.out) (by rfl) ?_; intro w3 hx3 hg3))
      refine bodyPost_ret (results_12 Try.results17 _ _ w.heap.size 29 _ _ (by rfl) hx3 Try.underlying29 (by rfl) (by kernel_rfl) _ (by rfl)) (by rfl) ?_
      have HBE : Below w.heap.size w _ := B0.out.trans ((HB1.out.trans (HB2.out.mono HB1.out.size)).mono B0.out.size)
      unfold Asks
      rw [HR.out]
      exact ⟨rfl, HBE.grown hg3 HBE.size (fun k hk => by have := Option.some.inj hk; omega)⟩
    · have HR : Hid (askM m r = (4, .zero)) := by show _ = _; unfold askM; rw [if_neg hd, if_neg hl, if_neg hn]
      have hn2 : decide (m.last < r) = false := by simpa using hn
      clear hd hl hm h hc hn
      go_enter Try.func17, Try.ntmps17
      go_wp2_with (fail)
      rw [show (#[.int .i64 0, .int .i64 0, .int .i64 0, .int .i64 0] : Array Value) = Rep.zero.cells.toArray from rfl, ← HW0.out]
      go_wp2_with (first | (go_at_call 26; refine (C.out _).mono ?_; rintro e w9 ⟨rfl, rfl⟩) | (go_at_call 21; refine (C2.out _ B0.out).mono ?_; rintro e w9 ⟨rfl, rfl⟩) | (go_at_call 19; refine (C3.out _ B0.out).mono ?_; rintro e w1 ⟨rfl, hb1⟩; have HB1 := hide hb1; clear hb1) | (go_at_call 19; refine (C3.out _ (B0.out.trans (HB1.out.mono B0.out.size))).mono ?_; rintro e w2 ⟨rfl, hb2⟩; have HB2 := hide hb2; clear hb2) | (refine wpList_store_rep (m := .zero) (by rfl) _ _ (by rfl) (by rfl) ((X0.out.later HB1.out).later HB2.out) (by rfl) ?_; intro w3 hx3 hg3))
      refine bodyPost_ret (results_12 Try.results17 _ _ w.heap.size 29 _ _ (by rfl) hx3 Try.underlying29 (by rfl) (by kernel_rfl) _ (by rfl)) (by rfl) ?_
      have HBE : Below w.heap.size w _ := B0.out.trans ((HB1.out.trans (HB2.out.mono HB1.out.size)).mono B0.out.size)
      unfold Asks
      rw [HR.out]
      exact ⟨rfl, HBE.grown hg3 HBE.size (fun k hk => by have := Option.some.inj hk; omega)⟩
  · have hk : okC c r = false := by simpa using hk
    have HR : Hid (askT T c r = (4, .zero)) := by show _ = _; unfold askT; rw [hk]; rfl
    have H0 := hide h
    have hq : isC c = false ∨ (isC c = true ∧ r < 1) := by
      rcases hcc : isC c with _ | _
      · exact .inl rfl
      · refine .inr ⟨rfl, ?_⟩
        unfold okC at hk
        rw [hcc] at hk
        simp at hk
        omega
    clear hk h
    rcases hq with hc | ⟨hc, hr⟩
    all_goals
      rw [hc] at C
      clear hc
      go_enter Try.func17, Try.ntmps17
      go_wp2_with (fail)
      rw [show (#[.int .i64 0, .int .i64 0, .int .i64 0, .int .i64 0] : Array Value) = Rep.zero.cells.toArray from rfl, ← HW0.out]
      go_wp2_with (first | (go_at_call 26; refine (C.out _).mono ?_; rintro e w9 ⟨rfl, rfl⟩) | (refine wpList_store_rep (m := .zero) (by rfl) _ _ (by rfl) (by rfl) (X0.out) (by rfl) ?_; intro w3 hx3 hg3))
      refine bodyPost_ret (results_12 Try.results17 _ _ w.heap.size 29 _ _ (by rfl) hx3 Try.underlying29 (by rfl) (by kernel_rfl) _ (by rfl)) (by rfl) ?_
      have HBE : Below w.heap.size w _ := B0.out
      unfold Asks
      rw [HR.out]
      exact ⟨rfl, HBE.grown hg3 HBE.size (fun k hk => by have := Option.some.inj hk; omega)⟩

/-- The first k rows wait for nothing. -/
def RTab.fgt (R : RTab) : Nat → RTab
  | 0 => R
  | 1 => ⟨⟨R.a.known, R.a.rep, 0⟩, R.b, R.c, R.d⟩
  | 2 => ⟨⟨R.a.known, R.a.rep, 0⟩, ⟨R.b.known, R.b.rep, 0⟩, R.c, R.d⟩
  | 3 => ⟨⟨R.a.known, R.a.rep, 0⟩, ⟨R.b.known, R.b.rep, 0⟩, ⟨R.c.known, R.c.rep, 0⟩, R.d⟩
  | _ => ⟨⟨R.a.known, R.a.rep, 0⟩, ⟨R.b.known, R.b.rep, 0⟩, ⟨R.c.known, R.c.rep, 0⟩, ⟨R.d.known, R.d.rep, 0⟩⟩
theorem fgt_abs {R : RTab} (h : R.ok) : (R.fgt 4).abs = R.abs.forgotten ∧ (R.fgt 4).ok := by
  obtain ⟨h1, h2, h3, h4⟩ := h
  refine ⟨?_, h1, h2, h3, h4⟩
  simp only [RTab.fgt, RTab.abs, Tab.forgotten, RRow.abs, Mry.forgotten]
  rw [show max 0 R.a.known = R.a.known from by omega, show max 0 R.b.known = R.b.known from by omega, show max 0 R.c.known = R.c.known from by omega, show max 0 R.d.known = R.d.known from by omega]
theorem rfgt_0 (R : RTab) : (R.fgt 0).cells.set 5 (.int .i64 0) = (R.fgt 1).cells := by simp [RTab.fgt, RTab.cells, RRow.cells]
theorem rfgt_1 (R : RTab) : (R.fgt 1).cells.set 11 (.int .i64 0) = (R.fgt 2).cells := by simp [RTab.fgt, RTab.cells, RRow.cells]
theorem rfgt_2 (R : RTab) : (R.fgt 2).cells.set 17 (.int .i64 0) = (R.fgt 3).cells := by simp [RTab.fgt, RTab.cells, RRow.cells]
theorem rfgt_3 (R : RTab) : (R.fgt 3).cells.set 23 (.int .i64 0) = (R.fgt 4).cells := by simp [RTab.fgt, RTab.cells, RRow.cells]
set_option maxHeartbeats 4000000 in
set_option maxRecDepth 100000 in
theorem refforget_any {g : Nat} {T : Tab} (w : World) (h : RAt w g T) : Calls Try.prog 15 #[.pointer (some ⟨g, 0, none⟩)] w fun e w' => e = .returned (.tuple #[]) ∧ RAt w' g T.forgotten ∧ w.grownBy w' (some g) := by
  obtain ⟨R, rfl, hok, hraw⟩ := h
  have H := hide hraw
  have HOK := hide hok
  clear hraw hok
  go_enter Try.func15, Try.ntmps15
  go_wp2
  go_loopw [3] (fun v wr => ∃ k : Nat, v = .int .i64 (k : Int) ∧ k ≤ 4 ∧ RRaw wr g (R.fgt k) ∧ w.grownBy wr (some g)) (fun v _ => 4 - (intOf v).toNat)
  case atStart => exact ⟨0, rfl, by omega, H.out, World.grownBy.refl w _⟩
  case round =>
    obtain ⟨k, rfl, hk, ht, hg⟩ := hrel
    have HT := hide ht
    have HG := hide hg
    clear ht hg
    have hk4 : k = 0 ∨ k = 1 ∨ k = 2 ∨ k = 3 ∨ k = 4 := by omega
    clear hk
    rcases hk4 with rfl | rfl | rfl | rfl | rfl
    · have kc : ∃ v, wr.cell? ⟨g, 5, none⟩ = some v := ⟨_, by rw [cell_of_row _ _ _ _ _ _ HT.out]; rfl⟩
      obtain ⟨v5, kc⟩ := kc
      have kf : wr.frozen? ⟨g, 5, none⟩ = false := frozen_of_row _ _ _ _ _ HT.out
      go_wp2
      go_roundw
      case rel =>
        have hs : BlockAt 34 wr g (R.fgt 0).cells := HT.out
        have h2 := hs.set 5 (.int .i64 0)
        rw [rfgt_0] at h2
        exact ⟨1, by first | rfl | go_num, by omega, h2, HG.out.trans (grown_set _ _ _ _)⟩
      case measure => simp [intOf]
    · have kc : ∃ v, wr.cell? ⟨g, 11, none⟩ = some v := ⟨_, by rw [cell_of_row _ _ _ _ _ _ HT.out]; rfl⟩
      obtain ⟨v5, kc⟩ := kc
      have kf : wr.frozen? ⟨g, 11, none⟩ = false := frozen_of_row _ _ _ _ _ HT.out
      go_wp2
      go_roundw
      case rel =>
        have hs : BlockAt 34 wr g (R.fgt 1).cells := HT.out
        have h2 := hs.set 11 (.int .i64 0)
        rw [rfgt_1] at h2
        exact ⟨2, by first | rfl | go_num, by omega, h2, HG.out.trans (grown_set _ _ _ _)⟩
      case measure => simp [intOf]
    · have kc : ∃ v, wr.cell? ⟨g, 17, none⟩ = some v := ⟨_, by rw [cell_of_row _ _ _ _ _ _ HT.out]; rfl⟩
      obtain ⟨v5, kc⟩ := kc
      have kf : wr.frozen? ⟨g, 17, none⟩ = false := frozen_of_row _ _ _ _ _ HT.out
      go_wp2
      go_roundw
      case rel =>
        have hs : BlockAt 34 wr g (R.fgt 2).cells := HT.out
        have h2 := hs.set 17 (.int .i64 0)
        rw [rfgt_2] at h2
        exact ⟨3, by first | rfl | go_num, by omega, h2, HG.out.trans (grown_set _ _ _ _)⟩
      case measure => simp [intOf]
    · have kc : ∃ v, wr.cell? ⟨g, 23, none⟩ = some v := ⟨_, by rw [cell_of_row _ _ _ _ _ _ HT.out]; rfl⟩
      obtain ⟨v5, kc⟩ := kc
      have kf : wr.frozen? ⟨g, 23, none⟩ = false := frozen_of_row _ _ _ _ _ HT.out
      go_wp2
      go_roundw
      case rel =>
        have hs : BlockAt 34 wr g (R.fgt 3).cells := HT.out
        have h2 := hs.set 23 (.int .i64 0)
        rw [rfgt_3] at h2
        exact ⟨4, by first | rfl | go_num, by omega, h2, HG.out.trans (grown_set _ _ _ _)⟩
      case measure => simp [intOf]
    · go_wp2
      go_end0
      exact ⟨rfl, ⟨_, (fgt_abs HOK.out).1, (fgt_abs HOK.out).2, HT.out⟩, HG.out⟩
end Go.Proofs.Ytmakibpbodfchaa
