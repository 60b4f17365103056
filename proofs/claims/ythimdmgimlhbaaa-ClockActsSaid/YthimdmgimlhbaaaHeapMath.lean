/- A heap as plain mathematics: numbers by index, none of which is below the one above it, which stands at half its index. -/
namespace Go.Proofs.Ythimdmgimlhbaaa

def par (k : Nat) : Nat := (k - 1) / 2
def swp (f : Nat → Int) (i j : Nat) : Nat → Int := fun k => if k = i then f j else if k = j then f i else f k
/-- All is in order, but for the one at j, that may be below what stands above it, and, as long as it did not move, above what stands below it. -/
def Up (f : Nat → Int) (n i j : Nat) : Prop :=
  j ≤ i ∧ (∀ k, k < n → 0 < k → k ≠ j → (par k ≠ i ∨ j ≠ i) → f (par k) ≤ f k) ∧ (∀ k, k < n → 0 < k → 0 < j → par k = j → f (par j) ≤ f k)
/-- All is in order, but for the one at i, that may be above what stands below it. -/
def Down (f : Nat → Int) (n i : Nat) : Prop :=
  (∀ k, k < n → 0 < k → par k ≠ i → f (par k) ≤ f k) ∧ (∀ k, k < n → 0 < k → 0 < i → par k = i → f (par i) ≤ f k)
def Heap (f : Nat → Int) (n : Nat) : Prop := ∀ k, k < n → 0 < k → f (par k) ≤ f k

theorem par_lt {k : Nat} (h : 0 < k) : par k < k := by unfold par; omega

theorem Up.step {f : Nat → Int} {n i j : Nat} (h : Up f n i j) (h0 : 0 < j) (hn : j < n) (hlt : f j < f (par j)) : Up (swp f j (par j)) n i (par j) := by
  obtain ⟨hj, h1, h2⟩ := h
  have hp := par_lt h0
  refine ⟨by omega, fun k hk hk0 hkp _ => ?_, fun k hk hk0 hp0 hkp => ?_⟩
  · have hpk := par_lt hk0
    unfold swp
    by_cases e1 : k = j
    · subst e1
      rw [if_neg (by omega), if_pos rfl, if_pos rfl]
      omega
    · by_cases e2 : par k = j
      · have := h2 k hk hk0 h0 e2
        rw [if_pos e2, if_neg e1, if_neg (by omega)]
        exact this
      · by_cases e3 : par k = par j
        · have := h1 k hk hk0 e1 (by omega)
          rw [e3] at this
          rw [if_neg e2, if_pos e3, if_neg e1, if_neg hkp]
          omega
        · rw [if_neg e2, if_neg e3, if_neg e1, if_neg hkp]
          exact h1 k hk hk0 e1 (by omega)
  · have hpp := par_lt hp0
    have h3 := h1 (par j) (by omega) hp0 (by omega) (by omega)
    unfold swp
    rw [if_neg (by omega), if_neg (by omega)]
    by_cases e1 : k = j
    · rw [if_pos e1]
      exact h3
    · have := h1 k hk hk0 e1 (by omega)
      rw [hkp] at this
      have hpk := par_lt hk0
      rw [if_neg e1, if_neg (by omega)]
      omega
theorem Up.over {f : Nat → Int} {n i j : Nat} (h : Up f n i j) (hs : 0 < j → f (par j) ≤ f j) : Down f n i := by
  obtain ⟨hj, h1, h2⟩ := h
  refine ⟨fun k hk hk0 hkp => ?_, fun k hk hk0 hi hkp => ?_⟩
  · by_cases e : k = j
    · subst e; exact hs hk0
    · exact h1 k hk hk0 e (.inl hkp)
  · have hpk := par_lt hk0
    by_cases e : j = i
    · subst e; exact h2 k hk hk0 hi hkp
    · have a1 := h1 k hk hk0 (by omega) (.inr e)
      have a2 := h1 i (by omega) hi (by omega) (.inr e)
      rw [hkp] at a1
      omega
theorem Down.step {f : Nat → Int} {n i c : Nat} (h : Down f n i) (hc : c < n) (hc0 : 0 < c) (hp : par c = i) (hlt : f c < f i) (hmin : ∀ d, d < n → 0 < d → par d = i → f c ≤ f d) : Down (swp f i c) n c := by
  obtain ⟨h1, h2⟩ := h
  have hpc := par_lt hc0
  refine ⟨fun k hk hk0 hkp => ?_, fun k hk hk0 _ hkp => ?_⟩
  · have hpk := par_lt hk0
    unfold swp
    by_cases e1 : k = c
    · subst e1
      rw [if_pos hp, if_neg (by omega), if_pos rfl]
      omega
    · by_cases e2 : k = i
      · subst e2
        have := h2 c hc hc0 hk0 hp
        rw [if_neg (by omega), if_neg hkp, if_pos rfl]
        exact this
      · by_cases e3 : par k = i
        · rw [if_pos e3, if_neg e2, if_neg e1]
          exact hmin k hk hk0 e3
        · rw [if_neg e3, if_neg hkp, if_neg e2, if_neg e1]
          exact h1 k hk hk0 e3
  · have hpk := par_lt hk0
    have := h1 k hk hk0 (by omega)
    rw [hkp] at this
    unfold swp
    rw [hp, if_pos rfl, if_neg (by omega), if_neg (by omega)]
    exact this
theorem Down.over {f : Nat → Int} {n i : Nat} (h : Down f n i) (hs : ∀ c, c < n → 0 < c → par c = i → f i ≤ f c) : Heap f n := by
  intro k hk hk0
  by_cases e : par k = i
  · rw [e]; exact hs k hk hk0 e
  · exact h.1 k hk hk0 e
theorem Heap.root {f : Nat → Int} {n : Nat} (h : Heap f n) : ∀ m k, k ≤ m → k < n → f 0 ≤ f k
  | 0, k, hm, _ => by obtain rfl : k = 0 := by omega
                      exact Int.le_refl _
  | m + 1, k, hm, hk => by
    by_cases e : k = 0
    · subst e; exact Int.le_refl _
    · have hp := par_lt (Nat.pos_of_ne_zero e)
      exact Int.le_trans (Heap.root h m (par k) (by omega) (by omega)) (h k hk (Nat.pos_of_ne_zero e))
theorem Heap.least {f : Nat → Int} {n k : Nat} (h : Heap f n) (hk : k < n) : f 0 ≤ f k := h.root k k (Nat.le_refl _) hk
theorem Heap.push {f : Nat → Int} {n : Nat} (h : Heap f n) : Up f (n + 1) n n :=
  ⟨Nat.le_refl _, fun k hk hk0 hkn _ => h k (by omega) hk0, fun k hk hk0 hn hp => by have := par_lt hk0; omega⟩
theorem Down.last {f : Nat → Int} {n : Nat} (h : Down f (n + 1) n) : Heap f (n + 1) := fun k hk hk0 => h.1 k hk hk0 (by have := par_lt hk0; omega)
/-- The one at i makes place for the last one. -/
theorem Heap.cut {f g : Nat → Int} {n i : Nat} (h : Heap f (n + 1)) (hi : i < n) (hg : ∀ k, k < n → k ≠ i → g k = f k) : Up g n i i := by
  refine ⟨Nat.le_refl _, fun k hk hk0 hki hp => ?_, fun k hk hk0 hi0 hp => ?_⟩
  · have hpk := par_lt hk0
    rw [hg k hk hki, hg (par k) (by omega) (by omega)]
    exact h k (by omega) hk0
  · have hpk := par_lt hk0
    have hpi := par_lt hi0
    rw [hg k hk (by omega), hg (par i) (by omega) (by omega)]
    have a1 := h k (by omega) hk0
    have a2 := h i (by omega) hi0
    rw [hp] at a1
    omega
theorem Heap.short {f g : Nat → Int} {n : Nat} (h : Heap f (n + 1)) (hg : ∀ k, k < n → g k = f k) : Heap g n := fun k hk hk0 => by
  have := par_lt hk0
  rw [hg k hk, hg _ (by omega)]
  exact h k (by omega) hk0
theorem Heap.congr {f g : Nat → Int} {n : Nat} (h : Heap f n) (hg : ∀ k, k < n → g k = f k) : Heap g n := fun k hk hk0 => by
  have := par_lt hk0
  rw [hg k hk, hg _ (by omega)]
  exact h k hk hk0

/-- What two timers are put in order by: the tick, then the name. -/
def tkey (p : Int × Int) : Int := p.1 * 18446744073709551616 + p.2
def T64 (p : Int × Int) : Prop := (-9223372036854775808 ≤ p.1 ∧ p.1 < 9223372036854775808) ∧ -9223372036854775808 ≤ p.2 ∧ p.2 < 9223372036854775808
theorem tkey_lt {a b : Int × Int} (ha : T64 a) (hb : T64 b) : tkey a < tkey b ↔ a.1 < b.1 ∨ (a.1 = b.1 ∧ a.2 < b.2) := by
  unfold tkey T64 at *
  omega
theorem tkey_inj {a b : Int × Int} (ha : T64 a) (hb : T64 b) (h : tkey a = tkey b) : a = b := by
  unfold tkey T64 at *
  apply Prod.ext <;> omega
/-- The list's keys, by index. -/
def kf (l : List (Int × Int)) (k : Nat) : Int := tkey (l.getD k (0, 0))
/-- The list with those at i and j changed. -/
def lswp (l : List (Int × Int)) (i j : Nat) : List (Int × Int) := (l.set i (l.getD j (0, 0))).set j (l.getD i (0, 0))
theorem lswp_len (l : List (Int × Int)) (i j : Nat) : (lswp l i j).length = l.length := by simp [lswp]
theorem getD_set (l : List (Int × Int)) (i k : Nat) (x d : Int × Int) (hi : i < l.length) : (l.set i x).getD k d = if k = i then x else l.getD k d := by
  simp only [List.getD_eq_getElem?_getD, List.getElem?_set]
  by_cases e : k = i
  · subst e; simp [hi]
  · rw [if_neg (fun h => e h.symm), if_neg e]
theorem kf_lswp {l : List (Int × Int)} {i j : Nat} (hi : i < l.length) (hj : j < l.length) (hne : i ≠ j) : kf (lswp l i j) = swp (kf l) i j := by
  funext k
  unfold kf lswp swp
  rw [getD_set _ _ _ _ _ (by simpa using hj), getD_set _ _ _ _ _ hi]
  by_cases e1 : k = j
  · subst e1
    rw [if_pos rfl, if_neg (fun h => hne h.symm), if_pos rfl]
  · rw [if_neg e1]
    by_cases e2 : k = i
    · rw [if_pos e2, if_pos e2]
    · rw [if_neg e2, if_neg e2, if_neg e1]
theorem set_perm {l : List (Int × Int)} {i : Nat} (hi : i < l.length) (x : Int × Int) : (l.getD i (0, 0) :: l.set i x).Perm (x :: l) := by
  induction l generalizing i with
  | nil => simp at hi
  | cons y r ih =>
    cases i with
    | zero => simpa using List.Perm.swap x y r
    | succ i =>
      have := ih (i := i) (by simpa using hi)
      simp only [List.getD_cons_succ, List.set_cons_succ]
      exact (List.Perm.swap _ _ _).trans ((List.Perm.cons y this).trans (List.Perm.swap _ _ _))
theorem lswp_perm {l : List (Int × Int)} {i j : Nat} (hi : i < l.length) (hj : j < l.length) (hne : i ≠ j) : (lswp l i j).Perm l := by
  have h1 := set_perm (l := l.set i (l.getD j (0, 0))) (i := j) (by simpa using hj) (l.getD i (0, 0))
  rw [getD_set _ _ _ _ _ hi, if_neg (fun h => hne h.symm)] at h1
  have h2 := set_perm (l := l) hi (l.getD j (0, 0))
  have h3 : (l.getD j (0, 0) :: lswp l i j).Perm (l.getD j (0, 0) :: l) := h1.trans h2
  exact (List.perm_cons _).1 h3
/-- One is taken away: the last one takes its place. -/
def lcut (l : List (Int × Int)) (i : Nat) : List (Int × Int) := (l.set i (l.getD (l.length - 1) (0, 0))).take (l.length - 1)
theorem lcut_len (l : List (Int × Int)) (i : Nat) : (lcut l i).length = l.length - 1 := by simp [lcut]
theorem getD_take (l : List (Int × Int)) (n k : Nat) (d : Int × Int) (h : k < n) : (l.take n).getD k d = l.getD k d := by
  simp [List.getD_eq_getElem?_getD, List.getElem?_take_of_lt h]
theorem take_last {l : List (Int × Int)} (h : 0 < l.length) : l = l.take (l.length - 1) ++ [l.getD (l.length - 1) (0, 0)] := by
  have e : l.drop (l.length - 1) = [l.getD (l.length - 1) (0, 0)] := by
    rw [List.drop_eq_getElem_cons (by omega), List.drop_eq_nil_of_le (by omega), List.getD_eq_getElem?_getD, List.getElem?_eq_getElem (by omega)]
    rfl
  rw [← e, List.take_append_drop]
theorem lcut_perm {l : List (Int × Int)} {i : Nat} (hi : i < l.length) : (l.getD i (0, 0) :: lcut l i).Perm l := by
  have h1 := set_perm hi (l.getD (l.length - 1) (0, 0))
  have hlen : 0 < (l.set i (l.getD (l.length - 1) (0, 0))).length := by simp; omega
  have h2 := take_last hlen
  have e1 : (l.set i (l.getD (l.length - 1) (0, 0))).length = l.length := by simp
  rw [e1, getD_set _ _ _ _ _ hi] at h2
  have e3 : (if l.length - 1 = i then l.getD (l.length - 1) (0, 0) else l.getD (l.length - 1) (0, 0)) = l.getD (l.length - 1) (0, 0) := by split <;> rfl
  rw [e3] at h2
  have h3 : (l.set i (l.getD (l.length - 1) (0, 0))).Perm (l.getD (l.length - 1) (0, 0) :: lcut l i) := by
    conv => lhs; rw [h2]
    exact List.perm_append_comm
  have h4 : (l.getD (l.length - 1) (0, 0) :: l.getD i (0, 0) :: lcut l i).Perm (l.getD (l.length - 1) (0, 0) :: l) :=
    (List.Perm.swap _ _ _).trans ((List.Perm.cons _ h3.symm).trans h1)
  exact (List.perm_cons _).1 h4
theorem kf_lcut {l : List (Int × Int)} {i : Nat} (hi : i < l.length) (k : Nat) (hk : k < l.length - 1) (hne : k ≠ i) : kf (lcut l i) k = kf l k := by
  unfold kf lcut
  rw [getD_take _ _ _ _ hk, getD_set _ _ _ _ _ hi, if_neg hne]
/-- What is left is in order, but for the one that moved. -/
theorem Heap.cutAt {l : List (Int × Int)} {i : Nat} (h : Heap (kf l) l.length) (hi : i < l.length - 1) : Up (kf (lcut l i)) (l.length - 1) i i := by
  have e : l.length = l.length - 1 + 1 := by omega
  rw [e] at h
  exact h.cut hi (fun k hk hne => kf_lcut (by omega) k hk hne)
theorem Heap.cutLast {l : List (Int × Int)} {i : Nat} (h : Heap (kf l) l.length) (hi : i = l.length - 1) (h0 : 0 < l.length) : Heap (kf (lcut l i)) (l.length - 1) := by
  have e : l.length = l.length - 1 + 1 := by omega
  rw [e] at h
  exact h.short fun k hk => kf_lcut (by omega) k hk (by omega)
end Go.Proofs.Ythimdmgimlhbaaa
