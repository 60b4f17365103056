/- Plain facts on records, on lists alone: the fields that bytes begin with, the fields of all bytes, and that both come back. -/
import Derived.Test.YtjfcakpglbpeaaaMath
namespace Go.Proofs.Ytjfcakpglbpeaaa

/-- A field: its number, whether it is a text, its value, its bytes. -/
abbrev PF : Type := Int × Bool × Nat × List Nat
def pz : PF := (0, false, 0, [])

def pgood (p : PF) : Bool := decide (1 ≤ p.1) && decide (p.1 ≤ 1000) && (if p.2.1 then p.2.2.1 == 0 else p.2.2.2.isEmpty)
def pbytes (p : PF) : List Nat :=
  if pgood p then (if p.2.1 then enc (2 * p.1.toNat + 1) ++ enc p.2.2.2.length ++ p.2.2.2 else enc (2 * p.1.toNat) ++ enc p.2.2.1) else []
def prec (ps : List PF) : List Nat := (ps.map pbytes).flatten
/-- It fits a machine: 64 bits. -/
def pfits (p : PF) : Prop := p.2.2.1 < 18446744073709551616 ∧ p.2.2.2.length < 18446744073709551616

/-- What bytes begin with: the error's number, the field, how many bytes. -/
def pfirst (l : List Nat) : Nat × PF × Nat :=
  if (num l 0 0).2.2 ≠ 0 then ((num l 0 0).2.2, pz, 0)
  else if (num l 0 0).1 / 2 < 1 ∨ 1000 < (num l 0 0).1 / 2 then (4, pz, 0)
  else if (num (l.drop (num l 0 0).2.1) 0 0).2.2 ≠ 0 then ((num (l.drop (num l 0 0).2.1) 0 0).2.2, pz, 0)
  else if (num l 0 0).1 % 2 = 0 then (0, (((num l 0 0).1 / 2 : Nat), false, (num (l.drop (num l 0 0).2.1) 0 0).1, []), (num l 0 0).2.1 + (num (l.drop (num l 0 0).2.1) 0 0).2.1)
  else if l.length - ((num l 0 0).2.1 + (num (l.drop (num l 0 0).2.1) 0 0).2.1) < (num (l.drop (num l 0 0).2.1) 0 0).1 then (3, pz, 0)
  else (0, (((num l 0 0).1 / 2 : Nat), true, 0, (l.drop ((num l 0 0).2.1 + (num (l.drop (num l 0 0).2.1) 0 0).2.1)).take (num (l.drop (num l 0 0).2.1) 0 0).1), (num l 0 0).2.1 + (num (l.drop (num l 0 0).2.1) 0 0).2.1 + (num (l.drop (num l 0 0).2.1) 0 0).1)

def preadF : Nat → List Nat → Nat × List PF
  | 0, l => if l = [] then (0, []) else (9, [])
  | k + 1, l =>
    if l = [] then (0, [])
    else if (pfirst l).1 ≠ 0 then ((pfirst l).1, [])
    else if (preadF k (l.drop (pfirst l).2.2)).1 ≠ 0 then ((preadF k (l.drop (pfirst l).2.2)).1, [])
    else (0, (pfirst l).2.1 :: (preadF k (l.drop (pfirst l).2.2)).2)
def pread (l : List Nat) : Nat × List PF := preadF l.length l

/-- A number that is read has just these bytes. -/
theorem num_canon : ∀ (l : List Nat) (f i a V m : Nat), (∀ x ∈ l, x < 256) → i + f = 9 → num l i a = (V, m, 0) →
    ∃ v, V = a + v * 2 ^ (7 * i) ∧ m = i + (encF f v).length ∧ l.take (encF f v).length = encF f v ∧ v < 2 * 128 ^ f ∧ (0 < i → 0 < v)
  | [], f, i, a, V, m, _, _, h => by simp [num] at h
  | c :: r, f, i, a, V, m, hs, hi, h => by
    have hc : c < 256 := hs c (by simp)
    unfold num at h
    split at h
    · simp at h
    · rename_i hb
      split at h
      · rename_i hlt
        simp only [Prod.mk.injEq, and_true] at h
        obtain ⟨rfl, rfl⟩ := h
        have e1 : c % 128 = c := by omega
        rw [e1]
        refine ⟨c, rfl, ?_⟩
        cases f with
        | zero => simp [encF, e1]; omega
        | succ f =>
          have e2 : c / 128 = 0 := by omega
          have : 1 ≤ 128 ^ f := Nat.one_le_pow _ _ (by omega)
          simp [encF, e1, e2, Nat.pow_succ]
          omega
      · rename_i hge
        cases f with
        | zero => omega
        | succ f =>
          obtain ⟨v, hV, hm, ht, hv, hp⟩ := num_canon r f (i + 1) _ V m (fun x hx => hs x (by simp [hx])) (by omega) h
          have hv0 := hp (by omega)
          have e1 : (c % 128 + 128 * v) % 128 = c % 128 := by omega
          have e2 : (c % 128 + 128 * v) / 128 = v := by omega
          have e3 : c % 128 + 128 = c := by omega
          refine ⟨c % 128 + 128 * v, ?_, ?_, ?_, ?_, fun _ => by omega⟩
          · rw [hV, pow_step, Nat.add_mul]
            have : v * (128 * 2 ^ (7 * i)) = 128 * v * 2 ^ (7 * i) := by rw [← Nat.mul_assoc, Nat.mul_comm v 128]
            omega
          · rw [encF, e1, e2, if_neg (by omega)]
            simp
            omega
          · rw [encF, e1, e2, if_neg (by omega)]
            simp [ht, e3]
          · rw [Nat.pow_succ]
            omega

theorem num_ok {l : List Nat} {V m : Nat} (hs : ∀ x ∈ l, x < 256) (h : num l 0 0 = (V, m, 0)) : m = (enc V).length ∧ l.take m = enc V ∧ V < 18446744073709551616 := by
  obtain ⟨v, hV, hm, ht, hv, _⟩ := num_canon l 9 0 0 V m hs rfl h
  have e : v = V := by simpa using hV.symm
  subst e
  have e9 : (2 * 128 ^ 9 : Nat) = 18446744073709551616 := by decide
  have hm2 : m = (enc v).length := by simpa [enc] using hm
  refine ⟨hm2, ?_, by omega⟩
  rw [hm2]
  exact ht
theorem num_ok' {l : List Nat} (hs : ∀ x ∈ l, x < 256) (h : (num l 0 0).2.2 = 0) : (num l 0 0).2.1 = (enc (num l 0 0).1).length ∧ l.take (num l 0 0).2.1 = enc (num l 0 0).1 ∧ (num l 0 0).1 < 18446744073709551616 := by
  rcases hn : num l 0 0 with ⟨V, m, e⟩
  rw [hn] at h
  simp only at h
  subst h
  exact num_ok hs hn

theorem pgood_iff (p : PF) : pgood p = true ↔ 1 ≤ p.1 ∧ p.1 ≤ 1000 ∧ (if p.2.1 then p.2.2.1 = 0 else p.2.2.2 = []) := by
  unfold pgood
  cases p.2.1 <;> simp [and_assoc]

/-- A good field comes back, whatever stands behind. -/
theorem pfirst_bytes (p : PF) (hg : pgood p = true) (hf : pfits p) (rest : List Nat) : pfirst (pbytes p ++ rest) = (0, p, (pbytes p).length) := by
  obtain ⟨n, t, v, b⟩ := p
  obtain ⟨h1, h2, h3⟩ := (pgood_iff _).1 hg
  obtain ⟨f1, f2⟩ := hf
  simp only at h1 h2 h3 f1 f2
  have hk : 2 * n.toNat + 1 < 18446744073709551616 := by omega
  cases t with
  | true =>
    simp only [if_true] at h3
    subst h3
    have e : pbytes (n, true, 0, b) = enc (2 * n.toNat + 1) ++ enc b.length ++ b := by simp [pbytes, hg]
    have a1 : num (enc (2 * n.toNat + 1) ++ enc b.length ++ b ++ rest) 0 0 = (2 * n.toNat + 1, (enc (2 * n.toNat + 1)).length, 0) := by
      rw [List.append_assoc, List.append_assoc]; exact num_enc _ _ hk
    have a2 : num ((enc (2 * n.toNat + 1) ++ enc b.length ++ b ++ rest).drop (enc (2 * n.toNat + 1)).length) 0 0 = (b.length, (enc b.length).length, 0) := by
      rw [List.append_assoc, List.append_assoc, List.drop_left]; exact num_enc _ _ f2
    have d2 : (2 * n.toNat + 1) / 2 = n.toNat := by omega
    have d3 : (2 * n.toNat + 1) % 2 = 1 := by omega
    have dd : (enc (2 * n.toNat + 1) ++ enc b.length ++ b ++ rest).drop ((enc (2 * n.toNat + 1)).length + (enc b.length).length) = b ++ rest := by
      rw [← List.length_append, List.append_assoc, List.append_assoc, ← List.append_assoc, List.drop_left]
    rw [e]
    unfold pfirst
    simp only [a1, a2, d2, d3, dd]
    rw [if_neg (by simp), if_neg (by omega), if_neg (by simp), if_neg (by omega), if_neg (by simp; omega)]
    simp
    omega
  | false =>
    simp at h3
    subst h3
    have e : pbytes (n, false, v, []) = enc (2 * n.toNat) ++ enc v := by simp [pbytes, hg]
    have a1 : num (enc (2 * n.toNat) ++ enc v ++ rest) 0 0 = (2 * n.toNat, (enc (2 * n.toNat)).length, 0) := by
      rw [List.append_assoc]; exact num_enc _ _ (by omega)
    have a2 : num ((enc (2 * n.toNat) ++ enc v ++ rest).drop (enc (2 * n.toNat)).length) 0 0 = (v, (enc v).length, 0) := by
      rw [List.append_assoc, List.drop_left]; exact num_enc _ _ f1
    have d2 : (2 * n.toNat) / 2 = n.toNat := by omega
    have d3 : (2 * n.toNat) % 2 = 0 := by omega
    rw [e]
    unfold pfirst
    simp only [a1, a2, d2, d3]
    rw [if_neg (by simp), if_neg (by omega), if_neg (by simp), if_pos trivial]
    simp
    omega

/-- A field that is told is good, and its bytes are those. -/
theorem pfirst_ok (l : List Nat) (hs : ∀ x ∈ l, x < 256) (h : (pfirst l).1 = 0) :
    pgood (pfirst l).2.1 = true ∧ pbytes (pfirst l).2.1 = l.take (pfirst l).2.2 ∧ 0 < (pfirst l).2.2 ∧ (pfirst l).2.2 ≤ l.length ∧ (∀ x ∈ (pfirst l).2.1.2.2.2, x < 256) ∧ pfits (pfirst l).2.1 := by
  unfold pfirst at h ⊢
  split at h
  · rename_i h0; exact absurd h h0
  · rename_i h0
    split at h
    · simp at h
    · rename_i h1
      split at h
      · rename_i h2; exact absurd h h2
      · rename_i h2
        rw [if_neg h0, if_neg h1, if_neg h2]
        obtain ⟨q1, q2, q3⟩ := num_ok' hs (by simpa using h0)
        have hs2 : ∀ x ∈ l.drop (num l 0 0).2.1, x < 256 := fun x hx => hs x (List.mem_of_mem_drop hx)
        obtain ⟨r1, r2, r3⟩ := num_ok' hs2 (by simpa using h2)
        have b1 := (num_bound l 0 0).1
        have b2 := (num_bound (l.drop (num l 0 0).2.1) 0 0).1
        have el := (enc_len (num l 0 0).1).1
        obtain ⟨K, hK⟩ : ∃ K, (num l 0 0).1 = K := ⟨_, rfl⟩
        obtain ⟨m, hm⟩ : ∃ m, (num l 0 0).2.1 = m := ⟨_, rfl⟩
        rw [hm] at r1 r2 r3 b2 hs2
        simp only [hK, hm] at *
        obtain ⟨V, hV⟩ : ∃ V, (num (l.drop m) 0 0).1 = V := ⟨_, rfl⟩
        obtain ⟨z, hz⟩ : ∃ z, (num (l.drop m) 0 0).2.1 = z := ⟨_, rfl⟩
        simp only [hV, hz] at *
        simp only [List.length_drop] at b2
        have et : l.take (m + z) = enc K ++ enc V := by
          rw [List.take_add, q2, r2]
        split at h
        · rename_i h3
          rw [if_pos h3]
          have hg : pgood (((K / 2 : Nat) : Int), false, V, []) = true := by
            rw [pgood_iff]; simp; omega
          refine ⟨hg, ?_, by simp only; omega, by simp only; omega, by simp, ⟨r3, by simp⟩⟩
          unfold pbytes
          rw [if_pos hg]
          have : 2 * ((K / 2 : Nat) : Int).toNat = K := by omega
          simp only [Bool.false_eq_true, if_false, this]
          exact et.symm
        · rename_i h3
          split at h
          · simp at h
          · rename_i h4
            rw [if_neg h3, if_neg h4]
            have hlen : ((l.drop (m + z)).take V).length = V := by simp; omega
            have hg : pgood (((K / 2 : Nat) : Int), true, 0, (l.drop (m + z)).take V) = true := by
              rw [pgood_iff]; simp; omega
            refine ⟨hg, ?_, by simp only; omega, by simp only; omega, fun x hx => hs x (List.mem_of_mem_drop (List.mem_of_mem_take hx)), ⟨by simp, by simp only; omega⟩⟩
            unfold pbytes
            rw [if_pos hg]
            have : 2 * ((K / 2 : Nat) : Int).toNat + 1 = K := by omega
            simp only [if_true, this, hlen]
            rw [← et, List.take_add (i := m + z)]

theorem pfirst_err (l : List Nat) (h : (pfirst l).1 ≠ 0) : (pfirst l).2.1 = pz ∧ (pfirst l).2.2 = 0 := by
  unfold pfirst at h ⊢
  by_cases h0 : (num l 0 0).2.2 ≠ 0
  · rw [if_pos h0]
    exact ⟨rfl, rfl⟩
  · rw [if_neg h0] at h ⊢
    by_cases h1 : (num l 0 0).1 / 2 < 1 ∨ 1000 < (num l 0 0).1 / 2
    · rw [if_pos h1]
      exact ⟨rfl, rfl⟩
    · rw [if_neg h1] at h ⊢
      by_cases h2 : (num (l.drop (num l 0 0).2.1) 0 0).2.2 ≠ 0
      · rw [if_pos h2]
        exact ⟨rfl, rfl⟩
      · rw [if_neg h2] at h ⊢
        by_cases h3 : (num l 0 0).1 % 2 = 0
        · rw [if_pos h3] at h
          exact absurd rfl h
        · rw [if_neg h3] at h ⊢
          by_cases h4 : l.length - ((num l 0 0).2.1 + (num (l.drop (num l 0 0).2.1) 0 0).2.1) < (num (l.drop (num l 0 0).2.1) 0 0).1
          · rw [if_pos h4]
            exact ⟨rfl, rfl⟩
          · rw [if_neg h4] at h
            exact absurd rfl h

/-- Fuel beyond the bytes changes nothing. -/
theorem preadF_more : ∀ (k j : Nat) (l : List Nat), (∀ x ∈ l, x < 256) → l.length ≤ k → l.length ≤ j → preadF k l = preadF j l
  | k, j, [], _, _, _ => by cases k <;> cases j <;> simp [preadF]
  | 0, j, c :: r, _, hk, _ => by simp at hk
  | k + 1, 0, c :: r, _, _, hj => by simp at hj
  | k + 1, j + 1, c :: r, hs, hk, hj => by
    simp only [preadF]
    have hne : c :: r ≠ [] := by simp
    rw [if_neg hne, if_neg hne]
    by_cases h : (pfirst (c :: r)).1 ≠ 0
    · rw [if_pos h, if_pos h]
    · rw [if_neg h, if_neg h]
      have h3 := (pfirst_ok (c :: r) hs (by simpa using h)).2.2.1
      rw [preadF_more k j ((c :: r).drop (pfirst (c :: r)).2.2) (fun x hx => hs x (List.mem_of_mem_drop hx)) (by rw [List.length_drop]; omega) (by rw [List.length_drop]; omega)]

theorem pread_step {l : List Nat} (hs : ∀ x ∈ l, x < 256) (hne : l ≠ []) :
    pread l = if (pfirst l).1 ≠ 0 then ((pfirst l).1, []) else if (pread (l.drop (pfirst l).2.2)).1 ≠ 0 then ((pread (l.drop (pfirst l).2.2)).1, []) else (0, (pfirst l).2.1 :: (pread (l.drop (pfirst l).2.2)).2) := by
  obtain ⟨c, r, rfl⟩ : ∃ c r, l = c :: r := by cases l with | nil => exact absurd rfl hne | cons c r => exact ⟨c, r, rfl⟩
  unfold pread
  rw [List.length_cons, preadF, if_neg hne]
  by_cases h : (pfirst (c :: r)).1 ≠ 0
  · rw [if_pos h, if_pos h]
  · rw [if_neg h, if_neg h]
    have h3 := (pfirst_ok (c :: r) hs (by simpa using h)).2.2.1
    rw [preadF_more r.length ((c :: r).drop (pfirst (c :: r)).2.2).length ((c :: r).drop (pfirst (c :: r)).2.2) (fun x hx => hs x (List.mem_of_mem_drop hx)) (by rw [List.length_drop, List.length_cons]; omega) (Nat.le_refl _)]
theorem pread_nil : pread [] = (0, []) := by simp [pread, preadF]

/-- What was read, first fields and then the others. -/
def readOn (done : List PF) (q : Nat × List PF) : Nat × List PF := if q.1 ≠ 0 then (q.1, []) else (0, done ++ q.2)
theorem readOn_start (l : List Nat) : pread l = readOn [] (pread l) := by
  unfold readOn
  split
  · rename_i h
    unfold pread at h ⊢
    cases hl : l.length with
    | zero => rw [hl] at h; simp only [preadF] at h ⊢; split <;> simp_all
    | succ k =>
      rw [hl] at h
      simp only [preadF] at h ⊢
      split
      · simp_all
      · split
        · rfl
        · split
          · rfl
          · simp_all
  · rename_i h
    have : (pread l).1 = 0 := by simpa using h
    simp [← this]
theorem readOn_err {l : List Nat} (hs : ∀ x ∈ l, x < 256) (done : List PF) (hne : l ≠ []) (h : (pfirst l).1 ≠ 0) : readOn done (pread l) = ((pfirst l).1, []) := by
  rw [pread_step hs hne, if_pos h]
  unfold readOn
  rw [if_pos h]
theorem readOn_next {l : List Nat} (hs : ∀ x ∈ l, x < 256) (done : List PF) (hne : l ≠ []) (h : (pfirst l).1 = 0) : readOn done (pread l) = readOn (done ++ [(pfirst l).2.1]) (pread (l.drop (pfirst l).2.2)) := by
  rw [pread_step hs hne, if_neg (by simpa using h)]
  unfold readOn
  by_cases h2 : (pread (l.drop (pfirst l).2.2)).1 ≠ 0
  · rw [if_pos h2, if_pos h2, if_pos h2]
  · rw [if_neg h2, if_neg h2, if_neg (by simp)]
    simp
theorem readOn_end (done : List PF) : readOn done (pread []) = (0, done) := by
  rw [pread_nil]
  simp [readOn]

/-- A record's fields: the good ones. -/
theorem pread_prec (rest : List Nat) (hr : ∀ x ∈ rest, x < 256) : ∀ (ps : List PF), (∀ p ∈ ps, pfits p) → (∀ p ∈ ps, ∀ x ∈ p.2.2.2, x < 256) →
    pread (prec ps ++ rest) = readOn (ps.filter pgood) (pread rest)
  | [], _, _ => by simpa [prec] using readOn_start rest
  | p :: ps, hf, hs => by
    have ih := pread_prec rest hr ps (fun q hq => hf q (by simp [hq])) (fun q hq => hs q (by simp [hq]))
    by_cases hg : pgood p = true
    · have hsm : ∀ x ∈ prec (p :: ps) ++ rest, x < 256 := by
        intro x hx
        rcases List.mem_append.1 hx with hx | hx
        · obtain ⟨y, hy, hxy⟩ := List.mem_flatten.1 hx
          obtain ⟨q, hq, rfl⟩ := List.mem_map.1 hy
          unfold pbytes at hxy
          split at hxy
          · split at hxy
            · rcases List.mem_append.1 hxy with h | h
              · rcases List.mem_append.1 h with h | h
                · exact enc_small _ x h
                · exact enc_small _ x h
              · exact hs q hq x h
            · rcases List.mem_append.1 hxy with h | h
              · exact enc_small _ x h
              · exact enc_small _ x h
          · cases hxy
        · exact hr x hx
      have e : prec (p :: ps) ++ rest = pbytes p ++ (prec ps ++ rest) := by simp [prec]
      have hfst := pfirst_bytes p hg (hf p (by simp)) (prec ps ++ rest)
      have hne : prec (p :: ps) ++ rest ≠ [] := by
        have := (pfirst_ok _ hsm (by rw [e, hfst])).2.2.2.1
        have h0 := (pfirst_ok _ hsm (by rw [e, hfst])).2.2.1
        intro h; rw [h] at this h0; simp at this; omega
      rw [readOn_start, readOn_next hsm [] hne (by rw [e, hfst]), e, hfst]
      simp only [List.drop_left, List.nil_append]
      rw [ih, List.filter_cons, if_pos hg]
      unfold readOn
      split <;> simp_all
    · have e : prec (p :: ps) ++ rest = prec ps ++ rest := by
        have : pbytes p = [] := by simp [pbytes, hg]
        simp [prec, this]
      rw [e, ih, List.filter_cons, if_neg hg]

/-- Bytes that are read are written again; what is told is good. -/
theorem pread_ok : ∀ (n : Nat) (l : List Nat), l.length ≤ n → (∀ x ∈ l, x < 256) → (pread l).1 = 0 →
    prec (pread l).2 = l ∧ (∀ p ∈ (pread l).2, pgood p = true ∧ (∀ x ∈ p.2.2.2, x < 256) ∧ pfits p)
  | 0, l, hn, hs, h => by
    have : l = [] := List.eq_nil_of_length_eq_zero (by omega)
    subst this
    simp [pread_nil, prec]
  | n + 1, l, hn, hs, h => by
    by_cases hne : l = []
    · subst hne
      simp [pread_nil, prec]
    · rw [pread_step hs hne] at h ⊢
      split at h
      · rename_i h1; exact absurd h h1
      · rename_i h1
        split at h
        · rename_i h2; exact absurd h h2
        · rename_i h2
          rw [if_neg h1, if_neg h2]
          obtain ⟨g1, g2, g3, g4, g5, g6⟩ := pfirst_ok l hs (by simpa using h1)
          obtain ⟨i1, i2⟩ := pread_ok n (l.drop (pfirst l).2.2) (by rw [List.length_drop]; omega) (fun x hx => hs x (List.mem_of_mem_drop hx)) (by simpa using h2)
          refine ⟨?_, ?_⟩
          · have : prec ((pfirst l).2.1 :: (pread (l.drop (pfirst l).2.2)).2) = pbytes (pfirst l).2.1 ++ prec (pread (l.drop (pfirst l).2.2)).2 := by simp [prec]
            rw [this, i1, g2, List.take_append_drop]
          · intro p hp
            rcases List.mem_cons.1 hp with rfl | hp
            · exact ⟨g1, g5, g6⟩
            · exact i2 p hp

end Go.Proofs.Ytjfcakpglbpeaaa
