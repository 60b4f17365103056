/- What VrQuorum looks at, as lists: the acks, the greatest of them, and what is reached of them. -/
import Derived.Test.YtflphpjfmbkeiaaReachM
namespace Go.Proofs.Ytflphpjfmbkeiaa
open Go.RowKit

/-- The first i acks. -/
def ackL (l : List Nat) (i : Nat) : List Int := (l.take i).map fun (x : Nat) => ((x % 100 : Nat) : Int)
/-- The greatest of them, from 0 on. -/
def topI (L : List Int) : Int := L.foldl (fun m x => if m < x then x else m) 0
theorem ack_zero (l : List Nat) : ackL l 0 = [] := by simp [ackL]
theorem ack_succ {l : List Nat} {i x : Nat} (h : l[i]? = some x) : ackL l (i + 1) = ackL l i ++ [((x % 100 : Nat) : Int)] := by
  unfold ackL
  rw [List.take_add_one, h]
  simp
theorem ack_len {l : List Nat} {i : Nat} (h : i ≤ l.length) : (ackL l i).length = i := by simp [ackL]; omega
theorem ack_mem {l : List Nat} {i : Nat} {x : Int} (h : x ∈ ackL l i) : 0 ≤ x ∧ x < 100 := by
  obtain ⟨y, _, rfl⟩ := List.mem_map.1 h
  omega
theorem ack_fit (l : List Nat) (i : Nat) : Fit (ackL l i) := fun x hx => by have := ack_mem hx; omega
theorem top_succ (L : List Int) (x : Int) : topI (L ++ [x]) = if topI L < x then x else topI L := by
  unfold topI
  rw [List.foldl_append]
  rfl
theorem top_le : ∀ (L : List Int) (m : Int), m ≤ L.foldl (fun m x => if m < x then x else m) m ∧ ∀ x ∈ L, x ≤ L.foldl (fun m x => if m < x then x else m) m
  | [], m => ⟨by simp, by simp⟩
  | y :: r, m => by
    obtain ⟨h1, h2⟩ := top_le r (if m < y then y else m)
    have h3 : m ≤ (if m < y then y else m) ∧ y ≤ (if m < y then y else m) := by split <;> omega
    refine ⟨Int.le_trans h3.1 h1, fun x hx => ?_⟩
    rcases List.mem_cons.1 hx with rfl | hx
    · exact Int.le_trans h3.2 h1
    · exact h2 x hx
theorem top_lt {l : List Nat} {i : Nat} : topI (ackL l i) < 100 := by
  have h : ∀ (L : List Int) (m : Int), m < 100 → (∀ x ∈ L, x < 100) → L.foldl (fun m x => if m < x then x else m) m < 100 := by
    intro L
    induction L with
    | nil => intro m hm _; exact hm
    | cons y r ih =>
      intro m hm hL
      refine ih _ ?_ (fun x hx => hL x (by simp [hx]))
      have := hL y (by simp)
      show (if m < y then y else m) < 100
      split <;> omega
  exact h _ 0 (by omega) fun x hx => (ack_mem hx).2
/-- What is reached of acks, up to the greatest: the quorum's one. -/
theorem reach_top {L : List Int} {n : Int} (hn : okN n = true) (hL : (L.length : Int) = n) (h0 : ∀ x ∈ L, 0 ≤ x) :
    ∃ r : Nat, reachI L (topI L) n = (r : Int) ∧ (r : Int) ≤ topI L ∧ quorI n ≤ (L.countP (fun x => decide ((r : Int) ≤ x)) : Nat) ∧ ((L.countP (fun x => decide ((r : Int) < x)) : Nat) : Int) < quorI n ∧
      ∀ k : Int, 0 ≤ k → k ≤ (r : Int) → reachI L k n = k := by
  have hq : quorI n = n / 2 + 1 := by rw [quorI, if_pos hn]
  have h2 := okN_iff.1 hn
  have hk : (quorI n).toNat - 1 < (falling L).length := by rw [falling_len]; omega
  have hg : (falling L).getD ((quorI n).toNat - 1) 0 = (falling L)[(quorI n).toNat - 1] := by simp [List.getD, hk]
  have hm : (falling L)[(quorI n).toNat - 1] ∈ L := (falling_perm L).mem_iff.1 (List.getElem_mem hk)
  have g1 := count_ge (falling_sorted L) hk
  have g2 := count_gt (falling_sorted L) hk
  rw [(falling_perm L).countP_eq] at g1 g2
  have p0 := h0 _ hm
  have p1 := (top_le L 0).2 _ hm
  have hr : ∀ last, reachI L last n = max 0 (min last (falling L)[(quorI n).toNat - 1]) := fun last => by
    rw [reachI, if_neg (by omega), hg]
  obtain ⟨r, hr2⟩ := Int.eq_ofNat_of_zero_le p0
  rw [hr2] at g1 g2 p1 hr
  refine ⟨r, ?_, p1, by omega, by omega, fun k hk0 hk1 => ?_⟩
  · rw [hr]
    have : (r : Int) ≤ topI L := p1
    omega
  · rw [hr]
    omega
end Go.Proofs.Ytflphpjfmbkeiaa
