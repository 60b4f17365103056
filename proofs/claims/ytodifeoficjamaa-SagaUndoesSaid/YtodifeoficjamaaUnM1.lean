/- Whatever a definition, whatever happens to its saga: each step that was done is undone, once, in falling order, ahead of Aborted; once it is undone it goes forward no more; Done says that each step was done and none undone; no condition. -/
import Derived.Test.YtodifeoficjamaaBaseS1
import Derived.Test.YtodifeoficjamaaBaseS2
import Derived.Test.YtodifeoficjamaaBaseS3
import Derived.Test.YtodifeoficjamaaBaseS4
import Derived.Deep.CutBlock
import Derived.Deep.DeepCutAuto
import Derived.Test.YtodifeoficjamaaRows
import Derived.ProofKit
import Derived.OpenShut
import Derived.ShutString
import Derived.ChangeOld
/- What is kept of a saga in SagaUndoes: what was done, and undone. -/
namespace Go.Proofs.Ytodifeoficjamaa
open Go.RowKit
def Hits.get (x : Hits) (i : Nat) : Bool := match i with
  | 0 => x.a0
  | 1 => x.a1
  | 2 => x.a2
  | 3 => x.a3
  | 4 => x.a4
  | 5 => x.a5
  | 6 => x.a6
  | 7 => x.a7
  | _ => false
theorem eight {i : Nat} (h : i < 8) : i = 0 ∨ i = 1 ∨ i = 2 ∨ i = 3 ∨ i = 4 ∨ i = 5 ∨ i = 6 ∨ i = 7 := by omega
theorem get_up {m i : Nat} (h : i < 8) : (upH (m : Int)).get i = decide (i < m) := by
  rcases eight h with rfl | rfl | rfl | rfl | rfl | rfl | rfl | rfl <;> simp only [upH, Hits.get, decide_eq_decide] <;> omega
theorem get_set {x : Hits} {k i : Nat} {b : Bool} (hk : k < 8) (hi : i < 8) : (x.set k b).get i = if i = k then b else x.get i := by
  rcases eight hk with rfl | rfl | rfl | rfl | rfl | rfl | rfl | rfl <;> rcases eight hi with rfl | rfl | rfl | rfl | rfl | rfl | rfl | rfl <;> rfl
theorem cells_set {x : Hits} {k : Nat} (b : Bool) (hk : k < 8) : (x.set k b).cells.toArray = x.cells.toArray.setIfInBounds k (.bool b) := by
  rcases eight hk with rfl | rfl | rfl | rfl | rfl | rfl | rfl | rfl <;> rfl
theorem HitBox.get {g i : Nat} {x : Hits} {w : World} (h : HitBox g x w) (hi : i < 8) : w.cell? ⟨g, i, none⟩ = some (.bool (x.get i)) := by
  obtain ⟨h0, h1, h2, h3, h4, h5, h6, h7, _⟩ := h.cells
  rcases eight hi with rfl | rfl | rfl | rfl | rfl | rfl | rfl | rfl
  · exact h0
  · exact h1
  · exact h2
  · exact h3
  · exact h4
  · exact h5
  · exact h6
  · exact h7
theorem HitBox.below {g : Nat} {x : Hits} {w w' : World} (h : HitBox g x w) (hl : Later w w') : HitBox g x w' := (Below.block hl g (lt_of_block h)).trans h
theorem HitBox.other {g : Nat} {x : Hits} {w w' : World} (h : HitBox g x w) {r : Option Nat} (hg : w.grownBy w' r) (hr : some g ≠ r) : HitBox g x w' := (hg.block g (lt_of_block h) hr).trans h
theorem SBox.hitAt {T : TypeId} {g i : Nat} {s : SagaD} {w : World} (h : SBox T g s w) (hi : i < 8) : w.cell? ⟨g, 5 + i, none⟩ = some (.bool (s.hit.get i)) := by
  obtain ⟨h0, h1, h2, h3, h4, h5, h6, h7⟩ := h.hit
  rcases eight hi with rfl | rfl | rfl | rfl | rfl | rfl | rfl | rfl
  · exact h0
  · exact h1
  · exact h2
  · exact h3
  · exact h4
  · exact h5
  · exact h6
  · exact h7

/-- What is kept. -/
structure Kp where
  did : Hits
  undid : Hits
  last : Int
  und : Bool
def LRun (l0 : List StepD) (name : ByteArray) (l : List StepD) (s : SagaD) (k : Kp) (q : Nat) : Prop :=
  l = l0 ∧ s.name = name ∧ Runs l0 s q ∧ k.und = false ∧ (∀ i, i < 8 → k.did.get i = decide (i < q)) ∧ (∀ i, i < 8 → k.undid.get i = false) ∧ k.last = 99
def LBack (l0 : List StepD) (name : ByteArray) (l : List StepD) (s : SagaD) (k : Kp) (q : Nat) : Prop :=
  l = l0 ∧ s.name = name ∧ Backs l0 s q ∧ (∀ i, i < 8 → k.did.get i = true → i < q + 1 ∨ k.undid.get i = true) ∧ (∀ i, i < 8 → k.undid.get i = true → k.last ≤ (i : Int) + 1) ∧ (q : Int) + 1 < k.last
def LOff (l0 : List StepD) (s : SagaD) (k : Kp) : Prop :=
  s.st ≠ 1 ∧ s.st ≠ 2 ∧ (s.st = 4 → ∀ i, i < 8 → k.did.get i = true → k.undid.get i = true) ∧ (s.st = 3 → (∀ i, i < 8 → k.undid.get i = false) ∧ ∀ i, i < 8 → i < l0.length → k.did.get i = true)
def LI (l0 : List StepD) (name : ByteArray) (l : List StepD) (s : SagaD) (k : Kp) : Prop := (l = l0 ∨ l = []) ∧ (0 ≤ s.step ∧ s.step ≤ 9) ∧ ((∃ q, LRun l0 name l s k q) ∨ (∃ q, LBack l0 name l s k q) ∨ LOff l0 s k)
theorem LI.withV {l0 l : List StepD} {name : ByteArray} {s : SagaD} {k : Kp} (h : LI l0 name l s k) (p : Option Addr) (n c : Nat) : LI l0 name l (s.withV p n c) k := by
  obtain ⟨h1, h2, h3⟩ := h
  refine ⟨h1, h2, ?_⟩
  rcases h3 with ⟨q, a1, a2, a3, a4⟩ | ⟨q, a1, a2, a3, a4⟩ | h
  · exact .inl ⟨q, a1, a2, a3.withV p n c, a4⟩
  · exact .inr (.inl ⟨q, a1, a2, a3.withV p n c, a4⟩)
  · exact .inr (.inr h)
/-- What is kept behind an event. -/
def Kp.next (k : Kp) (l : List StepD) (s t : SagaD) (kind : Int) : Kp :=
  if wantsB l s = true ∧ kind = 3 then
    (if s.st = 2 then ⟨k.did, k.undid.set (s.step - 1).toNat true, s.step, k.und || decide (t.st = 2)⟩ else ⟨k.did.set (s.step - 1).toNat true, k.undid, k.last, k.und || decide (t.st = 2)⟩)
  else ⟨k.did, k.undid, k.last, k.und || decide (t.st = 2)⟩
section
variable {l0 l : List StepD} {name : ByteArray} {s : SagaD} {k : Kp} {ev : EvD} {q : Nat}
theorem Runs.n2 (h : Runs l s q) : s.st ≠ 2 := by rw [h.st]; decide
theorem lrun_next (hc : (checkF name l0).2 = 0) (h : LRun l0 name l s k q) (hk : 3 ≤ ev.kind) : LI l0 name (happenL l s ev) (happenF l s ev).1 (k.next l s (happenF l s ev).1 ev.kind) := by
  obtain ⟨rfl, rfl, hr, k1, k2, k3, k4⟩ := h
  have h8 := (check_good hc).1
  have hlt := hr.lt
  have hsp := hr.step
  have hw := hr.wants hc
  have hL : happenL l s ev = l := by unfold happenL; rw [if_neg (by omega)]
  rw [hL, hap_it hw hk]
  obtain ⟨e1, e2⟩ := run_ev hc hr ev.kind
  have hsb := ev_step (l := l) (s := s) ev.kind (by omega) (by omega) h8
  obtain ⟨t, ht⟩ : ∃ t, evE l s ev.kind = t := ⟨_, rfl⟩
  rw [ht] at e1 e2 hsb
  show LI l s.name l (evE l s ev.kind) _
  rw [ht]
  refine ⟨.inl rfl, hsb, ?_⟩
  have hq1 : (s.step - 1).toNat = q := by omega
  unfold Kp.next
  rcases e2 with ⟨h3, hn, e⟩ | ⟨h3, e, e3⟩ | ⟨h3, e, e3⟩ | ⟨h3, e⟩ | ⟨h3, h0, e⟩ | ⟨h3, j, e, e3, j1, j2⟩
  · rw [if_pos ⟨hw, h3⟩, if_neg hr.n2, hq1]
    refine .inr (.inr ⟨by rw [e]; decide, by rw [e]; decide, fun h4 => by rw [e] at h4; exact absurd h4 (by decide), fun _ => ⟨k3, fun i hi hil => ?_⟩⟩)
    show (k.did.set q true).get i = true
    rw [get_set (by omega) hi]
    by_cases hiq : i = q
    · rw [if_pos hiq]
    · rw [if_neg hiq, k2 i hi]; simp; omega
  · rw [if_pos ⟨hw, h3⟩, if_neg hr.n2, hq1]
    refine .inl ⟨q + 1, rfl, e1, e, by show (k.und || decide (t.st = 2)) = false; rw [k1, e.st]; rfl, fun i hi => ?_, k3, k4⟩
    show (k.did.set q true).get i = _
    rw [get_set (by omega) hi]
    by_cases hiq : i = q
    · rw [if_pos hiq]; simp; omega
    · rw [if_neg hiq, k2 i hi, decide_eq_decide]; omega
  · rw [if_neg (by simp [h3])]
    exact .inl ⟨q, rfl, e1, e, by show (k.und || decide (t.st = 2)) = false; rw [k1, e.st]; rfl, k2, k3, k4⟩
  · rw [if_neg (by simp [h3])]
    exact .inr (.inr ⟨by rw [e]; decide, by rw [e]; decide, fun h4 => by rw [e] at h4; exact absurd h4 (by decide), fun h4 => by rw [e] at h4; exact absurd h4 (by decide)⟩)
  · rw [if_neg (by simp [h3])]
    refine .inr (.inr ⟨by rw [e]; decide, by rw [e]; decide, fun _ i hi hd => ?_, fun h4 => by rw [e] at h4; exact absurd h4 (by decide)⟩)
    have := k2 i hi
    rw [show k.did.get i = true from hd] at this
    simp at this
    omega
  · rw [if_neg (by simp [h3])]
    refine .inr (.inl ⟨j, rfl, e1, e, fun i hi hd => .inl ?_, fun i hi hd => ?_, ?_⟩)
    · have := k2 i hi
      rw [show k.did.get i = true from hd] at this
      simp at this
      omega
    · have := k3 i hi
      rw [show k.undid.get i = true from hd] at this
      cases this
    · show (j : Int) + 1 < k.last
      rw [k4]; omega
theorem lback_next (hc : (checkF name l0).2 = 0) (h : LBack l0 name l s k q) (hk : 3 ≤ ev.kind) : LI l0 name (happenL l s ev) (happenF l s ev).1 (k.next l s (happenF l s ev).1 ev.kind) := by
  obtain ⟨rfl, rfl, hr, k1, k2, k3⟩ := h
  have h8 := (check_good hc).1
  have hlt := hr.lt
  have hsp := hr.step
  have hw := hr.wants hc
  have hL : happenL l s ev = l := by unfold happenL; rw [if_neg (by omega)]
  rw [hL, hap_it hw hk]
  obtain ⟨e1, e2⟩ := back_ev hc hr ev.kind
  have hsb := ev_step (l := l) (s := s) ev.kind (by omega) (by omega) h8
  obtain ⟨t, ht⟩ : ∃ t, evE l s ev.kind = t := ⟨_, rfl⟩
  rw [ht] at e1 e2 hsb
  show LI l s.name l (evE l s ev.kind) _
  rw [ht]
  refine ⟨.inl rfl, hsb, ?_⟩
  have hq1 : (s.step - 1).toNat = q := by omega
  unfold Kp.next
  rcases e2 with ⟨h3, h0, e⟩ | ⟨h3, j, hj, e, e3⟩ | ⟨h3, e, e3⟩ | ⟨h3, e⟩
  · rw [if_pos ⟨hw, h3⟩, if_pos hr.st, hq1]
    refine .inr (.inr ⟨by rw [e]; decide, by rw [e]; decide, fun _ i hi hd => ?_, fun h4 => by rw [e] at h4; exact absurd h4 (by decide)⟩)
    show (k.undid.set q true).get i = true
    rw [get_set (by omega) hi]
    by_cases hiq : i = q
    · rw [if_pos hiq]
    · rw [if_neg hiq]
      rcases k1 i hi hd with h5 | h5
      · omega
      · exact h5
  · rw [if_pos ⟨hw, h3⟩, if_pos hr.st, hq1]
    refine .inr (.inl ⟨j, rfl, e1, e, fun i hi hd => ?_, fun i hi hd => ?_, by show (j : Int) + 1 < s.step; omega⟩)
    · show i < j + 1 ∨ (k.undid.set q true).get i = true
      rw [get_set (by omega) hi]
      by_cases hiq : i = q
      · rw [if_pos hiq]; exact .inr rfl
      · rw [if_neg hiq]
        rcases k1 i hi hd with h5 | h5
        · exact .inl (by omega)
        · exact .inr h5
    · have hd2 : (k.undid.set q true).get i = true := hd
      rw [get_set (by omega) hi] at hd2
      show s.step ≤ (i : Int) + 1
      by_cases hiq : i = q
      · omega
      · rw [if_neg hiq] at hd2
        have := k2 i hi hd2
        omega
  · rw [if_neg (by simp [h3])]
    exact .inr (.inl ⟨q, rfl, e1, e, k1, k2, k3⟩)
  · rw [if_neg (by simp [h3])]
    exact .inr (.inr ⟨by rw [e]; decide, by rw [e]; decide, fun h4 => by rw [e] at h4; exact absurd h4 (by decide), fun h4 => by rw [e] at h4; exact absurd h4 (by decide)⟩)
theorem zero_off (l0 : List StepD) (k : Kp) (p : Option Addr) (n c : Nat) : LOff l0 (SagaD.zero.withV p n c) k := ⟨show (0 : Int) ≠ 1 by decide, show (0 : Int) ≠ 2 by decide, fun h => absurd (show (0 : Int) = 4 from h) (by decide), fun h => absurd (show (0 : Int) = 3 from h) (by decide)⟩
theorem LOff.same {s t : SagaD} {k k' : Kp} (h : LOff l0 s k) (hs : t.st = s.st) (h1 : k'.did = k.did) (h2 : k'.undid = k.undid) : LOff l0 t k' := by
  unfold LOff at h ⊢
  rw [hs, h1, h2]
  exact h
/-- What is kept goes on, whatever happens but what is not looked at. -/
theorem li_next (hc : (checkF name l0).2 = 0) (h : LI l0 name l s k) (hk : 2 ≤ ev.kind) : LI l0 name (happenL l s ev) (happenF l s ev).1 (k.next l s (happenF l s ev).1 ev.kind) := by
  obtain ⟨hl, hstp, hcase⟩ := h
  have h8 := (check_good hc).1
  by_cases h2 : ev.kind = 2
  · -- cancelled
    have hF : happenF l s ev = ((cancelF l s).1, decide ((cancelF l s).2 = 0)) := by unfold happenF; rw [if_neg (by omega), if_neg (by omega), if_pos h2]
    have hLL : happenL l s ev = cancelL l s := by unfold happenL; rw [if_pos h2]
    have hK : ∀ t : SagaD, k.next l s t ev.kind = ⟨k.did, k.undid, k.last, k.und || decide (t.st = 2)⟩ := fun t => by unfold Kp.next; rw [if_neg (by omega)]
    rw [hK, hF, hLL]
    unfold cancelL
    rcases hcase with ⟨q, rfl, rfl, hr, k1, k2, k3, k4⟩ | ⟨q, rfl, rfl, hr, k1, k2, k3⟩ | ho
    · have hcs := cancel_step (l := l) (s := s) hstp.1 (by have := hr.step; have := hr.lt; omega) h8
      rcases cancel_run hc hr with ⟨e1, e2⟩ | ⟨e1, e2, e3⟩
      · rw [e1, if_pos rfl]
        refine ⟨.inr rfl, hcs, .inr (.inr ?_)⟩
        show LOff l (cancelF l s).1 _
        rw [e2]
        exact zero_off l _ none 0 0
      · rw [e1, if_neg (by decide)]
        refine ⟨.inl rfl, hcs, ?_⟩
        rcases e3 with e3 | e3
        · exact .inr (.inr ⟨by show (cancelF l s).1.st ≠ 1; rw [e3]; decide, by show (cancelF l s).1.st ≠ 2; rw [e3]; decide, fun h4 => by rw [show (cancelF l s).1.st = 5 from e3] at h4; exact absurd h4 (by decide), fun h4 => by rw [show (cancelF l s).1.st = 5 from e3] at h4; exact absurd h4 (by decide)⟩)
        · refine .inr (.inl ⟨q, rfl, e2, e3, fun i hi hd => .inl ?_, fun i hi hd => ?_, ?_⟩)
          · have := k2 i hi
            rw [show k.did.get i = true from hd] at this
            simp at this
            omega
          · have := k3 i hi
            rw [show k.undid.get i = true from hd] at this
            cases this
          · show (q : Int) + 1 < k.last
            have := hr.lt
            rw [k4]; omega
    · rw [cancel_back hc hr, if_neg (show ¬ (0 : Int) = 10 by decide)]
      exact ⟨.inl rfl, hstp, .inr (.inl ⟨q, rfl, rfl, hr, k1, k2, k3⟩)⟩
    · rcases cancel_off (l := l) ho.2.1 ho.1 with ⟨e1, e2⟩ | ⟨e1, e2⟩
      · rw [e1, if_pos rfl]
        refine ⟨.inr rfl, by rw [e2]; exact ⟨Int.le_refl 0, by show (0 : Int) ≤ 9; omega⟩, .inr (.inr ?_)⟩
        show LOff l0 (cancelF l s).1 _
        rw [e2]
        exact zero_off l0 _ none 0 0
      · rw [e1, if_neg (by decide)]
        refine ⟨hl, by rw [e2]; exact hstp, .inr (.inr ?_)⟩
        show LOff l0 (cancelF l s).1 _
        rw [e2]
        exact ho.same rfl rfl rfl
  · have h3 : 3 ≤ ev.kind := by omega
    rcases hcase with ⟨q, h⟩ | ⟨q, h⟩ | ho
    · exact lrun_next hc h h3
    · exact lback_next hc h h3
    · have hw := done_wants (l := l) ho.1 ho.2.1
      have hL : happenL l s ev = l := by unfold happenL; rw [if_neg (by omega)]
      rw [hL, hap_off hw (by omega)]
      unfold Kp.next
      rw [if_neg (by rw [hw]; simp)]
      exact ⟨hl, hstp, .inr (.inr (ho.same rfl rfl rfl))⟩
/-- What may be marked. -/
theorem li_mark (hc : (checkF name l0).2 = 0) (h : LI l0 name l s k) (hw : wantsB l s = true) : ∃ q : Nat, s.step = (q : Int) + 1 ∧ q < 8 ∧
    ((s.st = 1 ∧ k.und = false ∧ k.did.get q = false) ∨ (s.st = 2 ∧ k.undid.get q = false ∧ s.step < k.last ∧ s.hit.get q = true)) := by
  obtain ⟨hl, hstp, hcase⟩ := h
  have h8 := (check_good hc).1
  rcases hcase with ⟨q, rfl, rfl, hr, k1, k2, k3, k4⟩ | ⟨q, rfl, rfl, hr, k1, k2, k3⟩ | ho
  · have := hr.lt
    exact ⟨q, hr.step, by omega, .inl ⟨hr.st, k1, by rw [k2 q (by omega)]; simp⟩⟩
  · have := hr.lt
    have hsp := hr.step
    refine ⟨q, hr.step, by omega, .inr ⟨hr.st, ?_, by omega, ?_⟩⟩
    · cases hq : k.undid.get q with
      | false => rfl
      | true => have := k2 q (by omega) hq; omega
    · rw [hr.hit, show (q : Int) + 1 = ((q + 1 : Nat) : Int) from by omega, get_up (by omega)]; simp
  · have := done_wants (l := l) ho.1 ho.2.1
    rw [this] at hw; cases hw
/-- What is asked of each step when a saga is at its end. -/
def okEnd (n : Nat) (t : SagaD) (k : Kp) (i : Nat) : Bool := !(decide (t.st = 4) && (k.did.get i && !k.undid.get i) || decide (t.st = 3) && (k.undid.get i || (decide (i < n) && !k.did.get i)))
theorem li_end (h : LI l0 name l s k) {i : Nat} (hi : i < 8) : okEnd l0.length s k i = true := by
  obtain ⟨hl, hstp, hcase⟩ := h
  unfold okEnd
  rcases hcase with ⟨q, _, _, hr, _⟩ | ⟨q, _, _, hr, _⟩ | ho
  · rw [hr.st]; rfl
  · rw [hr.st]; rfl
  · obtain ⟨_, _, h4, h3⟩ := ho
    by_cases e4 : s.st = 4
    · have := h4 e4 i hi
      rw [e4]
      cases hd : k.did.get i with
      | false => simp
      | true => rw [this hd]; simp
    · by_cases e3 : s.st = 3
      · obtain ⟨a, b⟩ := h3 e3
        rw [e3, a i hi]
        by_cases hil : i < l0.length
        · rw [b i hi hil]; simp
        · simp [hil]
      · simp [e4, e3]
end
end Go.Proofs.Ytodifeoficjamaa
/- SagaUndoes. -/
namespace Go.Proofs.Ytodifeoficjamaa
open Go.RowKit
theorem EvsAt.at_ {F : Nat → Prop} {w : World} {v : Value} {l : List EvD} (h : EvsAt F w v l) {i : Nat} (hi : i < l.length) : ∃ e b off c, l[i]? = some e ∧ v = .slice (some ⟨b, off, none⟩) l.length c ∧ l.length ≤ c ∧ F b ∧ b < w.heap.size ∧ w.rangeAt b (off + i * 5) e.cells := by
  obtain ⟨b, off, c, hv, hc, hf, hb, hr⟩ := FlatAt.elem h hi
  have hs : l[i]? = some l[i] := List.getElem?_eq_getElem hi
  refine ⟨l[i], b, off, c, hs, hv, hc, hf, hb, ?_⟩
  rwa [flat_get EvD.cells 5 l i l[i] (fun y _ => y.len) hs] at hr
theorem range_ev {w : World} {b o : Nat} {e : EvD} (h : w.rangeAt b o e.cells) : w.cell? ⟨b, o, none⟩ = some (.int .i64 e.kind) ∧ w.cell? ⟨b, o + 1, none⟩ = some (.int .i64 e.step) ∧ w.cell? ⟨b, o + 2, none⟩ = some (.int .i64 e.tr) ∧ w.cell? ⟨b, o + 3, none⟩ = some (.bool e.back) ∧ w.cell? ⟨b, o + 4, none⟩ = some (.bool e.good) :=
  ⟨h 0 _ rfl, h 1 _ rfl, h 2 _ rfl, h 3 _ rfl, h 4 _ rfl⟩
theorem wants_cmd {l : List StepD} {s : SagaD} {q : Nat} (h : wantsB l s = true) (hs : s.step = (q : Int) + 1) : (wantsC l s).step = (q : Int) + 1 ∧ (wantsC l s).back = decide (s.st = 2) := by
  obtain ⟨e1, _, e3⟩ := wants_fields h
  exact ⟨by rw [e1, hs], e3⟩
/-- Where all that is kept lies. -/
structure Lies (x b b7 b8 : Nat) (name : ByteArray) (A1 : Option Addr) (n c1 : Nat) (s : SagaD) (k : Kp) (w wr : World) : Prop where
  bx : SBox 27 b s wr
  bd : HitBox b7 k.did wr
  bu : HitBox b8 k.undid wr
  bf : DefBox x name (.slice A1 n c1) wr
  bl : Later w wr
theorem Lies.below {x b b7 b8 : Nat} {name : ByteArray} {A1 : Option Addr} {n c1 : Nat} {s : SagaD} {k : Kp} {w wr wx : World} (h : Lies x b b7 b8 name A1 n c1 s k w wr) (hl : Later wr wx) : Lies x b b7 b8 name A1 n c1 s k w wx :=
  ⟨h.bx.below hl, h.bd.below hl, h.bu.below hl, h.bf.below hl, h.bl.trans hl⟩
theorem Lies.other {x b b7 b8 g : Nat} {name : ByteArray} {A1 : Option Addr} {n c1 : Nat} {s : SagaD} {k : Kp} {w wr wx : World} (h : Lies x b b7 b8 name A1 n c1 s k w wr) (hg : wr.grownBy wx (some g)) (h1 : b ≠ g) (h2 : b7 ≠ g) (h3 : b8 ≠ g) (h4 : x ≠ g) (h5 : w.heap.size ≤ g) : Lies x b b7 b8 name A1 n c1 s k w wx :=
  ⟨h.bx.other hg (fun e => h1 (Option.some.inj e)), h.bd.other hg (fun e => h2 (Option.some.inj e)), h.bu.other hg (fun e => h3 (Option.some.inj e)), (hg.block x (lt_of_block h.bf) (fun e => h4 (Option.some.inj e))).trans h.bf, h.bl.grown hg (Below.size h.bl) (fun k hk => by have := Option.some.inj hk; omega)⟩
section
variable {w : World}
set_option maxRecDepth 100000 in
set_option maxHeartbeats 16000000 in
theorem law_undoes {F G : Nat → Prop} {name : ByteArray} {v v2 : Value} {l0 : List StepD} {evs : List EvD} (hl : StepsAt F w v l0) (hb : l0.length ≤ 9223372036854775807) (hwf : ∀ s ∈ l0, s.wf) (hk : EvsAt G w v2 evs) (hkb : evs.length ≤ 9223372036854775807) :
    Calls Try.prog 4 #[.agg #[.string name, v], v2] w fun e w' => e = .returned (.bool true) ∧ Later w w' := by
  obtain ⟨A1, c1, rfl, _, _, _⟩ := FlatAt.shape hl
  obtain ⟨A2, c2, rfl, _, _, _⟩ := FlatAt.shape hk
  obtain ⟨n, hn⟩ : ∃ n, l0.length = n := ⟨_, rfl⟩
  obtain ⟨n2, hn2⟩ : ∃ n, evs.length = n := ⟨_, rfl⟩
  rw [hn] at hl ⊢
  rw [hn2] at hk hkb ⊢
  obtain ⟨W1, hW1⟩ : ∃ W1, W1 = w.alloc (.cells #[.string name, .slice A1 n c1] 24 (0, 0)) := ⟨_, rfl⟩
  obtain ⟨x, hx⟩ : ∃ x, x = w.heap.size := ⟨_, rfl⟩
  have L1 : Hid (Later w W1) := by rw [hW1]; exact (Below.refl _ _).alloc (Nat.le_refl _) _
  have D1 : Hid (DefBox x name (.slice A1 n c1) W1) := by rw [hW1, hx]; exact heap_alloc_new w _
  have CLV : Hid (∀ W, Calls Try.prog 8 #[] W fun e w' => e = .returned (.bool true) ∧ Later W w') := fun W => lives_any
  have SL : Hid (∀ W, Later w W → StepsAt F W (.slice A1 n c1) l0) := fun W h => hl.kept (Kept.of_below h _)
  have CL1 : Hid (∀ W, Later w W → Calls Try.prog 6 #[.agg #[.string name, .slice A1 n c1]] W fun e w' => e = .returned (.bool (longF name l0)) ∧ Later W w') := fun W h => long_any (SL.out W h) hb
  have UK : Hid (∀ W, Later w W → EvsAt G W (.slice A2 n2 c2) evs) := fun W h => hk.kept (Kept.of_below h _)
  have HWF := hide hwf
  have HN := hide hn
  have HN2 := hide hn2
  have HX0 : Hid (w.heap.size ≤ x) := Nat.le_of_eq hx.symm
  have HW1 := hide hW1.symm
  have HX := hide hx.symm
  by_cases he : (checkF name l0).2 = 0
  · have CB := hide (begin_ok (name := name) (SL.out W1 L1.out) he)
    have HE := hide he
    have h8 : n ≤ 8 := by rw [← hn]; exact (check_good he).1
    clear hl hk hn hn2 hW1 hx hb he hwf 
    go_enter Try.func4, Try.ntmps4
    go_wp2_with (fail)
    simp only [HW1.out, HX.out]
    refine CB.out.mono ?_
    rintro e w2 ⟨P, N, K, rfl, hs, hl⟩
    have L2 := hide (L1.out.trans hl)
    have D2 := hide (D1.out.below hl)
    have HZ1 := hide (Below.size L1.out)
    have T2 : Hid (SBox 27 w2.heap.size SagaD.zero (w2.alloc (.cells #[.string ⟨#[]⟩, .slice none 0 0, .int .i64 0, .int .i64 0, .int .i64 0, .bool false, .bool false, .bool false, .bool false, .bool false, .bool false, .bool false, .bool false] 27 (0, 0)))) := heap_alloc_new _ _
    have L2a : Hid (Later w2 (w2.alloc (.cells #[.string ⟨#[]⟩, .slice none 0 0, .int .i64 0, .int .i64 0, .int .i64 0, .bool false, .bool false, .bool false, .bool false, .bool false, .bool false, .bool false, .bool false] 27 (0, 0)))) := (Below.refl _ _).alloc (Nat.le_refl _) _
    have HS2 := hide hs
    clear hl hs CB
    go_wp2_with (refine wpList_store_saga (s := SagaD.mk name P N K 1 1 1 (upH 0)) (by rfl) _ _ (by rfl) (by rfl) T2.out (by rfl) ?_)
    intro w3 hb3 hg
    obtain ⟨b, hbb⟩ : ∃ b, w2.heap.size = b := ⟨_, rfl⟩
    have HBB : Hid (w.heap.size ≤ b) := by rw [← hbb]; exact Below.size L2.out
    have HXB : Hid (x < b) := by rw [← hbb]; exact lt_of_block D2.out
    have S3 : Hid (StepsAt (fun i => i ≠ b) w3 (.slice P N K) l0) := by
      have h4 : StepsAt (fun i => i ≠ b) w2 (.slice P N K) l0 := FlatAt.mono HS2.out (fun i hi _ => by omega)
      exact StepsAt.kept (StepsAt.kept h4 (Kept.of_below L2a.out _)) (Kept.of_grown hg (fun k hk hf => by have := Option.some.inj hk; omega))
    have HLo := hide (L2.out.trans L2a.out)
    have L3 : Hid (Later w w3) := HLo.out.grown hg (Below.size HLo.out) (fun k hk => by have := Option.some.inj hk; have := HBB.out; omega)
    have D3 : Hid (DefBox x name (.slice A1 n c1) w3) := (hg.block x (lt_of_block (D2.out.below L2a.out)) (fun e => by have := Option.some.inj e; have := HXB.out; omega)).trans (D2.out.below L2a.out)
    rw [hbb] at hb3
    have X3 := hide hb3
    rw [hbb]
    clear hb3 hg hbb T2 HLo HS2
    by_cases h200 : 200 < n2
    · have h200' : (200 : Int) < (n2 : Int) := by omega
      go_wp2_with (fail)
      refine (CLV.out _).mono ?_
      rintro e w9 ⟨rfl, hl⟩
      have L9 := hide (L3.out.trans hl)
      clear hl
      go_wp2
      go_ret
      exact ⟨rfl, L9.out⟩
    · have h200' : ¬ (200 : Int) < (n2 : Int) := by omega
      have x0 := D3.out.name_
      have x1 := D3.out.steps
      go_wp2_with (fail)
      refine (CL1.out _ L3.out).mono ?_
      rintro e w4 ⟨rfl, hl⟩
      have L4 := hide (L3.out.trans hl)
      have D4 := hide (D3.out.below hl)
      have X4 := hide (X3.out.below hl)
      have S4 := hide (StepsAt.kept S3.out (Kept.of_below hl _))
      obtain ⟨q1, hq1⟩ : ∃ q, longF name l0 = q := ⟨_, rfl⟩
      rw [hq1]
      clear hl x0 x1 hq1
      cases q1 with
      | true =>
        go_wp2_with (fail)
        refine (CLV.out _).mono ?_
        rintro e w9 ⟨rfl, hl⟩
        have L9 := hide (L4.out.trans hl)
        clear hl
        go_wp2
        go_ret
        exact ⟨rfl, L9.out⟩
      | false =>
        obtain ⟨w5, hw5⟩ : ∃ w5, w5 = (w4.alloc (.cells #[.bool false, .bool false, .bool false, .bool false, .bool false, .bool false, .bool false, .bool false] 25 (0, 0))).alloc (.cells #[.bool false, .bool false, .bool false, .bool false, .bool false, .bool false, .bool false, .bool false] 25 (0, 0)) := ⟨_, rfl⟩
        obtain ⟨b7, hb7⟩ : ∃ b7, b7 = w4.heap.size := ⟨_, rfl⟩
        have DD : Hid (HitBox b7 (upH 0) w5) := by rw [hw5, hb7]; exact (heap_alloc_old _ _ (by simp)).trans (heap_alloc_new _ _)
        have UU : Hid (HitBox (b7 + 1) (upH 0) w5) := by rw [hw5, hb7]; exact heap_second _ _ _
        have L45 : Hid (Later w4 w5) := by rw [hw5]; exact ((Below.refl _ _).alloc (Nat.le_refl _) _).alloc (by simp) _
        have HB7 : Hid (b < b7 ∧ w.heap.size ≤ b7) := by rw [hb7]; exact ⟨SBox.lt X4.out, Below.size L4.out⟩
        have LS5 : Hid (Lies x b b7 (b7 + 1) name A1 n c1 ⟨name, P, N, K, 1, 1, 1, upH 0⟩ ⟨upH 0, upH 0, 99, false⟩ w w5) := ⟨X4.out.below L45.out, DD.out, UU.out, D4.out.below L45.out, L4.out.trans L45.out⟩
        have S5 : Hid (StepsAt (fun i => i ≠ b ∧ i ≠ b7 ∧ i ≠ b7 + 1) w5 (.slice P N K) l0) := by
          have h4 : StepsAt (fun i => i ≠ b ∧ i ≠ b7 ∧ i ≠ b7 + 1) w4 (.slice P N K) l0 := FlatAt.mono S4.out (fun i hi hf => ⟨hf, by omega, by omega⟩)
          exact StepsAt.kept h4 (Kept.of_below L45.out _)
        have HW5 := hide hw5.symm
        have HBE := hide hb7.symm
        clear hw5 hb7 h200 DD UU S4 X4 D4
        go_wp2_with (fail)
        simp only [HW5.out, HBE.out]
        go_loopw [38, 9, 10] (fun ti s9 s10 wr => ∃ (i : Nat) (s : SagaD) (l : List StepD) (k : Kp), ti = .int .i64 (i : Int) ∧ i ≤ n2 ∧ s9 = .int .i64 k.last ∧ s10 = .bool k.und ∧ Lies x b b7 (b7 + 1) name A1 n c1 s k w wr ∧ StepsAt (fun i => i ≠ b ∧ i ≠ b7 ∧ i ≠ b7 + 1) wr s.v l ∧ LI l0 name l s k) (fun ti _ _ _ => n2 - (intOf ti).toNat)
        case atStart =>
          refine ⟨0, ⟨name, P, N, K, 1, 1, 1, upH 0⟩, l0, ⟨upH 0, upH 0, 99, false⟩, rfl, Nat.zero_le _, rfl, rfl, LS5.out, S5.out, .inl rfl, ⟨by show (0 : Int) ≤ 1; omega, by show (1 : Int) ≤ 9; omega⟩, .inl ⟨0, rfl, rfl, begin_runs HE.out P N K, rfl, fun i hi => ?_, fun i hi => ?_, rfl⟩⟩
          · exact get_up (m := 0) hi
          · show (upH ((0 : Nat) : Int)).get i = false
            rw [get_up hi]; simp
        case round =>
          obtain ⟨i, s, l, k, rfl, hi, rfl, rfl, hlies, hsteps, hli⟩ := hrel
          have LR := hide hlies
          have SR := hide hsteps
          have HLI := hide hli
          clear hlies hsteps hli
          by_cases hlt : i < n2
          · obtain ⟨ev, eb, eo, ec, hev, hvv, _, _, _, hr⟩ := EvsAt.at_ (UK.out _ LR.out.bl) (i := i) (by rw [HN2.out]; exact hlt)
            rw [HN2.out] at hvv
            obtain ⟨rfl, rfl⟩ : A2 = some ⟨eb, eo, none⟩ ∧ c2 = ec := by injection hvv with e1 _ e3; exact ⟨e1, e3⟩
            obtain ⟨r0, r1, r2, r3, r4⟩ := range_ev hr
            obtain ⟨V1, hV1⟩ : ∃ V1, V1 = wr.alloc (.cells #[.int .i64 ev.kind, .int .i64 ev.step, .int .i64 ev.tr, .bool ev.back, .bool ev.good] 47 (0, 0)) := ⟨_, rfl⟩
            obtain ⟨y, hy⟩ : ∃ y, y = wr.heap.size := ⟨_, rfl⟩
            have E1 : Hid (EvBox y ev V1) := by rw [hV1, hy]; exact heap_alloc_new wr _
            have LV1 : Hid (Later wr V1) := by rw [hV1]; exact (Below.refl _ _).alloc (Nat.le_refl _) _
            have HY : Hid (b7 + 1 < y ∧ x < y) := by rw [hy]; exact ⟨lt_of_block LR.out.bu, lt_of_block LR.out.bf⟩
            have LR1 := hide (LR.out.below LV1.out)
            have SR1 := hide (StepsAt.kept SR.out (Kept.of_below LV1.out _))
            have hst := HLI.out.2.1
            have hl6 : l.length ≤ 8 := by
              rcases HLI.out.1 with e | e
              · rw [e, HN.out]; exact h8
              · rw [e]; decide
            have hwl : ∀ a ∈ l, a.wf := by
              rcases HLI.out.1 with e | e
              · rw [e]; exact HWF.out
              · rw [e]; intro a ha; cases ha
            have CW0 := hide (wants_any SR1.out hwl (by unfold I64; omega))
            have CH0 : Hid (∀ W, Later V1 W → Calls Try.prog 16 #[s.val, .agg #[.int .i64 ev.kind, .int .i64 ev.step, .int .i64 ev.tr, .bool ev.back, .bool ev.good]] W (Told (happenF l s ev).1 (happenF l s ev).2 (happenL l s ev) W)) := fun W hW => happen_any (ev := ev) (StepsAt.kept SR1.out (Kept.of_below hW _)) (by omega) hwl (by unfold I64; omega)
            obtain ⟨cs, hcs⟩ : ∃ c, (wantsC l s).stub = c := ⟨_, rfl⟩
            obtain ⟨ct, hct⟩ : ∃ c, (wantsC l s).step = c := ⟨_, rfl⟩
            obtain ⟨cr, hcr⟩ : ∃ c, (wantsC l s).tr = c := ⟨_, rfl⟩
            obtain ⟨cb, hcb⟩ : ∃ c, (wantsC l s).back = c := ⟨_, rfl⟩
            obtain ⟨wb, hwb⟩ : ∃ c, wantsB l s = c := ⟨_, rfl⟩
            have CW : Hid (Calls Try.prog 11 #[s.val] V1 fun e w' => e = .returned (.tuple #[.agg #[.int .i64 0, .int .i64 cs, .int .i64 0, .int .i64 ct, .int .i64 cr, .bool cb], .int .i64 (wantsW l s), .bool wb]) ∧ Later V1 w') := CW0.out.mono (fun e w' he => ⟨by rw [he.1, ← hcs, ← hct, ← hcr, ← hcb, ← hwb]; rfl, he.2⟩)
            obtain ⟨tk, htk⟩ : ∃ c, wantsW l s = c := ⟨_, rfl⟩
            rw [htk] at CW
            obtain ⟨t, ht⟩ : ∃ c, (happenF l s ev).1 = c := ⟨_, rfl⟩
            obtain ⟨tq, htq⟩ : ∃ c, (happenF l s ev).2 = c := ⟨_, rfl⟩
            obtain ⟨l2, hl2⟩ : ∃ c, happenL l s ev = c := ⟨_, rfl⟩
            rw [ht, htq, hl2] at CH0
            have HNX : Hid (2 ≤ ev.kind → LI l0 name l2 t (k.next l s t ev.kind)) := fun hk => by
              have := li_next HE.out HLI.out hk
              rwa [ht, hl2] at this
            have HMK : Hid (wb = true → ∃ q : Nat, ct = (q : Int) + 1 ∧ s.step = (q : Int) + 1 ∧ q < 8 ∧ ((s.st = 1 ∧ cb = false ∧ k.und = false ∧ k.did.get q = false) ∨ (s.st = 2 ∧ cb = true ∧ k.undid.get q = false ∧ s.step < k.last ∧ s.hit.get q = true))) := fun hwt => by
              rw [hwt] at hwb
              obtain ⟨q, a1, a2, a3⟩ := li_mark HE.out HLI.out hwb
              obtain ⟨e1, e2⟩ := wants_cmd hwb a1
              refine ⟨q, by rw [← hct, e1], a1, a2, ?_⟩
              rcases a3 with ⟨z1, z2, z3⟩ | ⟨z1, z2, z3, z4⟩
              · exact .inl ⟨z1, by rw [← hcb, e2, z1]; rfl, z2, z3⟩
              · exact .inr ⟨z1, by rw [← hcb, e2, z1]; rfl, z2, z3, z4⟩
            have HWB := hide hwb
            have XR : Hid (SBox 27 b s (wr.alloc (.cells #[.int .i64 ev.kind, .int .i64 ev.step, .int .i64 ev.tr, .bool ev.back, .bool ev.good] 47 (0, 0)))) := by have := LR1.out.bx; rwa [hV1] at this
            have HV1 := hide hV1.symm
            have HYE := hide hy.symm
            clear hev hvv hr hV1 hy hst hl6 hwl CW0 hcs hct hcr hcb hwb htk ht htq hl2 hi
            go_wp2_with (refine wpList_load_saga (by rfl) _ (by rfl) (by rfl) XR.out ?_; simp only [HV1.out, HYE.out])
            refine CW.out.mono ?_
            rintro e W2 ⟨rfl, hl⟩
            have L12 := hide hl
            have LR2 := hide (LR1.out.below hl)
            have E2 := hide (E1.out.below hl)
            obtain ⟨V2, hV2⟩ : ∃ V2, V2 = W2.alloc (.cells #[.int .i64 0, .int .i64 cs, .int .i64 0, .int .i64 ct, .int .i64 cr, .bool cb] 38 (0, 0)) := ⟨_, rfl⟩
            obtain ⟨z, hz⟩ : ∃ z, z = W2.heap.size := ⟨_, rfl⟩
            have B2 : Hid (CBox z ⟨cs, ct, cr, cb⟩ V2) := by rw [hV2, hz]; exact heap_alloc_new W2 _
            have LV2 : Hid (Later W2 V2) := by rw [hV2]; exact (Below.refl _ _).alloc (Nat.le_refl _) _
            have LR3 := hide (LR2.out.below LV2.out)
            have E3 := hide (E2.out.below LV2.out)
            have L13 := hide (L12.out.trans LV2.out)
            have HZ : Hid (y < z) := by rw [hz]; exact lt_of_block E2.out
            have XR2 : Hid (SBox 27 b s (W2.alloc (.cells #[.int .i64 0, .int .i64 cs, .int .i64 0, .int .i64 ct, .int .i64 cr, .bool cb] 38 (0, 0)))) := by have := LR3.out.bx; rwa [hV2] at this
            have HV2 := hide hV2.symm
            have HZE := hide hz.symm
            obtain ⟨e0, e1, e2, e3, e4⟩ := E3.out.cells
            clear hl hV2 hz CW r0 r1 r2 r3 r4
            go_wp2_with (refine wpList_load_saga (by rfl) _ (by rfl) (by rfl) XR2.out ?_; simp only [HV2.out, HZE.out])
            refine (CH0.out _ L13.out).mono ?_
            rintro e W4 ⟨P4, N4, K4, rfl, hs, hl⟩
            have LR4 := hide (LR3.out.below hl)
            have E4 := hide (E3.out.below hl)
            have B4 := hide (B2.out.below hl)
            have HS4 := hide hs
            have HZ4 : Hid (z < W4.heap.size ∧ V2.heap.size ≤ W4.heap.size ∧ z < V2.heap.size) := ⟨CBox.lt (B2.out.below hl), Below.size hl, CBox.lt B2.out⟩
            have T4 : Hid (SBox 27 W4.heap.size SagaD.zero (W4.alloc (.cells #[.string ⟨#[]⟩, .slice none 0 0, .int .i64 0, .int .i64 0, .int .i64 0, .bool false, .bool false, .bool false, .bool false, .bool false, .bool false, .bool false, .bool false] 27 (0, 0)))) := heap_alloc_new _ _
            have L4a : Hid (Later W4 (W4.alloc (.cells #[.string ⟨#[]⟩, .slice none 0 0, .int .i64 0, .int .i64 0, .int .i64 0, .bool false, .bool false, .bool false, .bool false, .bool false, .bool false, .bool false, .bool false] 27 (0, 0)))) := (Below.refl _ _).alloc (Nat.le_refl _) _
            clear hs hl e0 e1 e2 e3 e4
            go_wp2_with (refine wpList_store_saga (s := t.withV P4 N4 K4) (by rfl) _ _ (by rfl) (by rfl) T4.out (by rfl) ?_)
            intro w7 hb16 hg
            obtain ⟨g, hgg⟩ : ∃ g, W4.heap.size = g := ⟨_, rfl⟩
            have LR7 : Hid (Lies x b b7 (b7 + 1) name A1 n c1 s k w w7) := (LR4.out.below L4a.out).other hg (by have := HZ4.out; have := HZ.out; have := HY.out; have := HB7.out; omega) (by have := HZ4.out; have := HZ.out; have := HY.out; omega) (by have := HZ4.out; have := HZ.out; have := HY.out; omega) (by have := HZ4.out; have := HZ.out; have := HY.out; omega) (Below.size LR4.out.bl)
            have E7 : Hid (EvBox y ev w7) := (hg.block y (lt_of_block (E4.out.below L4a.out)) (fun e => by have := Option.some.inj e; have := lt_of_block E4.out; omega)).trans (E4.out.below L4a.out)
            have B7 : Hid (CBox z ⟨cs, ct, cr, cb⟩ w7) := (hg.block z (lt_of_block (B4.out.below L4a.out)) (fun e => by have := Option.some.inj e; have := HZ4.out; omega)).trans (B4.out.below L4a.out)
            have S7 : Hid (StepsAt (fun i => V2.heap.size ≤ i ∧ i ≠ g) w7 (.slice P4 N4 K4) l2) := by
              have h4 : StepsAt (fun i => V2.heap.size ≤ i ∧ i ≠ g) W4 (.slice P4 N4 K4) l2 := FlatAt.mono HS4.out (fun i hi hf => ⟨hf, by omega⟩)
              exact StepsAt.kept (StepsAt.kept h4 (Kept.of_below L4a.out _)) (Kept.of_grown hg (fun k hk hf => hf.2 (by rw [← hgg]; exact (Option.some.inj hk).symm)))
            have HG : Hid (z < g ∧ V2.heap.size ≤ g ∧ z < V2.heap.size) := by rw [← hgg]; exact HZ4.out
            rw [hgg] at hb16
            have T7 := hide hb16
            rw [hgg]
            clear hb16 hg hgg T4 HS4 HZ4
            obtain ⟨k0, k1, k2, k3, k4, k5, kf⟩ := B7.out.cells
            obtain ⟨e0, e1, e2, e3, e4⟩ := E7.out.cells
            go_upto_region 12 with (fail)
            go_cut [69] (fun s69 wx => s69 = .bool (wb && decide (ev.kind = 3)) ∧ wx = w7)
            case first =>
              cases wb with
              | false =>
                go_wp2_with (fail)
                go_meet
                exact ⟨rfl, rfl⟩
              | true =>
                obtain ⟨q, rfl, _, hq8, _⟩ := HMK.out rfl
                have f1 : 1 ≤ (q : Int) + 1 := by omega
                have f2 : (q : Int) + 1 ≤ 8 := by omega
                by_cases h3 : ev.kind = 3
                · have hb3 : (ev.kind == 3) = true := by simpa using h3
                  have hd3 := hide (decide_eq_true h3)
                  clear h3
                  go_wp2_with (fail)
                  go_meet
                  exact ⟨by rw [hd3.out]; rfl, rfl⟩
                · have hb3 : (ev.kind == 3) = false := by rw [beq_eq_false_iff_ne]; exact h3
                  have hd3 := hide (decide_eq_false h3)
                  clear h3
                  go_wp2_with (fail)
                  go_meet
                  exact ⟨by rw [hd3.out]; rfl, rfl⟩
            case rest =>
              obtain ⟨rfl, hwc⟩ := hcut
              obtain rfl := hwc.symm
              clear hwc
              obtain ⟨M, hM⟩ : ∃ M, (wb && decide (ev.kind = 3)) = M := ⟨_, rfl⟩
              rw [hM]
              have HM := hide hM
              clear hM
              go_upto_if 69 with (fail)
              go_cut [9, 10] (fun s9 s10 wx => ∃ kk : Kp, s9 = .int .i64 kk.last ∧ s10 = .bool k.und ∧ (k.next l s t ev.kind).did = kk.did ∧ (k.next l s t ev.kind).undid = kk.undid ∧ (k.next l s t ev.kind).last = kk.last ∧ (k.next l s t ev.kind).und = (k.und || decide (t.st = 2)) ∧ Lies x b b7 (b7 + 1) name A1 n c1 s kk w wx ∧ SBox 27 g (t.withV P4 N4 K4) wx ∧ EvBox y ev wx ∧ StepsAt (fun i => V2.heap.size ≤ i ∧ i ≠ g) wx (.slice P4 N4 K4) l2)
              case first =>
                cases M with
                | false =>
                  have HN0 : Hid (k.next l s t ev.kind = ⟨k.did, k.undid, k.last, k.und || decide (t.st = 2)⟩) := by
                    show _ = _
                    unfold Kp.next
                    rw [if_neg (fun h => by have := HM.out; rw [← HWB.out, h.1, decide_eq_true h.2] at this; cases this)]
                  go_wp2_with (fail)
                  go_meet
                  exact ⟨k, rfl, rfl, by rw [HN0.out], by rw [HN0.out], by rw [HN0.out], by rw [HN0.out], LR7.out, T7.out, E7.out, S7.out⟩
                | true =>
                  have hboth := HM.out
                  rw [Bool.and_eq_true, decide_eq_true_eq] at hboth
                  have hwt : wb = true := hboth.1
                  have HK3 := hide hboth.2
                  obtain ⟨q, rfl, hsp, hq8, hcase⟩ := HMK.out hwt
                  have HSP := hide hsp
                  obtain rfl : wb = true := hwt
                  clear hboth hsp
                  rcases hcase with ⟨m0, m1, m2, m4⟩ | ⟨m0, m1, m3, m2, m5⟩
                  · have HS0 := hide m0
                    obtain rfl : cb = false := m1
                    have m3 := m2
                    have m1 := trivial
                    have hw0 := LR7.out.bd.get hq8
                    rw [m4] at hw0
                    have hf0 := LR7.out.bd.cells.2.2.2.2.2.2.2.2 q
                    have HU0 := hide m2
                    have hu0 := m2
                    have hwr : IntKind.i64.wrap (q : Int) = (q : Int) := wrap_fits (by omega)
                    have HN0 : Hid (k.next l s t ev.kind = ⟨k.did.set q true, k.undid, k.last, k.und || decide (t.st = 2)⟩) := by
                      show _ = _
                      unfold Kp.next
                      rw [if_pos ⟨HWB.out, HK3.out⟩, if_neg (by rw [HS0.out]; decide), HSP.out, show ((q : Int) + 1 - 1).toNat = q from by omega]
                    have LR8 : Hid (Lies x b b7 (b7 + 1) name A1 n c1 s ⟨k.did.set q true, k.undid, k.last, k.und⟩ w (w7.setCell ⟨b7, q, none⟩ (.bool true))) :=
                      ⟨(heap_setCell_other _ _ _ _ (by simp; have := HB7.out; omega)).trans LR7.out.bx, LR7.out.bd.set (cells_set true hq8), (heap_setCell_other _ _ _ _ (by simp)).trans LR7.out.bu, (heap_setCell_other _ _ _ _ (by simp; have := HB7.out; have := HXB.out; omega)).trans LR7.out.bf, LR7.out.bl.setCell (p := ⟨b7, q, none⟩) (by have := HB7.out; show _ ≤ b7; omega) _⟩
                    have T8 : Hid (SBox 27 g (t.withV P4 N4 K4) (w7.setCell ⟨b7, q, none⟩ (.bool true))) := (heap_setCell_other _ _ _ _ (by simp; have := HG.out; have := HZ.out; have := HY.out; omega)).trans T7.out
                    have E8 : Hid (EvBox y ev (w7.setCell ⟨b7, q, none⟩ (.bool true))) := (heap_setCell_other _ _ _ _ (by simp; have := HY.out; omega)).trans E7.out
                    have S8 : Hid (StepsAt (fun i => V2.heap.size ≤ i ∧ i ≠ g) (w7.setCell ⟨b7, q, none⟩ (.bool true)) (.slice P4 N4 K4) l2) :=
                      StepsAt.kept S7.out ⟨by simp, fun i _ hf => heap_setCell_other _ _ _ _ (by simp; have := hf.1; have := HG.out; have := HZ.out; have := HY.out; omega)⟩
                    clear m0 m1 m2 m3 m4
                    go_wp2_with (fail)
                    go_meet
                    exact ⟨⟨k.did.set q true, k.undid, k.last, k.und⟩, rfl, by rw [HU0.out], by rw [HN0.out], by rw [HN0.out], by rw [HN0.out], by rw [HN0.out], LR8.out, T8.out, E8.out, S8.out⟩
                  · have HS0 := hide m0
                    obtain rfl : cb = true := m1
                    have m4 := trivial
                    have m1 := trivial
                    rw [HSP.out] at m2
                    have hw0 := LR7.out.bu.get hq8
                    rw [m3] at hw0
                    have hf0 := LR7.out.bu.cells.2.2.2.2.2.2.2.2 q
                    have hh0 := LR7.out.bx.hitAt hq8
                    rw [m5] at hh0
                    have hlast : ¬ k.last ≤ (q : Int) + 1 := by omega
                    have B8 : Hid (CBox z ⟨cs, (q : Int) + 1, cr, true⟩ (w7.setCell ⟨b7 + 1, q, none⟩ (.bool true))) := (heap_setCell_other _ _ _ _ (by simp; have := HZ.out; have := HY.out; omega)).trans B7.out
                    have k8 := B8.out.cells.2.2.2.1
                    have hwr : IntKind.i64.wrap (q : Int) = (q : Int) := wrap_fits (by omega)
                    have HN0 : Hid (k.next l s t ev.kind = ⟨k.did, k.undid.set q true, s.step, k.und || decide (t.st = 2)⟩) := by
                      show _ = _
                      unfold Kp.next
                      rw [if_pos ⟨HWB.out, HK3.out⟩, if_pos HS0.out, HSP.out, show ((q : Int) + 1 - 1).toNat = q from by omega]
                    have LR8 : Hid (Lies x b b7 (b7 + 1) name A1 n c1 s ⟨k.did, k.undid.set q true, (q : Int) + 1, k.und⟩ w (w7.setCell ⟨b7 + 1, q, none⟩ (.bool true))) :=
                      ⟨(heap_setCell_other _ _ _ _ (by simp; have := HB7.out; omega)).trans LR7.out.bx, (heap_setCell_other _ _ _ _ (by simp)).trans LR7.out.bd, LR7.out.bu.set (cells_set true hq8), (heap_setCell_other _ _ _ _ (by simp; have := HB7.out; have := HXB.out; omega)).trans LR7.out.bf, LR7.out.bl.setCell (p := ⟨b7 + 1, q, none⟩) (by have := HB7.out; show _ ≤ b7 + 1; omega) _⟩
                    have T8 : Hid (SBox 27 g (t.withV P4 N4 K4) (w7.setCell ⟨b7 + 1, q, none⟩ (.bool true))) := (heap_setCell_other _ _ _ _ (by simp; have := HG.out; have := HZ.out; have := HY.out; omega)).trans T7.out
                    have E8 : Hid (EvBox y ev (w7.setCell ⟨b7 + 1, q, none⟩ (.bool true))) := (heap_setCell_other _ _ _ _ (by simp; have := HY.out; omega)).trans E7.out
                    have S8 : Hid (StepsAt (fun i => V2.heap.size ≤ i ∧ i ≠ g) (w7.setCell ⟨b7 + 1, q, none⟩ (.bool true)) (.slice P4 N4 K4) l2) :=
                      StepsAt.kept S7.out ⟨by simp, fun i _ hf => heap_setCell_other _ _ _ _ (by simp; have := hf.1; have := HG.out; have := HZ.out; have := HY.out; omega)⟩
                    clear m0 m1 m2 m3 m4 m5
                    go_wp2_with (fail)
                    go_meet
                    exact ⟨⟨k.did, k.undid.set q true, (q : Int) + 1, k.und⟩, rfl, rfl, by rw [HN0.out], by rw [HN0.out], by rw [HN0.out]; exact HSP.out, by rw [HN0.out], LR8.out, T8.out, E8.out, S8.out⟩
              case rest =>
                obtain ⟨kk, rfl, rfl, n1, n2', n3, n4, hlr, htb, heb, hss⟩ := hcut
                have LR9 := hide hlr
                have T9 := hide htb
                have E9 := hide heb
                have S9 := hide hss
                obtain ⟨U, hU⟩ : ∃ u, (k.und || decide (t.st = 2)) = u := ⟨_, rfl⟩
                have HKN : Hid (k.next l s t ev.kind = ⟨kk.did, kk.undid, kk.last, U⟩) := by
                  show _ = _
                  rw [← hU, ← n4, ← n1, ← n2', ← n3]
                have HU := hide hU
                obtain ⟨w9, rfl⟩ : ∃ w9, w9 = wc := ⟨wc, rfl⟩
                have tc : w9.cell? ⟨g, 2, none⟩ = some (.int .i64 t.st) := T9.out.c2
                clear n1 n2' n3 n4 hlr htb heb hss hU HMK HM k0 k1 k2 k3 k4 k5 kf e0 e1 e2 e3 e4
                go_upto_region 21 with (fail)
                go_cut [10] (fun s10 wx => s10 = .bool U ∧ wx = w9)
                case first =>
                  obtain ⟨u0, hu0⟩ : ∃ u, k.und = u := ⟨_, rfl⟩
                  rw [hu0] at HU ⊢
                  clear hu0
                  cases u0 with
                  | true =>
                    obtain rfl : U = true := by rw [← HU.out]; rfl
                    go_wp2_with (fail)
                    go_meet
                    exact ⟨rfl, rfl⟩
                  | false =>
                    by_cases s2 : t.st = 2
                    · obtain rfl : U = true := by rw [← HU.out, s2]; rfl
                      have b2 : (t.st == 2) = true := by simpa using s2
                      have tc2 := tc
                      clear s2 HU
                      go_wp2_with (fail)
                      go_meet
                      exact ⟨rfl, rfl⟩
                    · obtain rfl : U = false := by rw [← HU.out, decide_eq_false s2]; rfl
                      have b2 : (t.st == 2) = false := by rw [beq_eq_false_iff_ne]; exact s2
                      clear s2 HU
                      go_wp2_with (fail)
                      go_meet
                      exact ⟨rfl, rfl⟩
                case rest =>
                  obtain ⟨rfl, hwc⟩ := hcut
                  obtain rfl := hwc.symm
                  have HOK : Hid (2 < ev.kind → ∀ j, j < 8 → okEnd l0.length t kk j = true) := fun h j hj => by
                    have := li_end (HNX.out (by omega)) hj
                    rw [HKN.out] at this
                    exact this
                  clear hwc
                  go_wp2_with (fail)
                  go_loopw [116] (fun tj wi => ∃ j : Nat, tj = .int .i64 (j : Int) ∧ j ≤ 8 ∧ wi = w9) (fun tj _ => 8 - (intOf tj).toNat)
                  case atStart => exact ⟨0, rfl, by omega, rfl⟩
                  case round =>
                    obtain ⟨j, rfl, hj, hwi⟩ := hrel
                    obtain rfl := hwi.symm
                    clear hwi
                    by_cases hj8 : j < 8
                    · have dc := LR9.out.bd.get hj8
                      have uc := LR9.out.bu.get hj8
                      have td := tc
                      have xc := LR9.out.bf.steps
                      have ec := E9.out.cells.1
                      have hj8' : (j : Int) < 8 := by omega
                      have HN8 := hide hj
                      clear hj tc
                      obtain ⟨dj, hdj⟩ : ∃ d, kk.did.get j = d := ⟨_, rfl⟩
                      obtain ⟨uj, huj⟩ : ∃ d, kk.undid.get j = d := ⟨_, rfl⟩
                      rw [hdj] at dc
                      rw [huj] at uc
                      have HO : Hid (2 < ev.kind → (!(decide (t.st = 4) && (dj && !uj) || decide (t.st = 3) && (uj || (decide (j < n) && !dj)))) = true) := fun h => by have := HOK.out h j hj8; unfold okEnd at this; rw [HN.out] at this; rw [hdj, huj] at this; exact this
                      clear hdj huj
                      by_cases s4 : t.st = 4
                      · rw [s4] at td
                        have s3 : ¬ t.st = 3 := by omega
                        cases dj with
                        | false =>
                          clear s3 s4 HO
                          go_wp2_with (fail)
                          go_roundw
                          case rel => exact ⟨j + 1, by go_num, by omega, trivial⟩
                          case measure => simp [intOf]; omega
                        | true =>
                          cases uj with
                          | true =>
                            clear s3 s4 HO
                            go_wp2_with (fail)
                            go_roundw
                            case rel => exact ⟨j + 1, by go_num, by omega, trivial⟩
                            case measure => simp [intOf]; omega
                          | false =>
                            have hk2 : ¬ 2 < ev.kind := fun h => by have := HO.out h; simp [s4] at this
                            clear HO s3 s4
                            go_wp2_with (fail)
                            go_roundw
                            case rel => exact ⟨j + 1, by go_num, by omega, trivial⟩
                            case measure => simp [intOf]; omega
                      · have b4 : (t.st == 4) = false := by rw [beq_eq_false_iff_ne]; exact s4
                        by_cases s3 : t.st = 3
                        · rw [s3] at td b4
                          cases uj with
                          | true =>
                            have hk2 : ¬ 2 < ev.kind := fun h => by have := HO.out h; simp [s3] at this
                            clear HO s3 s4
                            go_wp2_with (fail)
                            go_roundw
                            case rel => exact ⟨j + 1, by go_num, by omega, trivial⟩
                            case measure => simp [intOf]; omega
                          | false =>
                            by_cases hjn : j < n
                            · have hjn2 : (j : Int) < (n : Int) := by omega
                              cases dj with
                              | true =>
                                clear HO s3 s4
                                go_wp2_with (fail)
                                go_roundw
                                case rel => exact ⟨j + 1, by go_num, by omega, trivial⟩
                                case measure => simp [intOf]; omega
                              | false =>
                                have hk2 : ¬ 2 < ev.kind := fun h => by have := HO.out h; simp [s3, hjn] at this
                                clear HO s3 s4
                                go_wp2_with (fail)
                                go_roundw
                                case rel => exact ⟨j + 1, by go_num, by omega, trivial⟩
                                case measure => simp [intOf]; omega
                            · have hjn2 : ¬ (j : Int) < (n : Int) := by omega
                              clear HO s3 s4
                              go_wp2_with (fail)
                              go_roundw
                              case rel => exact ⟨j + 1, by go_num, by omega, trivial⟩
                              case measure => simp [intOf]; omega
                        · have b3 : (t.st == 3) = false := by rw [beq_eq_false_iff_ne]; exact s3
                          clear HO s3 s4
                          go_wp2_with (fail)
                          go_roundw
                          case rel => exact ⟨j + 1, by go_num, by omega, trivial⟩
                          case measure => simp [intOf]; omega
                    · have hj9 : ¬ (j : Int) < 8 := by omega
                      clear hj8 tc
                      go_wp2_with (first | (refine wpList_load_saga (by rfl) _ (by rfl) (by rfl) T9.out ?_) | (refine wpList_store_saga (s := t.withV P4 N4 K4) (by rfl) _ _ (by rfl) (by rfl) LR9.out.bx (by rfl) ?_))
                      intro w10 hb10 hg
                      have LR10 : Hid (Lies x b b7 (b7 + 1) name A1 n c1 (t.withV P4 N4 K4) ⟨kk.did, kk.undid, kk.last, U⟩ w w10) :=
                        ⟨hb10, LR9.out.bd.other hg (fun e => by have := Option.some.inj e; have := HB7.out; omega), LR9.out.bu.other hg (fun e => by have := Option.some.inj e; have := HB7.out; omega), (hg.block x (lt_of_block LR9.out.bf) (fun e => by have := Option.some.inj e; have := HXB.out; omega)).trans LR9.out.bf, LR9.out.bl.grown hg (Below.size LR9.out.bl) (fun k hk => by have := Option.some.inj hk; have := HBB.out; omega)⟩
                      have E10 : Hid (EvBox y ev w10) := (hg.block y (lt_of_block E9.out) (fun e => by have := Option.some.inj e; have := HY.out; have := HB7.out; omega)).trans E9.out
                      have S10 : Hid (StepsAt (fun i => i ≠ b ∧ i ≠ b7 ∧ i ≠ b7 + 1) w10 (.slice P4 N4 K4) l2) := by
                        have h9 := StepsAt.kept S9.out (Kept.of_grown hg (fun k hk hf => by have := Option.some.inj hk; have := hf.1; have := HG.out; have := HZ.out; have := HY.out; have := HB7.out; omega))
                        exact FlatAt.mono h9 (fun i _ hf => by have := hf.1; have := HG.out; have := HZ.out; have := HY.out; have := HB7.out; omega)
                      have ec := E10.out.cells.1
                      clear hb10 hg hj9 hj
                      by_cases hk2 : ev.kind < 2
                      · have LRX := hide LR10.out.bl
                        go_wp2_with (fail)
                        refine (CLV.out _).mono ?_
                        rintro e w11 ⟨rfl, hl⟩
                        have L11 := hide (LRX.out.trans hl)
                        clear hl
                        go_wp2
                        go_ret
                        exact ⟨rfl, L11.out⟩
                      · have HLN : Hid (LI l0 name l2 (t.withV P4 N4 K4) ⟨kk.did, kk.undid, kk.last, U⟩) := by
                          have := (HNX.out (by omega)).withV P4 N4 K4
                          rw [HKN.out] at this
                          exact this
                        have HI1 := hide hlt
                        clear hlt
                        go_wp2_with (fail)
                        have hwi : wrap64 ((i : Int) + 1) = ((i + 1 : Nat) : Int) := by
                          have h1 := HI1.out
                          rw [IntWalk.wrap64_in _ (by omega)]
                          omega
                        rw [hwi]
                        exact ⟨⟨i + 1, t.withV P4 N4 K4, l2, ⟨kk.did, kk.undid, kk.last, U⟩, rfl, HI1.out, rfl, rfl, LR10.out, S10.out, HLN.out⟩, by have := HI1.out; simp [intOf]; omega⟩
          · have hin : i = n2 := by omega
            clear hlt hi
            have LRL := hide LR.out.bl
            go_wp2_with (fail)
            refine (CLV.out _).mono ?_
            rintro e w9 ⟨rfl, hl⟩
            have L9 := hide (LRL.out.trans hl)
            clear hl
            go_wp2
            go_ret
            exact ⟨rfl, L9.out⟩
  · have CB := hide (begin_err (name := name) (SL.out W1 L1.out) he)
    obtain ⟨k2, hk2⟩ : ∃ k, (checkF name l0).2 = k := ⟨_, rfl⟩
    rw [hk2] at CB
    have hb0 : ((k2 : Int) != 0) = true := by
      have : k2 ≠ 0 := by rw [← hk2]; exact he
      simpa using this
    clear hl hk hn hn2 hW1 hx hb he hwf hk2
    go_enter Try.func4, Try.ntmps4
    go_wp2_with (fail)
    simp only [HW1.out, HX.out]
    refine CB.out.mono ?_
    rintro e w2 ⟨rfl, hl⟩
    have L2 := hide (L1.out.trans hl)
    have T2 : Hid (SBox 27 w2.heap.size SagaD.zero (w2.alloc (.cells #[.string ⟨#[]⟩, .slice none 0 0, .int .i64 0, .int .i64 0, .int .i64 0, .bool false, .bool false, .bool false, .bool false, .bool false, .bool false, .bool false, .bool false] 27 (0, 0)))) := heap_alloc_new _ _
    have L2a : Hid (Later w2 (w2.alloc (.cells #[.string ⟨#[]⟩, .slice none 0 0, .int .i64 0, .int .i64 0, .int .i64 0, .bool false, .bool false, .bool false, .bool false, .bool false, .bool false, .bool false, .bool false] 27 (0, 0)))) := (Below.refl _ _).alloc (Nat.le_refl _) _
    clear hl CB
    go_wp2_with (refine wpList_store_saga (s := SagaD.zero) (by rfl) _ _ (by rfl) (by rfl) T2.out (by rfl) ?_)
    intro w3 hb3 hg
    have HLo := hide (L2.out.trans L2a.out)
    have hz : w.heap.size ≤ w2.heap.size := Below.size L2.out
    have L3 : Hid (Later w w3) := HLo.out.grown hg (Below.size HLo.out) (fun k hk => by have := Option.some.inj hk; omega)
    clear hb3 hg hz HLo
    go_wp2_with (fail)
    refine (CLV.out _).mono ?_
    rintro e w5 ⟨rfl, hl⟩
    have L5 := hide (L3.out.trans hl)
    clear hl
    go_wp2
    go_ret
    exact ⟨rfl, L5.out⟩
end
end Go.Proofs.Ytodifeoficjamaa
/- SagaUndoes, as the claim asks it. -/
namespace Go.Proofs.Ytodifeoficjamaa
open Go.RowKit
theorem law_undoesW (nm : ByteArray) (v : Value) (l : List StepD) (v2 : Value) (es : List EvD) (w : World) (h1 : StepsAt (· < w.heap.size) w v l) (_ : nm.size ≤ 140737488355328) (hwf : ∀ s ∈ l, s.wf) (h2 : EvsAt (· < w.heap.size) w v2 es) (_ : ∀ e ∈ es, e.wf) :
    Calls Try.prog 4 #[.agg #[.string nm, v], v2] w fun e w' => e = .returned (.bool true) ∧ Later w w' := law_undoes h1 (flat_small h1) hwf h2 (flat_small h2)
end Go.Proofs.Ytodifeoficjamaa
namespace Go.Proofs.Ytodifeoficjamaa
open Go.ChangeShapes Go.WideShapes Go.ChangeAt Go.RowKit

theorem sagaUndoes_lawKnobs : ownKnob Try.prog.godebug = none := by kernel_rfl
theorem sagaUndoes_allLaid : laidOutB Try.prog = true := by kernel_rfl

set_option maxRecDepth 100000 in
set_option maxHeartbeats 1000000 in
theorem sagaUndoes_lifted (os : Os) (started : os.Started) (H : Type) (enc : TypeId × Value → H) :
    ReturnsInHanded {} Try.checked os 4 .any (Rows.sagaUndoesSpec.pre6 enc Try.prog Try.f4 Rows.sagaUndoesRow.domain false) (Rows.sagaUndoesSpec.post enc Try.prog Try.f4 false true false false) := by
  refine returnsInHanded_of_change_sized (C := Try.checked) sagaUndoes_lawKnobs started (by kernel_rfl) Try.func4
    (ChangeSpec.witness6 (enc := enc) (C := Try.checked) false ⟨#[], #[.agg #[.string ⟨#[]⟩, .slice none 0 0], .slice none 0 0], []⟩ 8 (by kernel_rfl) (by kernel_rfl) (by kernel_rfl) (by kernel_rfl)) ?_
  intro W base args ds gs before hval0 hW hcnd hsz _
  have hval : ∀ (j : Nat) t v, Try.f4.params[j]? = some t → args[j]? = some v → Value.okWide Try.prog W .any base t v := hval0
  have hW' := hW
  obtain ⟨p, q, hA0, hV, rfl, _, _⟩ := hW
  have hA : DataW.TrodAll enc Try.prog W 0 (fun _ => true) true Try.f4.params.toList args.toList ds p := hA0
  rw [Try.params4] at hA hval
  obtain ⟨v0, vs0, d0, ds0, p0, q0, hargs, rfl, rfl, h0, r0⟩ := trodAll_cons hA
  obtain ⟨v1, vs1, d1, ds1, p1, q1, rfl, rfl, rfl, h1, r1⟩ := trodAll_cons r0
  obtain ⟨rfl, rfl, rfl⟩ := trodAll_nil r1
  obtain rfl : args = #[v0, v1] := by cases args; simp_all
  obtain ⟨rfl, rfl⟩ := trodVars_none hV
  have k0 := h0
  have lt0 : ∀ x ∈ p0, x.block < W.heap.size := by obtain ⟨m, hm⟩ := k0; exact DataW.trod_lt m _ _ _ hm
  have s0 : Sm 24 d0 := sm_of hsz (j := 0) rfl rfl
  obtain ⟨cs0, rfl, _⟩ := okWide_struct Try.underlying24 (hval 0 24 v0 rfl rfl)
  obtain ⟨nm0, sv0, l0, rfl, hs0, hn0, wf0⟩ := arg_def h0 s0
  have k1 := h1
  have lt1 : ∀ x ∈ p1, x.block < W.heap.size := by obtain ⟨m, hm⟩ := k1; exact DataW.trod_lt m _ _ _ hm
  have s1 : Sm 45 d1 := sm_of hsz (j := 1) rfl rfl
  obtain ⟨A1, len1, cap1, rfl⟩ := okWide_slice Try.underlying45 (hval 1 45 v1 rfl rfl)
  obtain ⟨l1, hl1, wf1⟩ := arg_evs h1 s1
  clear hA0 hval0
  refine (law_undoesW nm0 sv0 l0 (.slice A1 len1 cap1) l1 W hs0 hn0 wf0 hl1 wf1).mono fun e W' ⟨he, bel⟩ => ?_
  subst he
  exact ⟨_, rfl, _, _, _, [], _, [], hW', trodAll_mk1 (shut_bool Try.underlying4 _), (trodAll_cons_mk (Below.trod sagaUndoes_allLaid (by kernel_rfl) (of_decide_eq_true (by kernel_rfl)) k0 bel lt0) (trodAll_cons_mk (Below.trod sagaUndoes_allLaid (by kernel_rfl) (of_decide_eq_true (by kernel_rfl)) k1 bel lt1) trodAll_mk0)), rfl, bel.frame _, fun h => by cases h⟩

theorem sagaUndoes_over : Rows.sagaUndoesRow.holds Try.pinned (OpenSpec.ofChange Rows.sagaUndoesSpec) :=
  OpenClaim.holds_of_wide 4 Try.f4 rfl rfl rfl rfl rfl rfl rfl ⟨rfl, rfl, rfl, rfl, rfl⟩ rfl rfl rfl rfl rfl (by kernel_rfl) Try.func4 (by kernel_rfl)
    (of_decide_eq_true (by kernel_rfl)) (by unfold Func.isWrapper; first | (rw [if_pos (by decide +kernel)]; kernel_rfl) | (rw [if_neg (by decide +kernel)]; exact ⟨rfl, rfl⟩))
    (fun os started H enc _ => sagaUndoes_lifted os started H enc)

theorem sagaUndoes_holds : Rows.SagaUndoesSaid := sagaUndoes_over
#print axioms sagaUndoes_holds
end Go.Proofs.Ytodifeoficjamaa
