/- Texts merged: OrderS, OrderV, RecsSr, DefP, OpP, RecsO, Nums, MsgPl, Crc, EnvMath, NoteMsg, ReplyP. -/
import Derived.Test.YtehiaeihkdfclaaGreatDoorBaseN1
import Derived.Test.YtehiaeihkdfclaaGreatDoorBaseN2
import Derived.WalkKit
/- A region whose order is open, some of whose operations write what others read: the writers wait for those; what reads the same in all worlds may come up at once, and so may what all writers wait for. -/
namespace Go.Proofs.YtehiaeihkdfclaaGreatDoor
open Go.RowKit

section
variable {P : Program} {ops : Array Oper} {Q : Exit → Act → World → Prop} {md : Region.Mode} {S : Nat → Bool}

/-- Whatever order is picked from here on; behind each operation that is no writer the world is a later one. -/
def wpAnyS (S : Nat → Bool) (P : Program) (md : Region.Mode) (ops : Array Oper) (Q : Exit → Act → World → Prop) : Nat → Array Bool → Act → World → Prop
  | 0, listed, a, w => Region.ready md ops listed = [] ∧ Q .normal a w
  | fuel + 1, listed, a, w =>
    (Region.ready md ops listed = [] → Q .normal a w) ∧
    ∀ i ∈ Region.ready md ops listed, wpOp P ops Q i (fun a' w' => (S i = false → Later w w') ∧ wpAnyS S P md ops Q fuel (listed.setIfInBounds i true) a' w') a w

theorem wpAny_of_S : ∀ (fuel : Nat) (listed : Array Bool) (a : Act) (w : World), wpAnyS S P md ops Q fuel listed a w → wpAny P md ops Q fuel listed a w
  | 0, _, _, _, h => h
  | fuel + 1, _, _, _, h => ⟨h.1, fun i hi => wpOp_mono (fun a' w' h' => wpAny_of_S fuel _ a' w' h'.2) (h.2 i hi)⟩

/-- What is listed stands behind what it waits for. -/
def Closed (md : Region.Mode) (ops : Array Oper) (listed : Array Bool) : Prop := ∀ m om, ops[m]? = some om → listed.getD m false = true → ∀ e ∈ om.after, Region.binds md e = true → listed.getD e.on false = true
def closedB (md : Region.Mode) (ops : Array Oper) (listed : Array Bool) : Bool :=
  (List.range ops.size).all fun m => !listed.getD m false || (match ops[m]? with | some o => o.after.all (fun e => !Region.binds md e || listed.getD e.on false) | none => true)
theorem closed_spec {listed : Array Bool} (h : closedB md ops listed = true) : Closed md ops listed := by
  intro m om hm hl e he hb
  unfold closedB at h
  rw [List.all_eq_true] at h
  have h1 := h m (by rw [List.mem_range]; exact (Array.getElem?_eq_some_iff.1 hm).1)
  rw [hm, hl] at h1
  simp only [Bool.not_true, Bool.false_or] at h1
  rw [Array.all_eq_true] at h1
  obtain ⟨k, hk, rfl⟩ := Array.mem_iff_getElem.1 he
  have h2 := h1 k hk
  rw [hb] at h2
  simpa using h2
theorem getD_set_listed {listed : Array Bool} {j k : Nat} (h : (listed.setIfInBounds j true).getD k false = true) : k = j ∨ listed.getD k false = true := by
  by_cases e : j = k
  · exact .inl e.symm
  · rw [getD_set_ne false e] at h
    exact .inr h
theorem getD_set_more {listed : Array Bool} {j k : Nat} (h : listed.getD k false = true) : (listed.setIfInBounds j true).getD k false = true := by
  by_cases e : j = k
  · subst e
    have hj : j < listed.size := by
      rcases Nat.lt_or_ge j listed.size with h' | h'
      · exact h'
      · simp [Array.getElem?_eq_none h'] at h
    simp [hj]
  · rw [getD_set_ne false e]
    exact h
theorem Closed.next {listed : Array Bool} (h : Closed md ops listed) {j : Nat} (hj : j ∈ Region.ready md ops listed) : Closed md ops (listed.setIfInBounds j true) := by
  obtain ⟨_, oj, hoj, hall⟩ := mem_ready.1 hj
  intro m om hm hl e he hb
  rcases getD_set_listed hl with rfl | hl
  · rw [hoj] at hm
    obtain rfl := Option.some.inj hm
    exact getD_set_more (hall e he hb)
  · exact getD_set_more (h m om hm hl e he hb)
/-- The operation j waits for i. -/
def reaches (md : Region.Mode) (ops : Array Oper) : Nat → Nat → Nat → Bool
  | 0, _, _ => false
  | f + 1, j, i => match ops[j]? with | some o => o.after.any (fun e => Region.binds md e && (e.on == i || reaches md ops f e.on i)) | none => false
theorem reaches_spec {listed : Array Bool} (hc : Closed md ops listed) {i : Nat} : ∀ (f j : Nat) (oj : Oper), ops[j]? = some oj → (∀ e ∈ oj.after, Region.binds md e = true → listed.getD e.on false = true) → reaches md ops f j i = true → listed.getD i false = true
  | 0, _, _, _, _, h => by simp [reaches] at h
  | f + 1, j, oj, hj, hall, h => by
    unfold reaches at h
    rw [hj] at h
    simp only at h
    rw [Array.any_eq_true] at h
    obtain ⟨k, hk, h2⟩ := h
    simp only [Bool.and_eq_true, Bool.or_eq_true, beq_iff_eq] at h2
    have hl := hall _ (Array.getElem_mem hk) h2.1
    rcases h2.2 with h3 | h3
    · rw [← h3]; exact hl
    · rcases hm : ops[oj.after[k].on]? with _ | om
      · cases f with
        | zero => simp [reaches] at h3
        | succ f => unfold reaches at h3; rw [hm] at h3; cases h3
      · exact reaches_spec hc f _ om hm (fun e he hb => hc _ om hm hl e he hb) h3

/-- Such an operation, if it may come up, may come up at once. -/
theorem wpAnyS_first (T : World → World → Prop) (hT : Pre T) {i : Nat} {oi : Oper} {v : Value} (hi : ops[i]? = some oi) (hsel : ∀ (j : Nat) (o : Oper) cs b, ops[j]? = some o → o.op ≠ .select cs b)
    (hQ : ∀ c a w, Q (.panic c) (a.put oi.dst v) w → Q (.panic c) a w)
    (hst : ∀ (listed : Array Bool) (j : Nat), Closed md ops listed → i ∈ Region.ready md ops listed → j ∈ Region.ready md ops listed → ∀ w w' : World, (S j = false → Later w w') → T w w') :
    ∀ (fuel : Nat) (listed : Array Bool) (a : Act) (w : World), Closed md ops listed →
      (∀ j oj, ops[j]? = some oj → j ≠ i → listed.getD j true = false → (∀ e ∈ oj.after, Region.binds md e = true → e.on ≠ i) → oi.apart ops oj = true) →
      i ∈ Region.ready md ops listed → YieldsIf P ops (T w) oi v a →
      wpAnyS S P md ops Q fuel (listed.setIfInBounds i true) (a.put oi.dst v) w → wpAnyS S P md ops Q (fuel + 1) listed a w := by
  intro fuel
  induction fuel with
  | zero =>
    intro listed a w _ _ hr hy H
    refine ⟨fun h => (by rw [h] at hr; cases hr), fun j hj => ?_⟩
    by_cases hji : j = i
    · subst hji
      exact hy.wpOp hi (hT.1 w) ⟨fun _ => Later.refl w, H⟩
    · have := ready_mono hj hji
      rw [H.1] at this
      cases this
  | succ fuel ih =>
    intro listed a w hcl hfree hr hy H
    refine ⟨fun h => (by rw [h] at hr; cases hr), fun j hj => ?_⟩
    by_cases hji : j = i
    · subst hji
      exact hy.wpOp hi (hT.1 w) ⟨fun _ => Later.refl w, H⟩
    · have h1 := H.2 j (ready_mono hj hji)
      obtain ⟨hjun, oj, hoj, hall⟩ := mem_ready.1 hj
      have hnot : ∀ e ∈ oj.after, Region.binds md e = true → e.on ≠ i := fun e he hb heq => by
        have q1 := hall e he hb
        have q0 := (mem_ready.1 hr).1
        rw [heq] at q1
        rcases Nat.lt_or_ge i listed.size with h' | h'
        · simp [h'] at q0 q1
          rw [q0] at q1
          cases q1
        · simp [Array.getElem?_eq_none h'] at q1
      have h2 := wpOp_putIf hoj (hfree j oj hoj hji hjun hnot) (fun cs b => hsel i oi cs b hi) (fun cs b => hsel j oj cs b hoj) hQ hy h1
      have hfree' : ∀ k ok, ops[k]? = some ok → k ≠ i → (listed.setIfInBounds j true).getD k true = false →
          (∀ e ∈ ok.after, Region.binds md e = true → e.on ≠ i) → oi.apart ops ok = true := fun k ok hk hki hun hno => by
        refine hfree k ok hk hki ?_ hno
        by_cases hjk : j = k
        · subst hjk; exact hjun
        · rw [getD_set_ne true hjk] at hun; exact hun
      refine wpOp_mono (fun a' w' h3 => ⟨h3.2.1, ih (listed.setIfInBounds j true) a' w' (hcl.next hj) hfree' (ready_mono hr (Ne.symm hji)) (yields_rel h3.1 hT (hst listed j hcl hr hj w w' h3.2.1)) ?_⟩) h2
      rw [Array.setIfInBounds_comm _ _ hji]
      exact h3.2.2

/-- All writers wait for the operation i. -/
def waited (S : Nat → Bool) (md : Region.Mode) (ops : Array Oper) (i : Nat) : Bool := (List.range ops.size).all fun j => !S j || reaches md ops ops.size j i
theorem waited_spec {i : Nat} (h : waited S md ops i = true) {listed : Array Bool} (hc : Closed md ops listed) (hi : i ∈ Region.ready md ops listed) {j : Nat} (hj : j ∈ Region.ready md ops listed) : S j = false := by
  obtain ⟨_, oj, hoj, hall⟩ := mem_ready.1 hj
  have hun := (mem_ready.1 hi).1
  unfold waited at h
  rw [List.all_eq_true] at h
  have h1 := h j (by rw [List.mem_range]; exact (Array.getElem?_eq_some_iff.1 hoj).1)
  simp only [Bool.or_eq_true, Bool.not_eq_true'] at h1
  rcases h1 with h1 | h1
  · exact h1
  · have h2 := reaches_spec hc _ j oj hoj hall h1
    rcases Nat.lt_or_ge i listed.size with h' | h'
    · simp [h'] at hun h2
      rw [hun] at h2
      cases h2
    · simp [Array.getElem?_eq_none h'] at h2

theorem pre_later : Pre Later := ⟨Later.refl, fun h k => Later.trans h k⟩
theorem pre_all : Pre (fun _ _ => True) := ⟨fun _ => trivial, fun _ _ => trivial⟩

/-- The moves: an operation that all writers wait for; one that reads no memory; one that is not wanted; the one that must; a writer; the end; the beginning. -/
theorem wpAnyS_take {i : Nat} {oi : Oper} {d : Option Tmp} {v : Value} {fuel : Nat} {listed : Array Bool} {a : Act} {w : World} (hi : ops[i]? = some oi) (hd : oi.dst = d)
    (hs : Region.noSelect ops = true) (hcl : closedB md ops listed = true) (hwt : waited S md ops i = true) (hf : Region.free md ops listed i = true) (hr : (Region.ready md ops listed).contains i = true)
    (hQ : ∀ c a w, Q (.panic c) (a.put d v) w → Q (.panic c) a w) (hw : Region.wanted oi (yielded ops a.tmps) = true) (hy : ∀ w', Later w w' → (execOp a.eval oi).run P w' = .ok (.value v) w')
    (h : wpAnyS S P md ops Q fuel (listed.setIfInBounds i true) (a.put d v) w) : wpAnyS S P md ops Q (fuel + 1) listed a w := by
  subst hd
  exact wpAnyS_first Later pre_later hi (Region.noSelect_spec hs) hQ (fun _ _ hc h1 h2 _ _ hl => hl (waited_spec hwt hc h1 h2)) fuel listed a w (closed_spec hcl) (Region.free_spec hi hf) (by simpa using hr) (.inl ⟨hw, hy⟩) h
theorem wpAnyS_pure {i : Nat} {oi : Oper} {d : Option Tmp} {v : Value} {fuel : Nat} {listed : Array Bool} {a : Act} {w : World} (hi : ops[i]? = some oi) (hd : oi.dst = d)
    (hs : Region.noSelect ops = true) (hcl : closedB md ops listed = true) (hf : Region.free md ops listed i = true) (hr : (Region.ready md ops listed).contains i = true)
    (hQ : ∀ c a w, Q (.panic c) (a.put d v) w → Q (.panic c) a w) (hw : Region.wanted oi (yielded ops a.tmps) = true) (hy : ∀ w', (execOp a.eval oi).run P w' = .ok (.value v) w')
    (h : wpAnyS S P md ops Q fuel (listed.setIfInBounds i true) (a.put d v) w) : wpAnyS S P md ops Q (fuel + 1) listed a w := by
  subst hd
  exact wpAnyS_first (fun _ _ => True) pre_all hi (Region.noSelect_spec hs) hQ (fun _ _ _ _ _ _ _ _ => trivial) fuel listed a w (closed_spec hcl) (Region.free_spec hi hf) (by simpa using hr) (.inl ⟨hw, fun w' _ => hy w'⟩) h
theorem wpAnyS_pass {i : Nat} {oi : Oper} {d : Option Tmp} {fuel : Nat} {listed : Array Bool} {a : Act} {w : World} (hi : ops[i]? = some oi) (hd : oi.dst = d)
    (hs : Region.noSelect ops = true) (hcl : closedB md ops listed = true) (hf : Region.free md ops listed i = true) (hr : (Region.ready md ops listed).contains i = true)
    (hQ : ∀ c a w, Q (.panic c) (a.put d undef) w → Q (.panic c) a w) (hw : Region.wanted oi (yielded ops a.tmps) = false)
    (h : wpAnyS S P md ops Q fuel (listed.setIfInBounds i true) (a.put d undef) w) : wpAnyS S P md ops Q (fuel + 1) listed a w := by
  subst hd
  exact wpAnyS_first (fun _ _ => True) pre_all hi (Region.noSelect_spec hs) hQ (fun _ _ _ _ _ _ _ _ => trivial) fuel listed a w (closed_spec hcl) (Region.free_spec hi hf) (by simpa using hr) (.inr ⟨hw, rfl⟩) h
theorem wpAnyS_only {i : Nat} {o : Oper} {fuel : Nat} {listed : Array Bool} {a : Act} {w : World} (ho : ops[i]? = some o) (hr : Region.ready md ops listed = [i]) (hw : Region.wanted o (yielded ops a.tmps) = true)
    (h : ∀ K' : Act → World → Prop, Hid (∀ a' w', Later w w' → wpAnyS S P md ops Q fuel (listed.setIfInBounds i true) a' w' → K' a' w') → Oper.wp P o a w K' Q) : wpAnyS S P md ops Q (fuel + 1) listed a w := by
  refine ⟨fun h0 => absurd (hr ▸ h0) (by simp), fun j hj => ?_⟩
  rw [hr] at hj
  obtain rfl : j = i := by simpa using hj
  refine wpOp_step ho fun K' hK => ?_
  rw [if_pos hw]
  exact h K' fun a' w' hl hn => hK a' w' ⟨fun _ => hl, hn⟩
theorem wpAnyS_write {i : Nat} {o : Oper} {fuel : Nat} {listed : Array Bool} {a : Act} {w : World} (ho : ops[i]? = some o) (hS : S i = true) (hr : Region.ready md ops listed = [i]) (hw : Region.wanted o (yielded ops a.tmps) = true)
    (h : ∀ K' : Act → World → Prop, Hid (∀ a' w', wpAnyS S P md ops Q fuel (listed.setIfInBounds i true) a' w' → K' a' w') → Oper.wp P o a w K' Q) : wpAnyS S P md ops Q (fuel + 1) listed a w := by
  refine ⟨fun h0 => absurd (hr ▸ h0) (by simp), fun j hj => ?_⟩
  rw [hr] at hj
  obtain rfl : j = i := by simpa using hj
  refine wpOp_step ho fun K' hK => ?_
  rw [if_pos hw]
  exact h K' fun a' w' hn => hK a' w' ⟨(fun h0 => by rw [hS] at h0; cases h0), hn⟩
theorem wpAnyS_done {listed : Array Bool} {a : Act} {w : World} (hr : Region.ready md ops listed = []) (h : Q .normal a w) : ∀ fuel, wpAnyS S P md ops Q fuel listed a w
  | 0 => ⟨hr, h⟩
  | _ + 1 => ⟨fun _ => h, by rw [hr]; simp⟩
theorem wp_region_S (S : Nat → Bool) {id : Nat} {a : Act} {w : World} (hm : P.follows .mixedOrders = true)
    (h : wpAnyS S P .any ops Q ops.size (Array.replicate ops.size false) a w.drew) : (Code.region id ops true).wp P Q a w :=
  wp_region_any hm (wpAny_of_S _ _ _ _ h)
end

end Go.Proofs.YtehiaeihkdfclaaGreatDoor
/- As text OrderS, over whatever relation of worlds that goes on: operations that are no writers leave a world of that relation. -/
namespace Go.Proofs.YtehiaeihkdfclaaGreatDoor
open Go.RowKit

section
variable {P : Program} {ops : Array Oper} {Q : Exit → Act → World → Prop} {md : Region.Mode} {S : Nat → Bool} {R : World → World → Prop}

/-- Whatever order is picked from here on; behind each operation that is no writer the world is a later one. -/
def wpAnyV (R : World → World → Prop) (S : Nat → Bool) (P : Program) (md : Region.Mode) (ops : Array Oper) (Q : Exit → Act → World → Prop) : Nat → Array Bool → Act → World → Prop
  | 0, listed, a, w => Region.ready md ops listed = [] ∧ Q .normal a w
  | fuel + 1, listed, a, w =>
    (Region.ready md ops listed = [] → Q .normal a w) ∧
    ∀ i ∈ Region.ready md ops listed, wpOp P ops Q i (fun a' w' => (S i = false → R w w') ∧ wpAnyV R S P md ops Q fuel (listed.setIfInBounds i true) a' w') a w

theorem wpAny_of_V : ∀ (fuel : Nat) (listed : Array Bool) (a : Act) (w : World), wpAnyV R S P md ops Q fuel listed a w → wpAny P md ops Q fuel listed a w
  | 0, _, _, _, h => h
  | fuel + 1, _, _, _, h => ⟨h.1, fun i hi => wpOp_mono (fun a' w' h' => wpAny_of_V fuel _ a' w' h'.2) (h.2 i hi)⟩

/-- Such an operation, if it may come up, may come up at once. -/
theorem wpAnyV_first (hR : Pre R) (T : World → World → Prop) (hT : Pre T) {i : Nat} {oi : Oper} {v : Value} (hi : ops[i]? = some oi) (hsel : ∀ (j : Nat) (o : Oper) cs b, ops[j]? = some o → o.op ≠ .select cs b)
    (hQ : ∀ c a w, Q (.panic c) (a.put oi.dst v) w → Q (.panic c) a w)
    (hst : ∀ (listed : Array Bool) (j : Nat), Closed md ops listed → i ∈ Region.ready md ops listed → j ∈ Region.ready md ops listed → ∀ w w' : World, (S j = false → R w w') → T w w') :
    ∀ (fuel : Nat) (listed : Array Bool) (a : Act) (w : World), Closed md ops listed →
      (∀ j oj, ops[j]? = some oj → j ≠ i → listed.getD j true = false → (∀ e ∈ oj.after, Region.binds md e = true → e.on ≠ i) → oi.apart ops oj = true) →
      i ∈ Region.ready md ops listed → YieldsIf P ops (T w) oi v a →
      wpAnyV R S P md ops Q fuel (listed.setIfInBounds i true) (a.put oi.dst v) w → wpAnyV R S P md ops Q (fuel + 1) listed a w := by
  intro fuel
  induction fuel with
  | zero =>
    intro listed a w _ _ hr hy H
    refine ⟨fun h => (by rw [h] at hr; cases hr), fun j hj => ?_⟩
    by_cases hji : j = i
    · subst hji
      exact hy.wpOp hi (hT.1 w) ⟨fun _ => hR.1 w, H⟩
    · have := ready_mono hj hji
      rw [H.1] at this
      cases this
  | succ fuel ih =>
    intro listed a w hcl hfree hr hy H
    refine ⟨fun h => (by rw [h] at hr; cases hr), fun j hj => ?_⟩
    by_cases hji : j = i
    · subst hji
      exact hy.wpOp hi (hT.1 w) ⟨fun _ => hR.1 w, H⟩
    · have h1 := H.2 j (ready_mono hj hji)
      obtain ⟨hjun, oj, hoj, hall⟩ := mem_ready.1 hj
      have hnot : ∀ e ∈ oj.after, Region.binds md e = true → e.on ≠ i := fun e he hb heq => by
        have q1 := hall e he hb
        have q0 := (mem_ready.1 hr).1
        rw [heq] at q1
        rcases Nat.lt_or_ge i listed.size with h' | h'
        · simp [h'] at q0 q1
          rw [q0] at q1
          cases q1
        · simp [Array.getElem?_eq_none h'] at q1
      have h2 := wpOp_putIf hoj (hfree j oj hoj hji hjun hnot) (fun cs b => hsel i oi cs b hi) (fun cs b => hsel j oj cs b hoj) hQ hy h1
      have hfree' : ∀ k ok, ops[k]? = some ok → k ≠ i → (listed.setIfInBounds j true).getD k true = false →
          (∀ e ∈ ok.after, Region.binds md e = true → e.on ≠ i) → oi.apart ops ok = true := fun k ok hk hki hun hno => by
        refine hfree k ok hk hki ?_ hno
        by_cases hjk : j = k
        · subst hjk; exact hjun
        · rw [getD_set_ne true hjk] at hun; exact hun
      refine wpOp_mono (fun a' w' h3 => ⟨h3.2.1, ih (listed.setIfInBounds j true) a' w' (hcl.next hj) hfree' (ready_mono hr (Ne.symm hji)) (yields_rel h3.1 hT (hst listed j hcl hr hj w w' h3.2.1)) ?_⟩) h2
      rw [Array.setIfInBounds_comm _ _ hji]
      exact h3.2.2

/-- The moves: an operation that all writers wait for; one that reads no memory; one that is not wanted; the one that must; a writer; the end; the beginning. -/
theorem wpAnyV_take (hR : Pre R) {i : Nat} {oi : Oper} {d : Option Tmp} {v : Value} {fuel : Nat} {listed : Array Bool} {a : Act} {w : World} (hi : ops[i]? = some oi) (hd : oi.dst = d)
    (hs : Region.noSelect ops = true) (hcl : closedB md ops listed = true) (hwt : waited S md ops i = true) (hf : Region.free md ops listed i = true) (hr : (Region.ready md ops listed).contains i = true)
    (hQ : ∀ c a w, Q (.panic c) (a.put d v) w → Q (.panic c) a w) (hw : Region.wanted oi (yielded ops a.tmps) = true) (hy : ∀ w', R w w' → (execOp a.eval oi).run P w' = .ok (.value v) w')
    (h : wpAnyV R S P md ops Q fuel (listed.setIfInBounds i true) (a.put d v) w) : wpAnyV R S P md ops Q (fuel + 1) listed a w := by
  subst hd
  exact wpAnyV_first hR R hR hi (Region.noSelect_spec hs) hQ (fun _ _ hc h1 h2 _ _ hl => hl (waited_spec hwt hc h1 h2)) fuel listed a w (closed_spec hcl) (Region.free_spec hi hf) (by simpa using hr) (.inl ⟨hw, hy⟩) h
theorem wpAnyV_pure (hR : Pre R) {i : Nat} {oi : Oper} {d : Option Tmp} {v : Value} {fuel : Nat} {listed : Array Bool} {a : Act} {w : World} (hi : ops[i]? = some oi) (hd : oi.dst = d)
    (hs : Region.noSelect ops = true) (hcl : closedB md ops listed = true) (hf : Region.free md ops listed i = true) (hr : (Region.ready md ops listed).contains i = true)
    (hQ : ∀ c a w, Q (.panic c) (a.put d v) w → Q (.panic c) a w) (hw : Region.wanted oi (yielded ops a.tmps) = true) (hy : ∀ w', (execOp a.eval oi).run P w' = .ok (.value v) w')
    (h : wpAnyV R S P md ops Q fuel (listed.setIfInBounds i true) (a.put d v) w) : wpAnyV R S P md ops Q (fuel + 1) listed a w := by
  subst hd
  exact wpAnyV_first hR (fun _ _ => True) pre_all hi (Region.noSelect_spec hs) hQ (fun _ _ _ _ _ _ _ _ => trivial) fuel listed a w (closed_spec hcl) (Region.free_spec hi hf) (by simpa using hr) (.inl ⟨hw, fun w' _ => hy w'⟩) h
theorem wpAnyV_pass (hR : Pre R) {i : Nat} {oi : Oper} {d : Option Tmp} {fuel : Nat} {listed : Array Bool} {a : Act} {w : World} (hi : ops[i]? = some oi) (hd : oi.dst = d)
    (hs : Region.noSelect ops = true) (hcl : closedB md ops listed = true) (hf : Region.free md ops listed i = true) (hr : (Region.ready md ops listed).contains i = true)
    (hQ : ∀ c a w, Q (.panic c) (a.put d undef) w → Q (.panic c) a w) (hw : Region.wanted oi (yielded ops a.tmps) = false)
    (h : wpAnyV R S P md ops Q fuel (listed.setIfInBounds i true) (a.put d undef) w) : wpAnyV R S P md ops Q (fuel + 1) listed a w := by
  subst hd
  exact wpAnyV_first hR (fun _ _ => True) pre_all hi (Region.noSelect_spec hs) hQ (fun _ _ _ _ _ _ _ _ => trivial) fuel listed a w (closed_spec hcl) (Region.free_spec hi hf) (by simpa using hr) (.inr ⟨hw, rfl⟩) h
theorem wpAnyV_only (_ : Pre R) {i : Nat} {o : Oper} {fuel : Nat} {listed : Array Bool} {a : Act} {w : World} (ho : ops[i]? = some o) (hr : Region.ready md ops listed = [i]) (hw : Region.wanted o (yielded ops a.tmps) = true)
    (h : ∀ K' : Act → World → Prop, Hid (∀ a' w', R w w' → wpAnyV R S P md ops Q fuel (listed.setIfInBounds i true) a' w' → K' a' w') → Oper.wp P o a w K' Q) : wpAnyV R S P md ops Q (fuel + 1) listed a w := by
  refine ⟨fun h0 => absurd (hr ▸ h0) (by simp), fun j hj => ?_⟩
  rw [hr] at hj
  obtain rfl : j = i := by simpa using hj
  refine wpOp_step ho fun K' hK => ?_
  rw [if_pos hw]
  exact h K' fun a' w' hl hn => hK a' w' ⟨fun _ => hl, hn⟩
theorem wpAnyV_write {i : Nat} {o : Oper} {fuel : Nat} {listed : Array Bool} {a : Act} {w : World} (ho : ops[i]? = some o) (hS : S i = true) (hr : Region.ready md ops listed = [i]) (hw : Region.wanted o (yielded ops a.tmps) = true)
    (h : ∀ K' : Act → World → Prop, Hid (∀ a' w', wpAnyV R S P md ops Q fuel (listed.setIfInBounds i true) a' w' → K' a' w') → Oper.wp P o a w K' Q) : wpAnyV R S P md ops Q (fuel + 1) listed a w := by
  refine ⟨fun h0 => absurd (hr ▸ h0) (by simp), fun j hj => ?_⟩
  rw [hr] at hj
  obtain rfl : j = i := by simpa using hj
  refine wpOp_step ho fun K' hK => ?_
  rw [if_pos hw]
  exact h K' fun a' w' hn => hK a' w' ⟨(fun h0 => by rw [hS] at h0; cases h0), hn⟩
theorem wpAnyV_done {listed : Array Bool} {a : Act} {w : World} (hr : Region.ready md ops listed = []) (h : Q .normal a w) : ∀ fuel, wpAnyV R S P md ops Q fuel listed a w
  | 0 => ⟨hr, h⟩
  | _ + 1 => ⟨fun _ => h, by rw [hr]; simp⟩
theorem wp_region_V (R : World → World → Prop) (S : Nat → Bool) {id : Nat} {a : Act} {w : World} (hm : P.follows .mixedOrders = true)
    (h : wpAnyV R S P .any ops Q ops.size (Array.replicate ops.size false) a w.drew) : (Code.region id ops true).wp P Q a w :=
  wp_region_any hm (wpAny_of_V _ _ _ _ h)
end

end Go.Proofs.YtehiaeihkdfclaaGreatDoor
/- The parts of lists of steps: how they are read. -/
namespace Go.Proofs.YtehiaeihkdfclaaGreatDoor
open Go.RowKit

theorem frozen_blk {w w' : World} {g o : Nat} (h : w'.heap[g]? = w.heap[g]?) : w'.frozen? ⟨g, o, none⟩ = w.frozen? ⟨g, o, none⟩ := by
  unfold World.frozen?
  simp only [h]
theorem Tryz.infoElS : (Tryz.prog.info? 68).map (fun i => (i.zero, i.size, i.bytes)) = some (some (.agg #[.string ⟨#[]⟩, .int .i64 0, .int .i64 0, .int .i64 0, .bool false, .bool false]), 6, 48) := by kernel_rfl

set_option maxHeartbeats 8000000 in
set_option maxRecDepth 100000 in
theorem recsSr_any {S : Type} {Inv : (Nat → Prop) → S → World → Prop} {sz : S → Nat} {push : S → StepD → S} {P : Nat → Prop} {s : S} {w : World} {bf bl g o : Nat} {f : Fd} (hI : InvOK Inv) (hpl : RowPl Inv sz 68 6 StepE g o push)
    (h1 : w.heap[bf]? = some (.cells #[.func (.func 83) #[] #[]] 135 (0, 0))) (h2 : w.heap[bl]? = some (.cells #[.pointer (some ⟨g, o, none⟩)] 134 (0, 0))) (hbl : ¬ P bl) (hinv : Inv P s w) (hP2 : ∀ k, w.heap.size ≤ k → P k) (hf : f.ok w w.heap.size) (hsz : sz s + 1 + f.n ≤ 1000000) :
    Calls Tryz.prog 118 #[f.val, .pointer (some ⟨bf, 0, none⟩), .pointer (some ⟨bl, 0, none⟩)] w fun e w' => e = .returned (.tuple #[]) ∧ Inv P (push s (stepR f.pf.2.2.2)) w' ∧ Turned P w w' := by
  obtain ⟨i0, hi, hz0, hz1, hz2⟩ := info_parts Tryz.infoElS
  obtain ⟨fnum, ftext, fv, fa, fn, fc, fb⟩ := f
  simp only at hsz
  obtain ⟨hPg, hgw, v, n, xs, hcell, hfro, hown, hns, hob, hset⟩ := hpl P s w hinv hP2
  have HFN : Hid (fn ≤ 1000000) := by show _ ≤ _; omega
  have HFC : Hid (fn ≤ fc) := hf.2.2.1
  have HFH : Hid (Holds w w.heap.size fa fn fb) := hf.2.2.2
  have HSZ := hide hsz
  have HNS := hide hns
  have HI := hide hI
  have HPG := hide hPg
  have HGW := hide hgw
  have HOWN := hide hown
  have HOW := hide hob
  have HOL : Hid (∀ q, v.ownBlock = some q → q < w.heap.size) := fun q h => (own_lt hown h).1
  have HSET := hide hset
  have HC0 := hide hcell
  have HF0 := hide hfro
  have HP2 := hide hP2
  have HBF : Hid (bf < w.heap.size) := lt_of_block h1
  have HBL : Hid (bl < w.heap.size) := lt_of_block h2
  have HNB : Hid (v.ownBlock ≠ some bl) := fun e => hbl (hob bl e).1
  obtain ⟨W9, hW9⟩ : ∃ W, W = ((w.alloc (.cells #[.int .i64 fnum, .bool ftext, .int .u64 fv, .slice fa fn fc] 140 (0, 0))).alloc (.cells #[.string ⟨#[]⟩, .int .i64 0, .int .i64 0, .int .i64 0, .bool false, .bool false] 68 (0, 0))) := ⟨_, rfl⟩
  have hL9 : Later w W9 := by rw [hW9]; exact (Later.alloc _ _).trans (Later.alloc _ _)
  have HZW : Hid (W9.heap.size = w.heap.size + 2) := by show _ = _; rw [hW9, World.size_alloc, World.size_alloc]
  have HX0 : Hid (W9.heap[w.heap.size]? = some (.cells #[.int .i64 fnum, .bool ftext, .int .u64 fv, .slice fa fn fc] 140 (0, 0))) := by show _ = _; rw [hW9]; exact (Below.block (Later.alloc _ _) _ (by rw [World.size_alloc]; omega)).trans (heap_alloc_new w _)
  have HX9 : Hid (W9.heap[w.heap.size + 1]? = some (.cells #[.string ⟨#[]⟩, .int .i64 0, .int .i64 0, .int .i64 0, .bool false, .bool false] 68 (0, 0))) := by show _ = _; rw [hW9]; have h := heap_alloc_new (w.alloc (.cells #[.int .i64 fnum, .bool ftext, .int .u64 fv, .slice fa fn fc] 140 (0, 0))) (.cells #[.string ⟨#[]⟩, .int .i64 0, .int .i64 0, .int .i64 0, .bool false, .bool false] 68 (0, 0)); rwa [World.size_alloc] at h
  have HX1 : Hid (W9.heap[bf]? = some (.cells #[.func (.func 83) #[] #[]] 135 (0, 0))) := (Below.block hL9 bf (lt_of_block h1)).trans h1
  have HB4 : Hid (W9.heap[bl]? = some (.cells #[.pointer (some ⟨g, o, none⟩)] 134 (0, 0))) := (Below.block hL9 bl (lt_of_block h2)).trans h2
  have HLL := hide hL9
  have HG0 : Hid (Below (w.heap.size + 1) W9 W9.drew) := (Below.refl _ _).drew
  have HZ9 : Hid (w.heap.size + 1 < W9.drew.heap.size) := by show _ < W9.heap.size; have := HZW.out; omega
  have HV0 : Hid (∀ w', Later W9 w' → ∀ P' : Nat → Prop, P' (w.heap.size + 1) → InvStep (w.heap.size + 1) P' StepD.zero w') := fun w' hl P' hp => invstep_zero hp ((Below.block hl _ (by have := HZW.out; omega)).trans HX9.out)
  clear hI hpl h1 h2 hbl hinv hP2 hf hsz hPg hgw hcell hfro hown hns hob hset hL9
  simp only [Fd.val, Fd.cells, Fd.pf]
  go_enter Tryz.func118, Tryz.ntmps118
  go_wp2
  rw [← hW9]
  clear hW9
  refine wp_region_R (R := fun a c => Below (w.heap.size + 1) a c) (by kernel_rfl) ?_
  refine wpAnyR_take (pre_below (w.heap.size + 1)) (i := 0) (d := some 5) (v := ?vap0) rfl rfl (by kernel_rfl) (by kernel_rfl) (by kernel_rfl) (fun _ _ _ h => h) (by rfl) ?yap0 ?_
  case yap0 => (intro w' hw'; go_simp; try (with_reducible rfl))
  simp only [Act.put]; try simp only [List.setIfInBounds_toArray]; try simp only [List.set_cons_zero, List.set_cons_succ]
  refine wpAnyR_take (pre_below (w.heap.size + 1)) (i := 1) (d := some 6) (v := .slice fa fn fc) rfl rfl (by kernel_rfl) (by kernel_rfl) (by kernel_rfl) (fun _ _ _ h => h) (by rfl) ?yap1 ?_
  case yap1 => (intro w' hw'; have hx1 := cell_of_row w' w.heap.size 3 _ _ _ (((HG0.out.trans hw').block w.heap.size (by omega)).trans HX0.out); go_simp; try (with_reducible rfl))
  simp only [Act.put]; try simp only [List.setIfInBounds_toArray]; try simp only [List.set_cons_zero, List.set_cons_succ]
  refine wpAnyR_take (pre_below (w.heap.size + 1)) (i := 2) (d := some 7) (v := .func (.func 83) #[] #[]) rfl rfl (by kernel_rfl) (by kernel_rfl) (by kernel_rfl) (fun _ _ _ h => h) (by rfl) ?yap2 ?_
  case yap2 => (intro w' hw'; have hx2 := cell_of_row w' bf 0 _ _ _ (((HG0.out.trans hw').block bf (by have := HBF.out; omega)).trans HX1.out); go_simp; try (with_reducible rfl))
  simp only [Act.put]; try simp only [List.setIfInBounds_toArray]; try simp only [List.set_cons_zero, List.set_cons_succ]
  refine wpAnyR_only (i := 3) rfl (by kernel_rfl) (by rfl) fun K hK => ?_
  go_simp
  refine (stepParts_any (w := W9.drew) (g := w.heap.size + 1) (o := 0) HZ9.out).mono ?_
  rintro e w1 ⟨A1, ps, rfl, hlen, hpa, l1, hsub⟩
  have K1 := hide l1
  have hz0 : W9.drew.heap.size = w.heap.size + 2 := HZW.out
  have hz1 := Below.size l1
  have C := hide (nread_any (P := fun k => k = w.heap.size + 1 ∨ w1.heap.size ≤ k) (A := fa) (n := fn) (c := fc) (l := fb) (s := StepD.zero) (invstep_ok (w.heap.size + 1)) hpa hlen.symm (Stay.refl (Nat.le_refl _)) (hsub.2 _ _ (fun _ => 0) (Lens.id StepD) (invstep_ok (w.heap.size + 1)) (invstep_pl (w.heap.size + 1))) (lift_nodup _ stepPs_own) (fun _ _ _ _ => Nat.zero_le _) (fun k h1 h2 h => by rcases h with h | h <;> omega) (fun k h => Or.inr h) (HV0.out w1 (by have h := l1; exact (Later.drew W9).trans h) (fun k => k = w.heap.size + 1 ∨ w1.heap.size ≤ k) (Or.inl rfl)) (((HFH.out.below HLL.out).more (Below.size HLL.out)).later ((Later.drew W9).trans l1)) HFN.out HFC.out (by simp only [Nat.zero_add]; have := HFN.out; omega))
  refine hK.out _ _ (show Below (w.heap.size + 1) W9.drew w1 from Below.mono l1 (by omega)) ?_
  clear hlen hpa l1 hsub hz0 hz1
  clear hK K
  try (simp only [Act.put]; try simp only [List.setIfInBounds_toArray]; try simp only [List.set_cons_zero, List.set_cons_succ])
  refine wpAnyR_only (i := 4) rfl (by kernel_rfl) (by rfl) fun K hK => ?_
  go_simp
  refine C.out.mono ?_
  rintro e w2 ⟨rfl, hv2, ht2⟩
  have hb2 : Below (w.heap.size + 1) w1 w2 := ht2.below (fun k h => by have := HZW.out; have h3 := Below.size K1.out; have h4 : W9.drew.heap.size = W9.heap.size := rfl; rcases h with h | h <;> omega) (by have := HZW.out; have h3 := Below.size K1.out; have h4 : W9.drew.heap.size = W9.heap.size := rfl; omega)
  have HV2 := hide hv2
  have HB2 := hide hb2
  refine hK.out _ _ hb2 ?_
  clear hv2 ht2 hb2 C
  clear hK K
  try (simp only [Act.put]; try simp only [List.setIfInBounds_toArray]; try simp only [List.set_cons_zero, List.set_cons_succ])
  refine wpAnyR_done (by kernel_rfl) ?_ _
  go_wp2
  have hBB : Below (w.heap.size + 1) W9 w2 := ((HG0.out.trans (show Below (w.heap.size + 1) W9.drew w1 from Below.mono K1.out (by have := HZW.out; show w.heap.size + 1 ≤ W9.heap.size; omega))).trans HB2.out)
  have hLW : Later w w2 := Below.trans HLL.out (Below.mono hBB (by omega))
  have hs2 : w.heap.size + 2 ≤ w2.heap.size := by have h1 := hBB.size; have h2 := HZW.out; omega
  have hv2 : InvStep (w.heap.size + 1) (fun k => k = w.heap.size + 1 ∨ w1.heap.size ≤ k) (stepR fb) w2 := by
    have h := HV2.out
    rw [Lens.rdB] at h
    exact h
  obtain ⟨_, hx6, hsm⟩ := hv2
  obtain ⟨YC, hYC⟩ : ∃ c, c = (stepR fb).cells := ⟨_, rfl⟩
  rw [← hYC] at hx6
  have HX6 := hide hx6
  have HYL : Hid (YC.length = 6) := by show _ = _; rw [hYC]; rfl
  have HY1 : Hid (∀ u ∈ YC, u.oneCell' = true) := by show ∀ u ∈ YC, _; rw [hYC]; exact (stepR fb).one
  have HYC := hide hYC
  have HSM := hide hsm
  clear hx6 hYC hsm
  have HT2 : Hid (w.heap.size + 1 < w2.heap.size) := by show _ < _; omega
  have HLW2 : Hid (w.heap.size ≤ w2.heap.size) := by show _ ≤ _; omega
  have HLW := hide hLW
  have HX4 : Hid (w2.heap[bl]? = some (.cells #[.pointer (some ⟨g, o, none⟩)] 134 (0, 0))) := (hBB.block bl (by have := HBL.out; omega)).trans HB4.out
  have HC5 : Hid (w2.cell? ⟨g, o, none⟩ = some v) := (Below.cell hLW (p := ⟨g, o, none⟩) HGW.out).trans HC0.out
  have HF5 : Hid (w2.frozen? ⟨g, o, none⟩ = false) := (Below.frozen hLW (p := ⟨g, o, none⟩) HGW.out).trans HF0.out
  have HO2 : Hid (w2.ownsRow 0 68 6 v n xs) := own_blk HOWN.out fun q e => Below.block hLW q (HOL.out q e)
  have HG4 : Hid (∀ w', w2.drew.grownBy w' v.ownBlock → w2.grownBy w' v.ownBlock) := fun w' h => (show w2.grownBy w2.drew v.ownBlock from ⟨rfl, rfl, rfl, Nat.le_refl _, fun _ _ _ => rfl⟩).trans h
  clear hLW hBB hs2 HV2 HB2
  refine wp_region_V (fun a c => a.grownBy c v.ownBlock) (fun j => j == 8) (by kernel_rfl) ?_
  refine wpAnyV_take (pre_grown v.ownBlock) (i := 0) (d := some 10) (v := .pointer (some ⟨g, o, none⟩)) rfl rfl (by kernel_rfl) (by kernel_rfl) (by kernel_rfl) (by kernel_rfl) (by kernel_rfl) (fun _ _ _ h => h) (by rfl) ?yaq0 ?_
  case yaq0 => (intro w' hw'; have hx4 : w'.cell? ⟨bl, 0, none⟩ = some (.pointer (some ⟨g, o, none⟩)) := cell_of_row w' bl 0 _ _ _ (((HG4.out w' hw').block bl (by have := HBL.out; have := HLW2.out; omega) (fun e => HNB.out e.symm)).trans HX4.out); go_simp; try (with_reducible rfl))
  simp only [Act.put]; try simp only [List.setIfInBounds_toArray]; try simp only [List.set_cons_zero, List.set_cons_succ]
  refine wpAnyV_take (pre_grown v.ownBlock) (i := 1) (d := some 11) (v := .pointer (some ⟨g, o, none⟩)) rfl rfl (by kernel_rfl) (by kernel_rfl) (by kernel_rfl) (by kernel_rfl) (by kernel_rfl) (fun _ _ _ h => h) (by rfl) ?yaq1 ?_
  case yaq1 => (intro w' hw'; have hx4 : w'.cell? ⟨bl, 0, none⟩ = some (.pointer (some ⟨g, o, none⟩)) := cell_of_row w' bl 0 _ _ _ (((HG4.out w' hw').block bl (by have := HBL.out; have := HLW2.out; omega) (fun e => HNB.out e.symm)).trans HX4.out); go_simp; try (with_reducible rfl))
  simp only [Act.put]; try simp only [List.setIfInBounds_toArray]; try simp only [List.set_cons_zero, List.set_cons_succ]
  refine wpAnyV_take (pre_grown v.ownBlock) (i := 2) (d := some 12) (v := ?vaq2) rfl rfl (by kernel_rfl) (by kernel_rfl) (by kernel_rfl) (by kernel_rfl) (by kernel_rfl) (fun _ _ _ h => h) (by rfl) ?yaq2 ?_
  case yaq2 => (intro w' hw'; go_simp; try (with_reducible rfl))
  simp only [Act.put]; try simp only [List.setIfInBounds_toArray]; try simp only [List.set_cons_zero, List.set_cons_succ]
  refine wpAnyV_take (pre_grown v.ownBlock) (i := 3) (d := some 13) (v := v) rfl rfl (by kernel_rfl) (by kernel_rfl) (by kernel_rfl) (by kernel_rfl) (by kernel_rfl) (fun _ _ _ h => h) (by rfl) ?yaq3 ?_
  case yaq3 => (intro w' hw'; have hx5 : w'.cell? ⟨g, o, none⟩ = some v := (World.cell?_of_block ((HG4.out w' hw').block g (by have := HGW.out; have := HLW2.out; omega) (fun e => (HOW.out g e.symm).2 rfl))).trans HC5.out; go_simp; try (with_reducible rfl))
  simp only [Act.put]; try simp only [List.setIfInBounds_toArray]; try simp only [List.set_cons_zero, List.set_cons_succ]
  refine wpAnyV_take (pre_grown v.ownBlock) (i := 4) (d := some 14) (v := .agg YC.toArray) rfl rfl (by kernel_rfl) (by kernel_rfl) (by kernel_rfl) (by kernel_rfl) (by kernel_rfl) (fun _ _ _ h => h) (by rfl) ?yaq4 ?_
  case yaq4 => (intro w' hw'; exact exec_load_box 68 _ (by rfl) (w.heap.size + 1) 0 (by rfl) 68 YC.toArray (((HG4.out w' hw').block (w.heap.size + 1) HT2.out (fun e => by have := HOL.out _ e.symm; omega)).trans HX6.out) 6 _ Tryz.underlying68 (by rfl) (by kernel_rfl) YC (by simp [List.take_of_length_le (Nat.le_of_eq HYL.out)]) HYL.out)
  simp only [Act.put]; try simp only [List.setIfInBounds_toArray]; try simp only [List.set_cons_zero, List.set_cons_succ]
  refine wpAnyV_only (pre_grown v.ownBlock) (i := 5) rfl (by kernel_rfl) (by rfl) fun K hK => ?_
  refine wp_buildSlice_one 22 68 _ (by rfl) i0 _ 6 Tryz.underlying22 hi hz0 hz1 (by omega) (by omega) YC.toArray (by rfl) (by simp [HYL.out]) ?_
  have F3 := hide (flat_one w2.drew 68 6 YC.toArray (by simp [HYL.out]) (by simpa using HY1.out) (fun _ => True) trivial)
  have O3 := hide (own_below_any HO2.out ((Later.drew w2).trans (Later.alloc w2.drew (.cells YC.toArray 68 (0, 0)))))
  refine hK.out _ _ (World.grownBy_alloc _ _ _) (?_ : wpAnyV _ _ _ _ _ _ _ _ (Act.put _ (some 15) _) _)
  clear hK K
  try (simp only [Act.put]; try simp only [List.setIfInBounds_toArray]; try simp only [List.set_cons_zero, List.set_cons_succ])
  refine wpAnyV_only (pre_grown v.ownBlock) (i := 6) rfl (by kernel_rfl) (by rfl) fun K hK => ?_
  refine wp_append_flat _ _ 22 (by rfl) 0 68 i0 _ 6 48 Tryz.underlying22 hi hz0 hz1 hz2 (by rfl) (by omega) v n xs (by rfl) O3.out w2.heap.size 1 1 YC (by rfl) _ F3.out (by omega) (by have := HNS.out; have := HSZ.out; unfold maxLen; omega) (by have := HNS.out; have := HSZ.out; omega) (Nat.zero_le _) ?_
  intro v4 w4 o4 g4 a4
  have O4 := hide o4
  have G4 := hide g4
  have A4 := hide a4
  refine hK.out _ _ g4 (?_ : wpAnyV _ _ _ _ _ _ _ _ (Act.put _ (some 16) _) _)
  clear o4 g4 a4
  clear hK K
  try (simp only [Act.put]; try simp only [List.setIfInBounds_toArray]; try simp only [List.set_cons_zero, List.set_cons_succ])
  refine wpAnyV_take (pre_grown v.ownBlock) (i := 7) (d := some 17) (v := ?vaq7) rfl rfl (by kernel_rfl) (by kernel_rfl) (by kernel_rfl) (by kernel_rfl) (by kernel_rfl) (fun _ _ _ h => h) (by rfl) ?yaq7 ?_
  case yaq7 => (intro w' hw'; go_simp; try (with_reducible rfl))
  simp only [Act.put]; try simp only [List.setIfInBounds_toArray]; try simp only [List.set_cons_zero, List.set_cons_succ]
  refine wpAnyV_write (i := 8) rfl rfl (by kernel_rfl) (by rfl) fun K hK => ?_
  have hG4 : w2.grownBy w4 v.ownBlock := (HG4.out w4 (((World.grownBy.refl _ _).trans (World.grownBy_alloc _ _ _)).trans G4.out))
  have hc8 : w4.cell? ⟨g, o, none⟩ = some v := (World.cell?_of_block (hG4.block g (by have := HGW.out; have := HLW2.out; omega) (fun e => (HOW.out g e.symm).2 rfl))).trans HC5.out
  have hf8 : w4.frozen? ⟨g, o, none⟩ = false := (frozen_blk (hG4.block g (by have := HGW.out; have := HLW2.out; omega) (fun e => (HOW.out g e.symm).2 rfl))).trans HF5.out
  obtain ⟨A9, c9, hv9⟩ := own_shape O4.out
  subst hv9
  go_simp
  refine hK.out _ _ ?_
  clear hc8 hf8
  clear hK K
  try simp only [Act.put]
  refine wpAnyV_done (by kernel_rfl) ?_ _
  go_wp2
  go_end0
  have hl4 : Later w (w2.drew.alloc (.cells YC.toArray 68 (0, 0))) := HLW.out.trans ((Later.drew w2).trans (Later.alloc _ _))
  refine ⟨rfl, HSET.out _ w4 _ (stepR fb) YC hl4 G4.out O4.out A4.out ?_, ?_⟩
  · exact ⟨HYC.out, Nat.le_trans HSM.out.1 (by omega), HSM.out.2⟩
  · exact ((Turned.of_below hl4 P).trans (Turned.of_grown G4.out fun q e => (HOW.out q e).1)).trans (Turned.of_grown (grown_cell _ g o _) fun q e => by obtain rfl := Option.some.inj e; exact HPG.out)

theorem heap_fours (w : World) (A B C D : Obj) : ((((w.alloc A).alloc B).alloc C).alloc D).heap[w.heap.size]? = some A ∧ ((((w.alloc A).alloc B).alloc C).alloc D).heap[w.heap.size + 1]? = some B ∧ ((((w.alloc A).alloc B).alloc C).alloc D).heap[w.heap.size + 1 + 1]? = some C ∧
    ((((w.alloc A).alloc B).alloc C).alloc D).heap[w.heap.size + 1 + 1 + 1]? = some D ∧ ((((w.alloc A).alloc B).alloc C).alloc D).heap.size = w.heap.size + 4 := by
  obtain ⟨h1, h2, h3⟩ := heap_firsts w A B C
  have h4 := heap_third w A B C
  have hl := Later.alloc (((w.alloc A).alloc B).alloc C) D
  have h5 := heap_alloc_new (((w.alloc A).alloc B).alloc C) D
  rw [h3] at h5
  exact ⟨(Below.block hl _ (by omega)).trans h1, (Below.block hl _ (by omega)).trans h2, (Below.block hl _ (by omega)).trans h4, h5, by rw [World.size_alloc, h3]⟩

/-- What the part of such a list is. -/
def RecsSIs (num : Int) (g o : Nat) (w : World) (e : Ending) (w' : World) : Prop :=
  ∃ p : PartV, e = .returned (.agg p.cells.toArray) ∧ p.num = num ∧ Later w w' ∧
    (∀ (St : World → Prop) (l : List StepD) (k : Nat), (∀ s ∈ l, s.sm k) → k ≤ 5000 → l.length ≤ 100000 → (∀ w, St w → ∃ v F, w.cell? ⟨g, o, none⟩ = some v ∧ StepsAt F w v l) → WrOK w.heap.size w'.heap.size w' St p (l.map fun s => prow num (stepB s))) ∧
    (∀ (S : Type) (Inv : (Nat → Prop) → S → World → Prop) (sz : S → Nat) (push : S → StepD → S), InvOK Inv → RowPl Inv sz 68 6 StepE g o push → RdOK w.heap.size w'.heap.size w' Inv sz p fun s f => push s (stepR f.2.2.2))
set_option maxHeartbeats 2000000 in
set_option maxRecDepth 100000 in
theorem enters_recsS : Enters 117 ∧ Enters 118 := ⟨fun args w => by go_simp, fun args w => by go_simp⟩
set_option maxHeartbeats 2000000 in
set_option maxRecDepth 100000 in
theorem recsS_any {w : World} {num : Int} {g o : Nat} (hn : I64 num) (_hg : g < w.heap.size) : Calls Tryz.prog 82 #[.int .i64 num, .pointer (some ⟨g, o, none⟩), .func (.func 83) #[] #[]] w (RecsSIs num g o w) := by
  have HN := hide hn
  clear hn
  go_enter Tryz.func82, Tryz.ntmps82
  go_wp2
  obtain ⟨x1, x2, x3, x4, hz⟩ := heap_fours w (.cells #[.int .i64 num] 3 (0, 0)) (.cells #[.pointer (some ⟨g, o, none⟩)] 134 (0, 0)) (.cells #[.func (.func 83) #[] #[]] 135 (0, 0)) (.cells #[.int .i64 num, .func (.func 117) #[] #[.pointer (some ⟨w.heap.size + 1, 0, none⟩), .pointer (some ⟨w.heap.size, 0, none⟩), .pointer (some ⟨w.heap.size + 1 + 1, 0, none⟩)], .func (.func 118) #[] #[.pointer (some ⟨w.heap.size + 1 + 1, 0, none⟩), .pointer (some ⟨w.heap.size + 1, 0, none⟩)]] 110 (0, 0))
  refine bodyPost_ret (results_cell_row Tryz.results82 _ _ (w.heap.size + 1 + 1 + 1) 110 _ (0, 0) _ (by rfl) x4 Tryz.underlying110 (by rfl) (by kernel_rfl)) (by rfl) ?_
  have hl : Later w ((((w.alloc (.cells #[.int .i64 num] 3 (0, 0))).alloc (.cells #[.pointer (some ⟨g, o, none⟩)] 134 (0, 0))).alloc (.cells #[.func (.func 83) #[] #[]] 135 (0, 0))).alloc (.cells #[.int .i64 num, .func (.func 117) #[] #[.pointer (some ⟨w.heap.size + 1, 0, none⟩), .pointer (some ⟨w.heap.size, 0, none⟩), .pointer (some ⟨w.heap.size + 1 + 1, 0, none⟩)], .func (.func 118) #[] #[.pointer (some ⟨w.heap.size + 1 + 1, 0, none⟩), .pointer (some ⟨w.heap.size + 1, 0, none⟩)]] 110 (0, 0))) := (((Later.alloc w _).trans (Later.alloc _ _)).trans (Later.alloc _ _)).trans (Later.alloc _ _)
  refine ⟨⟨num, 117, #[.pointer (some ⟨w.heap.size + 1, 0, none⟩), .pointer (some ⟨w.heap.size, 0, none⟩), .pointer (some ⟨w.heap.size + 1 + 1, 0, none⟩)], 118, #[.pointer (some ⟨w.heap.size + 1 + 1, 0, none⟩), .pointer (some ⟨w.heap.size + 1, 0, none⟩)]⟩, rfl, rfl, hl, ?_, ?_⟩
  · intro St l k hsm hk hlen hcell
    refine ⟨enters_recsS.1, fun wx hs hst => ?_⟩
    obtain ⟨v, F, hv, hlv⟩ := hcell wx hst
    obtain ⟨A, c, rfl, _⟩ := FlatAt.shape hlv
    exact recsSw_any ((hs.2 _ (by omega) (by omega)).trans x2) ((hs.2 _ (by omega) (by omega)).trans x1) ((hs.2 _ (by omega) (by omega)).trans x3) hv hlv rfl hsm hk hlen HN.out
  · intro S Inv sz push hI hpl
    refine ⟨enters_recsS.2, fun P s wx f hs hP hP2 hinv hf hsz => ?_⟩
    exact recsSr_any hI hpl ((hs.2 _ (by omega) (by omega)).trans x3) ((hs.2 _ (by omega) (by omega)).trans x2) (hP _ (by omega) (by omega)) hinv hP2 hf hsz
end Go.Proofs.YtehiaeihkdfclaaGreatDoor
/- The parts of a definition. -/
namespace Go.Proofs.YtehiaeihkdfclaaGreatDoor
open Go.RowKit

/-- What a definition's parts do. -/
def DefAt (g o : Nat) (d : DefD) (w : World) : Prop := w.cell? ⟨g, o, none⟩ = some (.string d.name) ∧ ∃ v F, w.cell? ⟨g, o + 1, none⟩ = some v ∧ StepsAt F w v d.steps
def DefW (g o a b : Nat) (w' : World) (ps : List PartV) : Prop :=
  (∀ (St : World → Prop) (d : DefD) (k : Nat), d.sm k → k ≤ 5000 → (∀ w, St w → DefAt g o d w) → WrAll a b w' St ps (defFs d)) ∧
  (∀ (S : Type) (Inv : (Nat → Prop) → S → World → Prop) (sz : S → Nat) (L : Lens S DefD), InvOK Inv → DefPl Inv sz L g o → RdAll a b w' Inv sz ps (L.lift defPs))

set_option maxHeartbeats 8000000 in
set_option maxRecDepth 100000 in
theorem defParts_any {w : World} {g o : Nat} (hg : g < w.heap.size) : Calls Tryz.prog 41 #[.pointer (some ⟨g, o, none⟩)] w (PartsIs 2 (DefW g o) w) := by
  obtain ⟨i0, hi, hz0, hz1, _⟩ := info_parts Tryz.infoPart
  have HG := hide hg
  have L0 : Hid (Later w w.drew) := Later.drew w
  clear hg
  go_enter Tryz.func41, Tryz.ntmps41
  go_wp2
  refine wp_region_L (by kernel_rfl) ?_
  refine wpAnyL_take (i := 0) (d := some 3) (v := ?vad0) rfl rfl (by kernel_rfl) (by kernel_rfl) (by kernel_rfl) (fun _ _ _ h => h) (by rfl) ?yad0 ?_
  case yad0 => (intro w' hw'; go_simp; try (with_reducible rfl))
  simp only [Act.put]; try simp only [List.setIfInBounds_toArray]; try simp only [List.set_cons_zero, List.set_cons_succ]
  refine wpAnyL_take (i := 1) (d := some 4) (v := ?vad1) rfl rfl (by kernel_rfl) (by kernel_rfl) (by kernel_rfl) (fun _ _ _ h => h) (by rfl) ?yad1 ?_
  case yad1 => (intro w' hw'; go_simp; try (with_reducible rfl))
  simp only [Act.put]; try simp only [List.setIfInBounds_toArray]; try simp only [List.set_cons_zero, List.set_cons_succ]
  refine wpAnyL_take (i := 2) (d := some 5) (v := ?vad2) rfl rfl (by kernel_rfl) (by kernel_rfl) (by kernel_rfl) (fun _ _ _ h => h) (by rfl) ?yad2 ?_
  case yad2 => (intro w' hw'; go_simp; try (with_reducible rfl))
  simp only [Act.put]; try simp only [List.setIfInBounds_toArray]; try simp only [List.set_cons_zero, List.set_cons_succ]
  refine wpAnyL_take (i := 4) (d := some 7) (v := ?vad4) rfl rfl (by kernel_rfl) (by kernel_rfl) (by kernel_rfl) (fun _ _ _ h => h) (by rfl) ?yad4 ?_
  case yad4 => (intro w' hw'; go_simp; try (with_reducible rfl))
  simp only [Act.put]; try simp only [List.setIfInBounds_toArray]; try simp only [List.set_cons_zero, List.set_cons_succ]
  refine wpAnyL_take (i := 5) (d := some 8) (v := ?vad5) rfl rfl (by kernel_rfl) (by kernel_rfl) (by kernel_rfl) (fun _ _ _ h => h) (by rfl) ?yad5 ?_
  case yad5 => (intro w' hw'; go_simp; try (with_reducible rfl))
  simp only [Act.put]; try simp only [List.setIfInBounds_toArray]; try simp only [List.set_cons_zero, List.set_cons_succ]
  refine wpAnyL_take (i := 6) (d := some 9) (v := ?vad6) rfl rfl (by kernel_rfl) (by kernel_rfl) (by kernel_rfl) (fun _ _ _ h => h) (by rfl) ?yad6 ?_
  case yad6 => (intro w' hw'; go_simp; try (with_reducible rfl))
  simp only [Act.put]; try simp only [List.setIfInBounds_toArray]; try simp only [List.set_cons_zero, List.set_cons_succ]
  refine wpAnyL_only (i := 3) rfl (by kernel_rfl) (by rfl) fun K hK => ?_
  go_simp
  refine (text_any (num := 1) (g := g) (o := o) (one_i64 (by omega) (by omega)) (by have h2 := HG.out; exact h2)).mono ?_
  rintro e w1 ⟨p1, rfl, hn, l1, hw1, hr1⟩
  refine hK.out _ _ l1 ?_
  have W1 := hide hw1
  have R1 := hide hr1
  have N1 := hide hn
  have K1 := hide l1
  have A1 := hide ((Later.drew w).trans l1)
  clear hn hw1 hr1 l1
  clear hK K
  try (simp only [Act.put]; try simp only [List.setIfInBounds_toArray]; try simp only [List.set_cons_zero, List.set_cons_succ])
  refine wpAnyL_only (i := 7) rfl (by kernel_rfl) (by rfl) fun K hK => ?_
  go_simp
  refine (recsS_any (num := 2) (g := g) (o := (o + 1)) (one_i64 (by omega) (by omega)) (by have h1 := Below.size A1.out; have h2 := HG.out; omega)).mono ?_
  rintro e w2 ⟨p2, rfl, hn, l2, hw2, hr2⟩
  refine hK.out _ _ l2 ?_
  have W2 := hide hw2
  have R2 := hide hr2
  have N2 := hide hn
  have K2 := hide l2
  have A2 := hide (A1.out.trans l2)
  clear hn hw2 hr2 l2
  clear hK K
  try (simp only [Act.put]; try simp only [List.setIfInBounds_toArray]; try simp only [List.set_cons_zero, List.set_cons_succ])
  refine wpAnyL_only (i := 8) rfl (by kernel_rfl) (by rfl) fun K hK => ?_
  refine wp_buildSlice_many 63 110 _ 2 (by rfl) i0 _ 3 Tryz.underlying63 hi hz0 hz1 (by omega) (by omega) (by omega) [p1.cells.toArray, p2.cells.toArray] (by rfl) (by rfl) (by intro v hv; simp only [List.mem_cons, List.not_mem_nil, or_false] at hv; rcases hv with rfl | rfl <;> rfl) ?_
  refine hK.out _ _ (show Later w2 (w2.alloc (.cells (flatC [p1.cells.toArray, p2.cells.toArray]).toArray 110 (0, 0))) from Later.alloc _ _) (?_ : wpAnyL _ _ _ _ _ _ (Act.put _ (some 11) _) _)
  clear hK K
  try (simp only [Act.put]; try simp only [List.setIfInBounds_toArray]; try simp only [List.set_cons_zero, List.set_cons_succ])
  refine wpAnyL_take (i := 9) (d := some 2) (v := ?vad9) rfl rfl (by kernel_rfl) (by kernel_rfl) (by kernel_rfl) (fun _ _ _ h => h) (by rfl) ?yad9 ?_
  case yad9 => (intro w' hw'; go_simp; try (with_reducible rfl))
  simp only [Act.put]; try simp only [List.setIfInBounds_toArray]; try simp only [List.set_cons_zero, List.set_cons_succ]
  refine wpAnyL_done (by kernel_rfl) ?_ _
  go_wp2
  go_ret
  have hz : (w2.alloc (.cells (flatC [p1.cells.toArray, p2.cells.toArray]).toArray 110 (0, 0))).heap.size = w2.heap.size + 1 := World.size_alloc _ _
  have T2 : Later w2 (w2.alloc (.cells (flatC [p1.cells.toArray, p2.cells.toArray]).toArray 110 (0, 0))) := Later.alloc _ _
  have T1 := K2.out.trans T2
  have z1 := Below.size T1
  have z2 := Below.size T2
  have zd : w.drew.heap.size = w.heap.size := rfl
  have y1 := Below.size A1.out
  have y2 := Below.size A2.out
  refine ⟨_, [p1, p2], rfl, rfl, parts_new _ 2 _ _ rfl (Below.size A2.out) (by omega), (A2.out).trans T2, ?_, ?_⟩
  · intro St d k hsm hk hc
    exact (All2.cons (WrOK.part (W1.out St d.name (fun w hw => (hc w hw).1)) (by omega) (by omega) (Nat.le_refl _) T1) (All2.cons (WrOK.part (W2.out St d.steps k hsm.2.2 hk (by have := hsm.2.1; omega) (fun w hw => (hc w hw).2)) (by omega) (by omega) (Nat.le_refl _) T2) All2.nil))
  · intro S Inv sz L hI hpl
    exact (All2.cons ⟨N1.out, RdOK.part (R1.out S Inv sz _ hI hpl.name) (by omega) (by omega) (Nat.le_refl _) T1⟩ (All2.cons ⟨N2.out, RdOK.part (R2.out S Inv sz _ hI hpl.steps) (by omega) (by omega) (Nat.le_refl _) T2⟩ All2.nil))
end Go.Proofs.YtehiaeihkdfclaaGreatDoor
/- The parts of an operation. -/
namespace Go.Proofs.YtehiaeihkdfclaaGreatDoor
open Go.RowKit

/-- What an operation's parts do. -/
def OpIn (g o : Nat) (x : OpD) (w : World) : Prop := ∃ sv F, w.rangeAt g o (x.cells sv) ∧ StepsAt F w sv x.steps
theorem OpIn.defn {g o : Nat} {x : OpD} {w : World} (h : OpIn g o x w) : DefAt g (o + 3) x.defn w := by
  obtain ⟨sv, F, h1, h2⟩ := h
  exact ⟨(range_op h1).2.2.2.1, sv, F, (range_op h1).2.2.2.2.1, h2⟩
def OpW (g o a b : Nat) (w' : World) (ps : List PartV) : Prop :=
  (∀ (St : World → Prop) (x : OpD) (k : Nat), x.sm k → k ≤ 5000 → (∀ w w', St w → Later w w' → St w') → (∀ w, St w → OpIn g o x w) → WrAll a b w' St ps (opFs x)) ∧
  (∀ (S : Type) (Inv : (Nat → Prop) → S → World → Prop) (sz : S → Nat) (L : Lens S OpD), InvOK Inv → OpPl Inv sz L g o → RdAll a b w' Inv sz ps (L.lift opPs))

set_option maxHeartbeats 8000000 in
set_option maxRecDepth 100000 in
theorem opParts_any {w : World} {g o : Nat} (hg : g < w.heap.size) : Calls Tryz.prog 36 #[.pointer (some ⟨g, o, none⟩)] w (PartsIs 9 (OpW g o) w) := by
  obtain ⟨i0, hi, hz0, hz1, _⟩ := info_parts Tryz.infoPart
  have HG := hide hg
  have L0 : Hid (Later w w.drew) := Later.drew w
  clear hg
  go_enter Tryz.func36, Tryz.ntmps36
  go_wp2
  refine wp_region_L (by kernel_rfl) ?_
  refine wpAnyL_take (i := 0) (d := some 3) (v := ?vao0) rfl rfl (by kernel_rfl) (by kernel_rfl) (by kernel_rfl) (fun _ _ _ h => h) (by rfl) ?yao0 ?_
  case yao0 => (intro w' hw'; go_simp; try (with_reducible rfl))
  simp only [Act.put]; try simp only [List.setIfInBounds_toArray]; try simp only [List.set_cons_zero, List.set_cons_succ]
  refine wpAnyL_take (i := 1) (d := some 4) (v := ?vao1) rfl rfl (by kernel_rfl) (by kernel_rfl) (by kernel_rfl) (fun _ _ _ h => h) (by rfl) ?yao1 ?_
  case yao1 => (intro w' hw'; go_simp; try (with_reducible rfl))
  simp only [Act.put]; try simp only [List.setIfInBounds_toArray]; try simp only [List.set_cons_zero, List.set_cons_succ]
  refine wpAnyL_take (i := 2) (d := some 5) (v := ?vao2) rfl rfl (by kernel_rfl) (by kernel_rfl) (by kernel_rfl) (fun _ _ _ h => h) (by rfl) ?yao2 ?_
  case yao2 => (intro w' hw'; go_simp; try (with_reducible rfl))
  simp only [Act.put]; try simp only [List.setIfInBounds_toArray]; try simp only [List.set_cons_zero, List.set_cons_succ]
  refine wpAnyL_take (i := 4) (d := some 7) (v := ?vao4) rfl rfl (by kernel_rfl) (by kernel_rfl) (by kernel_rfl) (fun _ _ _ h => h) (by rfl) ?yao4 ?_
  case yao4 => (intro w' hw'; go_simp; try (with_reducible rfl))
  simp only [Act.put]; try simp only [List.setIfInBounds_toArray]; try simp only [List.set_cons_zero, List.set_cons_succ]
  refine wpAnyL_take (i := 5) (d := some 8) (v := ?vao5) rfl rfl (by kernel_rfl) (by kernel_rfl) (by kernel_rfl) (fun _ _ _ h => h) (by rfl) ?yao5 ?_
  case yao5 => (intro w' hw'; go_simp; try (with_reducible rfl))
  simp only [Act.put]; try simp only [List.setIfInBounds_toArray]; try simp only [List.set_cons_zero, List.set_cons_succ]
  refine wpAnyL_take (i := 6) (d := some 9) (v := ?vao6) rfl rfl (by kernel_rfl) (by kernel_rfl) (by kernel_rfl) (fun _ _ _ h => h) (by rfl) ?yao6 ?_
  case yao6 => (intro w' hw'; go_simp; try (with_reducible rfl))
  simp only [Act.put]; try simp only [List.setIfInBounds_toArray]; try simp only [List.set_cons_zero, List.set_cons_succ]
  refine wpAnyL_take (i := 8) (d := some 11) (v := ?vao8) rfl rfl (by kernel_rfl) (by kernel_rfl) (by kernel_rfl) (fun _ _ _ h => h) (by rfl) ?yao8 ?_
  case yao8 => (intro w' hw'; go_simp; try (with_reducible rfl))
  simp only [Act.put]; try simp only [List.setIfInBounds_toArray]; try simp only [List.set_cons_zero, List.set_cons_succ]
  refine wpAnyL_take (i := 9) (d := some 12) (v := ?vao9) rfl rfl (by kernel_rfl) (by kernel_rfl) (by kernel_rfl) (fun _ _ _ h => h) (by rfl) ?yao9 ?_
  case yao9 => (intro w' hw'; go_simp; try (with_reducible rfl))
  simp only [Act.put]; try simp only [List.setIfInBounds_toArray]; try simp only [List.set_cons_zero, List.set_cons_succ]
  refine wpAnyL_take (i := 10) (d := some 13) (v := ?vao10) rfl rfl (by kernel_rfl) (by kernel_rfl) (by kernel_rfl) (fun _ _ _ h => h) (by rfl) ?yao10 ?_
  case yao10 => (intro w' hw'; go_simp; try (with_reducible rfl))
  simp only [Act.put]; try simp only [List.setIfInBounds_toArray]; try simp only [List.set_cons_zero, List.set_cons_succ]
  refine wpAnyL_take (i := 12) (d := some 15) (v := ?vao12) rfl rfl (by kernel_rfl) (by kernel_rfl) (by kernel_rfl) (fun _ _ _ h => h) (by rfl) ?yao12 ?_
  case yao12 => (intro w' hw'; go_simp; try (with_reducible rfl))
  simp only [Act.put]; try simp only [List.setIfInBounds_toArray]; try simp only [List.set_cons_zero, List.set_cons_succ]
  refine wpAnyL_take (i := 13) (d := some 16) (v := ?vao13) rfl rfl (by kernel_rfl) (by kernel_rfl) (by kernel_rfl) (fun _ _ _ h => h) (by rfl) ?yao13 ?_
  case yao13 => (intro w' hw'; go_simp; try (with_reducible rfl))
  simp only [Act.put]; try simp only [List.setIfInBounds_toArray]; try simp only [List.set_cons_zero, List.set_cons_succ]
  refine wpAnyL_take (i := 14) (d := some 17) (v := ?vao14) rfl rfl (by kernel_rfl) (by kernel_rfl) (by kernel_rfl) (fun _ _ _ h => h) (by rfl) ?yao14 ?_
  case yao14 => (intro w' hw'; go_simp; try (with_reducible rfl))
  simp only [Act.put]; try simp only [List.setIfInBounds_toArray]; try simp only [List.set_cons_zero, List.set_cons_succ]
  refine wpAnyL_take (i := 17) (d := some 20) (v := ?vao17) rfl rfl (by kernel_rfl) (by kernel_rfl) (by kernel_rfl) (fun _ _ _ h => h) (by rfl) ?yao17 ?_
  case yao17 => (intro w' hw'; go_simp; try (with_reducible rfl))
  simp only [Act.put]; try simp only [List.setIfInBounds_toArray]; try simp only [List.set_cons_zero, List.set_cons_succ]
  refine wpAnyL_take (i := 18) (d := some 21) (v := ?vao18) rfl rfl (by kernel_rfl) (by kernel_rfl) (by kernel_rfl) (fun _ _ _ h => h) (by rfl) ?yao18 ?_
  case yao18 => (intro w' hw'; go_simp; try (with_reducible rfl))
  simp only [Act.put]; try simp only [List.setIfInBounds_toArray]; try simp only [List.set_cons_zero, List.set_cons_succ]
  refine wpAnyL_take (i := 19) (d := some 22) (v := ?vao19) rfl rfl (by kernel_rfl) (by kernel_rfl) (by kernel_rfl) (fun _ _ _ h => h) (by rfl) ?yao19 ?_
  case yao19 => (intro w' hw'; go_simp; try (with_reducible rfl))
  simp only [Act.put]; try simp only [List.setIfInBounds_toArray]; try simp only [List.set_cons_zero, List.set_cons_succ]
  refine wpAnyL_take (i := 21) (d := some 24) (v := ?vao21) rfl rfl (by kernel_rfl) (by kernel_rfl) (by kernel_rfl) (fun _ _ _ h => h) (by rfl) ?yao21 ?_
  case yao21 => (intro w' hw'; go_simp; try (with_reducible rfl))
  simp only [Act.put]; try simp only [List.setIfInBounds_toArray]; try simp only [List.set_cons_zero, List.set_cons_succ]
  refine wpAnyL_take (i := 22) (d := some 25) (v := ?vao22) rfl rfl (by kernel_rfl) (by kernel_rfl) (by kernel_rfl) (fun _ _ _ h => h) (by rfl) ?yao22 ?_
  case yao22 => (intro w' hw'; go_simp; try (with_reducible rfl))
  simp only [Act.put]; try simp only [List.setIfInBounds_toArray]; try simp only [List.set_cons_zero, List.set_cons_succ]
  refine wpAnyL_take (i := 23) (d := some 26) (v := ?vao23) rfl rfl (by kernel_rfl) (by kernel_rfl) (by kernel_rfl) (fun _ _ _ h => h) (by rfl) ?yao23 ?_
  case yao23 => (intro w' hw'; go_simp; try (with_reducible rfl))
  simp only [Act.put]; try simp only [List.setIfInBounds_toArray]; try simp only [List.set_cons_zero, List.set_cons_succ]
  refine wpAnyL_take (i := 25) (d := some 28) (v := ?vao25) rfl rfl (by kernel_rfl) (by kernel_rfl) (by kernel_rfl) (fun _ _ _ h => h) (by rfl) ?yao25 ?_
  case yao25 => (intro w' hw'; go_simp; try (with_reducible rfl))
  simp only [Act.put]; try simp only [List.setIfInBounds_toArray]; try simp only [List.set_cons_zero, List.set_cons_succ]
  refine wpAnyL_take (i := 26) (d := some 29) (v := ?vao26) rfl rfl (by kernel_rfl) (by kernel_rfl) (by kernel_rfl) (fun _ _ _ h => h) (by rfl) ?yao26 ?_
  case yao26 => (intro w' hw'; go_simp; try (with_reducible rfl))
  simp only [Act.put]; try simp only [List.setIfInBounds_toArray]; try simp only [List.set_cons_zero, List.set_cons_succ]
  refine wpAnyL_take (i := 27) (d := some 30) (v := ?vao27) rfl rfl (by kernel_rfl) (by kernel_rfl) (by kernel_rfl) (fun _ _ _ h => h) (by rfl) ?yao27 ?_
  case yao27 => (intro w' hw'; go_simp; try (with_reducible rfl))
  simp only [Act.put]; try simp only [List.setIfInBounds_toArray]; try simp only [List.set_cons_zero, List.set_cons_succ]
  refine wpAnyL_take (i := 29) (d := some 32) (v := ?vao29) rfl rfl (by kernel_rfl) (by kernel_rfl) (by kernel_rfl) (fun _ _ _ h => h) (by rfl) ?yao29 ?_
  case yao29 => (intro w' hw'; go_simp; try (with_reducible rfl))
  simp only [Act.put]; try simp only [List.setIfInBounds_toArray]; try simp only [List.set_cons_zero, List.set_cons_succ]
  refine wpAnyL_take (i := 30) (d := some 33) (v := ?vao30) rfl rfl (by kernel_rfl) (by kernel_rfl) (by kernel_rfl) (fun _ _ _ h => h) (by rfl) ?yao30 ?_
  case yao30 => (intro w' hw'; go_simp; try (with_reducible rfl))
  simp only [Act.put]; try simp only [List.setIfInBounds_toArray]; try simp only [List.set_cons_zero, List.set_cons_succ]
  refine wpAnyL_take (i := 31) (d := some 34) (v := ?vao31) rfl rfl (by kernel_rfl) (by kernel_rfl) (by kernel_rfl) (fun _ _ _ h => h) (by rfl) ?yao31 ?_
  case yao31 => (intro w' hw'; go_simp; try (with_reducible rfl))
  simp only [Act.put]; try simp only [List.setIfInBounds_toArray]; try simp only [List.set_cons_zero, List.set_cons_succ]
  refine wpAnyL_take (i := 33) (d := some 36) (v := ?vao33) rfl rfl (by kernel_rfl) (by kernel_rfl) (by kernel_rfl) (fun _ _ _ h => h) (by rfl) ?yao33 ?_
  case yao33 => (intro w' hw'; go_simp; try (with_reducible rfl))
  simp only [Act.put]; try simp only [List.setIfInBounds_toArray]; try simp only [List.set_cons_zero, List.set_cons_succ]
  refine wpAnyL_take (i := 34) (d := some 37) (v := ?vao34) rfl rfl (by kernel_rfl) (by kernel_rfl) (by kernel_rfl) (fun _ _ _ h => h) (by rfl) ?yao34 ?_
  case yao34 => (intro w' hw'; go_simp; try (with_reducible rfl))
  simp only [Act.put]; try simp only [List.setIfInBounds_toArray]; try simp only [List.set_cons_zero, List.set_cons_succ]
  refine wpAnyL_take (i := 35) (d := some 38) (v := ?vao35) rfl rfl (by kernel_rfl) (by kernel_rfl) (by kernel_rfl) (fun _ _ _ h => h) (by rfl) ?yao35 ?_
  case yao35 => (intro w' hw'; go_simp; try (with_reducible rfl))
  simp only [Act.put]; try simp only [List.setIfInBounds_toArray]; try simp only [List.set_cons_zero, List.set_cons_succ]
  refine wpAnyL_only (i := 3) rfl (by kernel_rfl) (by rfl) fun K hK => ?_
  go_simp
  refine (num_any9 (num := 1) (g := g) (o := o) (one_i64 (by omega) (by omega)) (by have h2 := HG.out; exact h2)).mono ?_
  rintro e w1 ⟨p1, rfl, hn, l1, hw1, hr1⟩
  refine hK.out _ _ l1 ?_
  have W1 := hide hw1
  have R1 := hide hr1
  have N1 := hide hn
  have K1 := hide l1
  have A1 := hide ((Later.drew w).trans l1)
  clear hn hw1 hr1 l1
  clear hK K
  try (simp only [Act.put]; try simp only [List.setIfInBounds_toArray]; try simp only [List.set_cons_zero, List.set_cons_succ])
  refine wpAnyL_only (i := 7) rfl (by kernel_rfl) (by rfl) fun K hK => ?_
  go_simp
  refine (num_any9 (num := 2) (g := g) (o := (o + 1)) (one_i64 (by omega) (by omega)) (by have h1 := Below.size A1.out; have h2 := HG.out; omega)).mono ?_
  rintro e w2 ⟨p2, rfl, hn, l2, hw2, hr2⟩
  refine hK.out _ _ l2 ?_
  have W2 := hide hw2
  have R2 := hide hr2
  have N2 := hide hn
  have K2 := hide l2
  have A2 := hide (A1.out.trans l2)
  clear hn hw2 hr2 l2
  clear hK K
  try (simp only [Act.put]; try simp only [List.setIfInBounds_toArray]; try simp only [List.set_cons_zero, List.set_cons_succ])
  refine wpAnyL_only (i := 11) rfl (by kernel_rfl) (by rfl) fun K hK => ?_
  go_simp
  refine (num_any9 (num := 3) (g := g) (o := (o + 2)) (one_i64 (by omega) (by omega)) (by have h1 := Below.size A2.out; have h2 := HG.out; omega)).mono ?_
  rintro e w3 ⟨p3, rfl, hn, l3, hw3, hr3⟩
  refine hK.out _ _ l3 ?_
  have W3 := hide hw3
  have R3 := hide hr3
  have N3 := hide hn
  have K3 := hide l3
  have A3 := hide (A2.out.trans l3)
  clear hn hw3 hr3 l3
  clear hK K
  try (simp only [Act.put]; try simp only [List.setIfInBounds_toArray]; try simp only [List.set_cons_zero, List.set_cons_succ])
  refine wpAnyL_only (i := 15) rfl (by kernel_rfl) (by rfl) fun K hK => ?_
  go_simp
  refine (defParts_any (g := g) (o := (o + 3)) (by have h1 := Below.size A3.out; have h2 := HG.out; omega)).mono ?_
  rintro e w4 ⟨q4, ps4, rfl, hlen, hpa, l4, hsub⟩
  refine hK.out _ _ l4 ?_
  have Q4 := hide hpa
  have V4 := hide hsub
  have M4 := hide hlen
  have K4 := hide l4
  have A4 := hide (A3.out.trans l4)
  clear hlen hpa hsub l4
  clear hK K
  try (simp only [Act.put]; try simp only [List.setIfInBounds_toArray]; try simp only [List.set_cons_zero, List.set_cons_succ])
  refine wpAnyL_only (i := 16) rfl (by kernel_rfl) (by rfl) fun K hK => ?_
  go_simp
  refine (record_any9 (num := 4) (a := (w3).heap.size) (b := w4.heap.size) (one_i64 (by omega) (by omega)) Q4.out M4.out.symm (Below.size K4.out) (Nat.le_refl _)).mono ?_
  rintro e w5 ⟨p4, rfl, hn, l5, hw4, hr4⟩
  refine hK.out _ _ l5 ?_
  have W4 := hide hw4
  have R4 := hide hr4
  have N4 := hide hn
  have K5 := hide l5
  have A5 := hide (A4.out.trans l5)
  clear hn hw4 hr4 l5
  clear hK K
  try (simp only [Act.put]; try simp only [List.setIfInBounds_toArray]; try simp only [List.set_cons_zero, List.set_cons_succ])
  refine wpAnyL_only (i := 20) rfl (by kernel_rfl) (by rfl) fun K hK => ?_
  go_simp
  refine (num_any9 (num := 5) (g := g) (o := (o + 5)) (one_i64 (by omega) (by omega)) (by have h1 := Below.size A5.out; have h2 := HG.out; omega)).mono ?_
  rintro e w6 ⟨p5, rfl, hn, l6, hw5, hr5⟩
  refine hK.out _ _ l6 ?_
  have W5 := hide hw5
  have R5 := hide hr5
  have N5 := hide hn
  have K6 := hide l6
  have A6 := hide (A5.out.trans l6)
  clear hn hw5 hr5 l6
  clear hK K
  try (simp only [Act.put]; try simp only [List.setIfInBounds_toArray]; try simp only [List.set_cons_zero, List.set_cons_succ])
  refine wpAnyL_only (i := 24) rfl (by kernel_rfl) (by rfl) fun K hK => ?_
  go_simp
  refine (num_any9 (num := 6) (g := g) (o := (o + 6)) (one_i64 (by omega) (by omega)) (by have h1 := Below.size A6.out; have h2 := HG.out; omega)).mono ?_
  rintro e w7 ⟨p6, rfl, hn, l7, hw6, hr6⟩
  refine hK.out _ _ l7 ?_
  have W6 := hide hw6
  have R6 := hide hr6
  have N6 := hide hn
  have K7 := hide l7
  have A7 := hide (A6.out.trans l7)
  clear hn hw6 hr6 l7
  clear hK K
  try (simp only [Act.put]; try simp only [List.setIfInBounds_toArray]; try simp only [List.set_cons_zero, List.set_cons_succ])
  refine wpAnyL_only (i := 28) rfl (by kernel_rfl) (by rfl) fun K hK => ?_
  go_simp
  refine (num_any9 (num := 7) (g := g) (o := (o + 7)) (one_i64 (by omega) (by omega)) (by have h1 := Below.size A7.out; have h2 := HG.out; omega)).mono ?_
  rintro e w8 ⟨p7, rfl, hn, l8, hw7, hr7⟩
  refine hK.out _ _ l8 ?_
  have W7 := hide hw7
  have R7 := hide hr7
  have N7 := hide hn
  have K8 := hide l8
  have A8 := hide (A7.out.trans l8)
  clear hn hw7 hr7 l8
  clear hK K
  try (simp only [Act.put]; try simp only [List.setIfInBounds_toArray]; try simp only [List.set_cons_zero, List.set_cons_succ])
  refine wpAnyL_only (i := 32) rfl (by kernel_rfl) (by rfl) fun K hK => ?_
  go_simp
  refine (flag_any (num := 8) (g := g) (o := (o + 8)) (one_i64 (by omega) (by omega)) (by have h1 := Below.size A8.out; have h2 := HG.out; omega)).mono ?_
  rintro e w9 ⟨p8, rfl, hn, l9, hw8, hr8⟩
  refine hK.out _ _ l9 ?_
  have W8 := hide hw8
  have R8 := hide hr8
  have N8 := hide hn
  have K9 := hide l9
  have A9 := hide (A8.out.trans l9)
  clear hn hw8 hr8 l9
  clear hK K
  try (simp only [Act.put]; try simp only [List.setIfInBounds_toArray]; try simp only [List.set_cons_zero, List.set_cons_succ])
  refine wpAnyL_only (i := 36) rfl (by kernel_rfl) (by rfl) fun K hK => ?_
  go_simp
  refine (flag_any (num := 9) (g := g) (o := (o + 9)) (one_i64 (by omega) (by omega)) (by have h1 := Below.size A9.out; have h2 := HG.out; omega)).mono ?_
  rintro e w10 ⟨p9, rfl, hn, l10, hw9, hr9⟩
  refine hK.out _ _ l10 ?_
  have W9 := hide hw9
  have R9 := hide hr9
  have N9 := hide hn
  have K10 := hide l10
  have A10 := hide (A9.out.trans l10)
  clear hn hw9 hr9 l10
  clear hK K
  try (simp only [Act.put]; try simp only [List.setIfInBounds_toArray]; try simp only [List.set_cons_zero, List.set_cons_succ])
  refine wpAnyL_only (i := 37) rfl (by kernel_rfl) (by rfl) fun K hK => ?_
  refine wp_buildSlice_many 63 110 _ 9 (by rfl) i0 _ 3 Tryz.underlying63 hi hz0 hz1 (by omega) (by omega) (by omega) [p1.cells.toArray, p2.cells.toArray, p3.cells.toArray, p4.cells.toArray, p5.cells.toArray, p6.cells.toArray, p7.cells.toArray, p8.cells.toArray, p9.cells.toArray] (by rfl) (by rfl) (by intro v hv; simp only [List.mem_cons, List.not_mem_nil, or_false] at hv; rcases hv with rfl | rfl | rfl | rfl | rfl | rfl | rfl | rfl | rfl <;> rfl) ?_
  refine hK.out _ _ (show Later w10 (w10.alloc (.cells (flatC [p1.cells.toArray, p2.cells.toArray, p3.cells.toArray, p4.cells.toArray, p5.cells.toArray, p6.cells.toArray, p7.cells.toArray, p8.cells.toArray, p9.cells.toArray]).toArray 110 (0, 0))) from Later.alloc _ _) (?_ : wpAnyL _ _ _ _ _ _ (Act.put _ (some 40) _) _)
  clear hK K
  try (simp only [Act.put]; try simp only [List.setIfInBounds_toArray]; try simp only [List.set_cons_zero, List.set_cons_succ])
  refine wpAnyL_take (i := 38) (d := some 2) (v := ?vao38) rfl rfl (by kernel_rfl) (by kernel_rfl) (by kernel_rfl) (fun _ _ _ h => h) (by rfl) ?yao38 ?_
  case yao38 => (intro w' hw'; go_simp; try (with_reducible rfl))
  simp only [Act.put]; try simp only [List.setIfInBounds_toArray]; try simp only [List.set_cons_zero, List.set_cons_succ]
  refine wpAnyL_done (by kernel_rfl) ?_ _
  go_wp2
  go_ret
  have hz : (w10.alloc (.cells (flatC [p1.cells.toArray, p2.cells.toArray, p3.cells.toArray, p4.cells.toArray, p5.cells.toArray, p6.cells.toArray, p7.cells.toArray, p8.cells.toArray, p9.cells.toArray]).toArray 110 (0, 0))).heap.size = w10.heap.size + 1 := World.size_alloc _ _
  have T10 : Later w10 (w10.alloc (.cells (flatC [p1.cells.toArray, p2.cells.toArray, p3.cells.toArray, p4.cells.toArray, p5.cells.toArray, p6.cells.toArray, p7.cells.toArray, p8.cells.toArray, p9.cells.toArray]).toArray 110 (0, 0))) := Later.alloc _ _
  have T9 := K10.out.trans T10
  have T8 := K9.out.trans T9
  have T7 := K8.out.trans T8
  have T6 := K7.out.trans T7
  have T5 := K6.out.trans T6
  have T4 := K5.out.trans T5
  have T3 := K4.out.trans T4
  have T2 := K3.out.trans T3
  have T1 := K2.out.trans T2
  have z1 := Below.size T1
  have z2 := Below.size T2
  have z3 := Below.size T3
  have z4 := Below.size T4
  have z5 := Below.size T5
  have z6 := Below.size T6
  have z7 := Below.size T7
  have z8 := Below.size T8
  have z9 := Below.size T9
  have z10 := Below.size T10
  have zd : w.drew.heap.size = w.heap.size := rfl
  have y1 := Below.size A1.out
  have y2 := Below.size A2.out
  have y3 := Below.size A3.out
  have y4 := Below.size A4.out
  have y5 := Below.size A5.out
  have y6 := Below.size A6.out
  have y7 := Below.size A7.out
  have y8 := Below.size A8.out
  have y9 := Below.size A9.out
  have y10 := Below.size A10.out
  refine ⟨_, [p1, p2, p3, p4, p5, p6, p7, p8, p9], rfl, rfl, parts_new _ 9 _ _ rfl (Below.size A10.out) (by omega), (A10.out).trans T10, ?_, ?_⟩
  · intro St x k hsm hk hup hc
    exact (All2.cons (WrOK.part (W1.out St x.kind hsm.1 (fun w hw => by obtain ⟨sv, F, h1, h2⟩ := hc w hw; exact (range_op h1).1)) (by omega) (by omega) (Nat.le_refl _) T1) (All2.cons (WrOK.part (W2.out St x.client hsm.2.1 (fun w hw => by obtain ⟨sv, F, h1, h2⟩ := hc w hw; exact (range_op h1).2.1)) (by omega) (by omega) (Nat.le_refl _) T2) (All2.cons (WrOK.part (W3.out St x.request hsm.2.2.1 (fun w hw => by obtain ⟨sv, F, h1, h2⟩ := hc w hw; exact (range_op h1).2.2.1)) (by omega) (by omega) (Nat.le_refl _) T3) (All2.cons (WrOK.part (W4.out St (defFs x.defn) hup (V4.out.1 St x.defn k hsm.2.2.2.1 hk (fun w hw => (hc w hw).defn)) (by have h1 := defF_room hsm.2.2.2.1; have h2 := k_small hk; rw [defFs_flat]; omega)) (by omega) (by omega) (Nat.le_refl _) T5) (All2.cons (WrOK.part (W5.out St x.saga hsm.2.2.2.2.1 (fun w hw => by obtain ⟨sv, F, h1, h2⟩ := hc w hw; exact (range_op h1).2.2.2.2.2.1)) (by omega) (by omega) (Nat.le_refl _) T6) (All2.cons (WrOK.part (W6.out St x.step hsm.2.2.2.2.2.1 (fun w hw => by obtain ⟨sv, F, h1, h2⟩ := hc w hw; exact (range_op h1).2.2.2.2.2.2.1)) (by omega) (by omega) (Nat.le_refl _) T7) (All2.cons (WrOK.part (W7.out St x.try_ hsm.2.2.2.2.2.2 (fun w hw => by obtain ⟨sv, F, h1, h2⟩ := hc w hw; exact (range_op h1).2.2.2.2.2.2.2.1)) (by omega) (by omega) (Nat.le_refl _) T8) (All2.cons (WrOK.part (W8.out St x.back (fun w hw => by obtain ⟨sv, F, h1, h2⟩ := hc w hw; exact (range_op h1).2.2.2.2.2.2.2.2.1)) (by omega) (by omega) (Nat.le_refl _) T9) (All2.cons (WrOK.part (W9.out St x.good (fun w hw => by obtain ⟨sv, F, h1, h2⟩ := hc w hw; exact (range_op h1).2.2.2.2.2.2.2.2.2)) (by omega) (by omega) (Nat.le_refl _) T10) All2.nil)))))))))
  · intro S Inv sz L hI hpl
    exact (All2.cons ⟨N1.out, RdOK.part (R1.out S Inv sz _ hI hpl.kind) (by omega) (by omega) (Nat.le_refl _) T1⟩ (All2.cons ⟨N2.out, RdOK.part (R2.out S Inv sz _ hI hpl.client) (by omega) (by omega) (Nat.le_refl _) T2⟩ (All2.cons ⟨N3.out, RdOK.part (R3.out S Inv sz _ hI hpl.request) (by omega) (by omega) (Nat.le_refl _) T3⟩ (All2.cons ⟨N4.out, RdOK.part (RdOK.same (R4.out S Inv sz ((L.comp opDef).lift defPs) hI (V4.out.2 S Inv sz (L.comp opDef) hI hpl.defn) (lift_nodup _ defPs_own) (def_grow hpl.defn)) (fun s f => Lens.rdB (L.comp opDef) defPs s f.2.2.2)) (by omega) (by omega) (Nat.le_refl _) T5⟩ (All2.cons ⟨N5.out, RdOK.part (R5.out S Inv sz _ hI hpl.saga) (by omega) (by omega) (Nat.le_refl _) T6⟩ (All2.cons ⟨N6.out, RdOK.part (R6.out S Inv sz _ hI hpl.step) (by omega) (by omega) (Nat.le_refl _) T7⟩ (All2.cons ⟨N7.out, RdOK.part (R7.out S Inv sz _ hI hpl.try_) (by omega) (by omega) (Nat.le_refl _) T8⟩ (All2.cons ⟨N8.out, RdOK.part (R8.out S Inv sz _ hI hpl.back) (by omega) (by omega) (Nat.le_refl _) T9⟩ (All2.cons ⟨N9.out, RdOK.part (R9.out S Inv sz _ hI hpl.good) (by omega) (by omega) (Nat.le_refl _) T10⟩ All2.nil)))))))))
end Go.Proofs.YtehiaeihkdfclaaGreatDoor
/- The parts of lists of operations: how they are written, how they are read. -/
namespace Go.Proofs.YtehiaeihkdfclaaGreatDoor
open Go.RowKit

theorem Tryz.infoElO : (Tryz.prog.info? 26).map (fun i => (i.zero, i.size, i.bytes)) = some (some (.agg #[.int .i64 0, .int .i64 0, .int .i64 0, .string ⟨#[]⟩, .slice none 0 0, .int .i64 0, .int .i64 0, .int .i64 0, .bool false, .bool false]), 10, 96) := by kernel_rfl

set_option maxHeartbeats 8000000 in
set_option maxRecDepth 100000 in
theorem recsOw_any {w : World} {bl bq bf g o m c k : Nat} {A : Option Addr} {num : Int} {F : Nat → Prop} {l : List OpD} {ps9 : List (OpD × Value)} (h1 : w.heap[bl]? = some (.cells #[.pointer (some ⟨g, o, none⟩)] 122 (0, 0))) (h2 : w.heap[bq]? = some (.cells #[.int .i64 num] 3 (0, 0)))
    (h3 : w.heap[bf]? = some (.cells #[.func (.func 36) #[] #[]] 69 (0, 0))) (hc : w.cell? ⟨g, o, none⟩ = some (.slice A m c)) (hl : OpsIn F w (.slice A m c) ps9) (hpl9 : ps9.map (·.1) = l) (hmp : m = ps9.length) (hm : m = l.length) (hsm : ∀ s ∈ l, s.sm k) (hk : k ≤ 5000) (hml : m ≤ 100000) (hn : I64 num) :
    Calls Tryz.prog 107 #[.pointer (some ⟨bl, 0, none⟩), .pointer (some ⟨bq, 0, none⟩), .pointer (some ⟨bf, 0, none⟩)] w (FieldsIs (l.map fun s => prow num (opB s)) w) := by
  obtain ⟨i0, hi, hz0, hz1, hz2⟩ := info_parts Tryz.infoFd9
  have hx1 := cell_of_row w bl 0 _ _ _ h1
  simp only [List.getElem?_toArray, List.getElem?_cons_zero] at hx1
  have HB2 : Hid (∀ w', Below w.heap.size w w' → w'.cell? ⟨bq, 0, none⟩ = some (.int .i64 num)) := fun w' h => cell_of_row w' bq 0 _ _ _ ((h.block bq (lt_of_block h2)).trans h2)
  have HB3 : Hid (∀ w', Below w.heap.size w w' → w'.cell? ⟨bf, 0, none⟩ = some (.func (.func 36) #[] #[])) := fun w' h => cell_of_row w' bf 0 _ _ _ ((h.block bf (lt_of_block h3)).trans h3)
  have HLL := hide hl
  have HM := hide hm
  have HPL := hide hpl9
  have HMP := hide hmp
  have HSM := hide hsm
  have HKK := hide hk
  have HN := hide hn
  clear h1 h2 h3 hl hm hsm hk hn hpl9 hmp
  go_enter Tryz.func107, Tryz.ntmps107
  go_wp2
  clear hc hx1
  go_loopw [4, 11] (fun lv i wr => ∃ (q : Nat) (fds : List Fd), q ≤ m ∧ i = .int .i64 (q : Int) ∧ wr.ownsRow w.heap.size 140 4 lv q (fcells fds) ∧ (∀ f ∈ fds, FdAt wr f) ∧ fds.map Fd.pf = (l.take q).map (fun s => prow num (opB s)) ∧ Later w wr) (fun _ i _ => m - (intOf i).toNat)
  case atStart => exact ⟨0, [], by omega, rfl, by simpa [fcells] using World.ownsRow_nil _ _ _ _, by simp, by simp, Later.refl _⟩
  case round =>
    obtain ⟨q, fds, hq, rfl, hown, hoks, hpf, hlat⟩ := hrel
    have HO := hide hown
    have HK := hide hoks
    have HF := hide hpf
    have HL := hide hlat
    clear hown hoks hpf hlat
    by_cases hlt : q < m
    · obtain ⟨s, sv, b, off, c', hsk9, hv, _, _, hbw, hr, hst⟩ := OpsIn.at_ (HLL.out.kept (Kept.of_below HL.out F)) (i := q) (by rw [← HMP.out]; exact hlt)
      obtain ⟨rfl, rfl⟩ : A = some ⟨b, off, none⟩ ∧ c = c' := by injection hv with e1 _ e3; exact ⟨e1, e3⟩
      obtain ⟨sA, sc, rfl, _⟩ := FlatAt.shape hst
      obtain ⟨r0, r1, r2, r3, r4, r5, r6, r7, r8, r9⟩ := range_op hr
      have hsk : l[q]? = some s := by rw [← HPL.out, List.getElem?_map, hsk9]; rfl
      have HSK := hide hsk
      have HS8 : Hid (StepsAt F (wr.alloc (.cells #[.int .i64 s.kind, .int .i64 s.client, .int .i64 s.request, .string s.name, .slice sA s.steps.length sc, .int .i64 s.saga, .int .i64 s.step, .int .i64 s.try_, .bool s.back, .bool s.good] 26 (0, 0))) (.slice sA s.steps.length sc) s.steps) := hst.kept (Kept.of_below (Later.alloc _ _) F)
      have HW8 : Hid (Later wr (wr.alloc (.cells #[.int .i64 s.kind, .int .i64 s.client, .int .i64 s.request, .string s.name, .slice sA s.steps.length sc, .int .i64 s.saga, .int .i64 s.step, .int .i64 s.try_, .bool s.back, .bool s.good] 26 (0, 0)))) := Later.alloc _ _
      have HX8 : Hid ((wr.alloc (.cells #[.int .i64 s.kind, .int .i64 s.client, .int .i64 s.request, .string s.name, .slice sA s.steps.length sc, .int .i64 s.saga, .int .i64 s.step, .int .i64 s.try_, .bool s.back, .bool s.good] 26 (0, 0))).heap[wr.heap.size]? = some (.cells #[.int .i64 s.kind, .int .i64 s.client, .int .i64 s.request, .string s.name, .slice sA s.steps.length sc, .int .i64 s.saga, .int .i64 s.step, .int .i64 s.try_, .bool s.back, .bool s.good] 26 (0, 0))) := heap_alloc_new _ _
      have HZ8 : Hid (wr.heap.size < (wr.alloc (.cells #[.int .i64 s.kind, .int .i64 s.client, .int .i64 s.request, .string s.name, .slice sA s.steps.length sc, .int .i64 s.saga, .int .i64 s.step, .int .i64 s.try_, .bool s.back, .bool s.good] 26 (0, 0))).heap.size) := by show _ < _; rw [World.size_alloc]; omega
      clear hsk hv hr hsk9 hst
      go_wp2
      generalize wr.alloc (.cells #[.int .i64 s.kind, .int .i64 s.client, .int .i64 s.request, .string s.name, .slice sA s.steps.length sc, .int .i64 s.saga, .int .i64 s.step, .int .i64 s.try_, .bool s.back, .bool s.good] 26 (0, 0)) = W8 at HW8 HX8 HZ8 HS8 ⊢
      have HT0 := hide (show Below w.heap.size w W8.drew from (HL.out.trans HW8.out).trans (Later.drew W8))
      refine wp_region_R (R := fun a c => Below w.heap.size a c) (by kernel_rfl) ?_
      refine wpAnyR_take (pre_below w.heap.size) (i := 0) (d := some 15) (v := ?vaw0) rfl rfl (by kernel_rfl) (by kernel_rfl) (by kernel_rfl) (fun _ _ _ h => h) (by rfl) ?yaw0 ?_
      case yaw0 => (intro w' hw'; go_simp; try (with_reducible rfl))
      simp only [Act.put]; try simp only [List.setIfInBounds_toArray]; try simp only [List.set_cons_zero, List.set_cons_succ]
      refine wpAnyR_take (pre_below w.heap.size) (i := 1) (d := some 16) (v := .int .i64 num) rfl rfl (by kernel_rfl) (by kernel_rfl) (by kernel_rfl) (fun _ _ _ h => h) (by rfl) ?yaw1 ?_
      case yaw1 => (intro w' hw'; have hx2 := HB2.out w' (HT0.out.trans hw'); go_simp; try (with_reducible rfl))
      simp only [Act.put]; try simp only [List.setIfInBounds_toArray]; try simp only [List.set_cons_zero, List.set_cons_succ]
      refine wpAnyR_take (pre_below w.heap.size) (i := 2) (d := some 17) (v := .func (.func 36) #[] #[]) rfl rfl (by kernel_rfl) (by kernel_rfl) (by kernel_rfl) (fun _ _ _ h => h) (by rfl) ?yaw2 ?_
      case yaw2 => (intro w' hw'; have hx3 := HB3.out w' (HT0.out.trans hw'); go_simp; try (with_reducible rfl))
      simp only [Act.put]; try simp only [List.setIfInBounds_toArray]; try simp only [List.set_cons_zero, List.set_cons_succ]
      refine wpAnyR_only (i := 3) rfl (by kernel_rfl) (by rfl) fun K hK => ?_
      go_simp
      refine (opParts_any (w := W8.drew) (g := wr.heap.size) (o := 0) HZ8.out).mono ?_
      rintro e w1 ⟨A1, ps, rfl, hlen, hpa, l1, hsub⟩
      have K1 := hide l1
      have HT1 := hide (HT0.out.trans (show Below w.heap.size W8.drew w1 from Below.mono l1 HT0.out.size))
      have C := hide (nwrite_any (St := (fun wx => wr.heap.size < wx.heap.size ∧ wx.heap[wr.heap.size]? = some (.cells #[.int .i64 s.kind, .int .i64 s.client, .int .i64 s.request, .string s.name, .slice sA s.steps.length sc, .int .i64 s.saga, .int .i64 s.step, .int .i64 s.try_, .bool s.back, .bool s.good] 26 (0, 0)) ∧ StepsAt F wx (.slice sA s.steps.length sc) s.steps)) hpa hlen.symm (Stay.refl (Nat.le_refl _)) ⟨by have h0 : W8.drew.heap.size = W8.heap.size := rfl; have := Below.size l1; have := HZ8.out; omega, (Below.block l1 _ HZ8.out).trans HX8.out, StepsAt.kept HS8.out (Kept.of_below ((Later.drew W8).trans l1) F)⟩ (fun wa wb h hl => ⟨by have := Below.size hl; omega, (Below.block hl _ h.1).trans h.2.1, StepsAt.kept h.2.2 (Kept.of_below hl F)⟩) (hsub.1 (fun wx => wr.heap.size < wx.heap.size ∧ wx.heap[wr.heap.size]? = some (.cells #[.int .i64 s.kind, .int .i64 s.client, .int .i64 s.request, .string s.name, .slice sA s.steps.length sc, .int .i64 s.saga, .int .i64 s.step, .int .i64 s.try_, .bool s.back, .bool s.good] 26 (0, 0)) ∧ StepsAt F wx (.slice sA s.steps.length sc) s.steps) s k (HSM.out s (List.mem_of_getElem? HSK.out)) HKK.out (fun wa wb h hl => ⟨by have := Below.size hl; omega, (Below.block hl _ h.1).trans h.2.1, StepsAt.kept h.2.2 (Kept.of_below hl F)⟩) (fun wx h => ⟨_, F, range_block h.2.1, h.2.2⟩)) (by have h1 := opF_room (HSM.out s (List.mem_of_getElem? HSK.out)); have h2 := k_small HKK.out; have h3 := HKK.out; rw [opFs_flat]; omega))
      refine hK.out _ _ (show Below w.heap.size W8.drew w1 from Below.mono l1 HT0.out.size) ?_
      clear hlen hpa l1 hsub
      clear hK K
      try (simp only [Act.put]; try simp only [List.setIfInBounds_toArray]; try simp only [List.set_cons_zero, List.set_cons_succ])
      refine wpAnyR_only (i := 4) rfl (by kernel_rfl) (by rfl) fun K hK => ?_
      go_simp
      refine C.out.mono ?_
      rintro e w2 ⟨A2, n2, c2, rfl, ho2, hh2, hnc2, hb2⟩
      have K2 := hide (show Later w1 w2 from hb2)
      have HT2 := hide (HT1.out.trans (show Below w.heap.size w1 w2 from Below.mono hb2 HT1.out.size))
      have HO2 := hide ho2
      have HS2 := hide hh2.2.1
      have HN2 := hide hh2.1
      refine hK.out _ _ (show Below w.heap.size w1 w2 from Below.mono hb2 HT1.out.size) ?_
      clear ho2 hh2 hb2 C
      clear hK K
      try (simp only [Act.put]; try simp only [List.setIfInBounds_toArray]; try simp only [List.set_cons_zero, List.set_cons_succ])
      refine wpAnyR_take (pre_below w.heap.size) (i := 5) (d := some 20) (v := ?vaw5) rfl rfl (by kernel_rfl) (by kernel_rfl) (by kernel_rfl) (fun _ _ _ h => h) (by rfl) ?yaw5 ?_
      case yaw5 => (intro w' hw'; go_simp; try (with_reducible rfl))
      simp only [Act.put]; try simp only [List.setIfInBounds_toArray]; try simp only [List.set_cons_zero, List.set_cons_succ]
      refine wpAnyR_only (i := 6) rfl (by kernel_rfl) (by rfl) fun K hK => ?_
      go_simp
      have HT3 : Hid (Below w.heap.size w (w2.alloc (.cells #[.int .i64 num, .bool true, .int .u64 0, .slice A2 n2 c2] 140 (0, 0)))) := HT2.out.alloc HT2.out.size _
      have O3 := hide (own_below_any HO.out (((HW8.out.trans (Later.drew W8)).trans (K1.out.trans K2.out)).trans (Later.alloc w2 (.cells #[.int .i64 num, .bool true, .int .u64 0, .slice A2 n2 c2] 140 (0, 0)))))
      have F3 := hide (flat_one w2 140 4 #[.int .i64 num, .bool true, .int .u64 0, .slice A2 n2 c2] rfl (by intro u hu; simp at hu; rcases hu with rfl | rfl | rfl | rfl <;> rfl) (fun _ => True) trivial)
      refine hK.out _ _ (show Below w.heap.size w2 (w2.alloc (.cells #[.int .i64 num, .bool true, .int .u64 0, .slice A2 n2 c2] 140 (0, 0))) from (Below.refl _ _).alloc HT2.out.size _) ?_
      clear hK K
      try (simp only [Act.put]; try simp only [List.setIfInBounds_toArray]; try simp only [List.set_cons_zero, List.set_cons_succ])
      refine wpAnyR_only (i := 7) rfl (by kernel_rfl) (by rfl) fun K hK => ?_
      refine wp_append_flat _ _ 106 (by rfl) w.heap.size 140 i0 _ 4 48 Tryz.underlying106 hi hz0 hz1 hz2 rfl (by omega) _ q (fcells fds) (by rfl) O3.out w2.heap.size 1 1 [.int .i64 num, .bool true, .int .u64 0, .slice A2 n2 c2] (by rfl) _ F3.out (by omega) (by unfold maxLen; omega) (by omega) HT3.out.size ?_
      intro v4 w4 o4 g4 _
      have O4 := hide o4
      have G4 := hide g4
      have hb4 : Below w.heap.size (w2.alloc (.cells #[.int .i64 num, .bool true, .int .u64 0, .slice A2 n2 c2] 140 (0, 0))) w4 := (Below.refl _ _).grown g4 HT3.out.size fun g hg => (O3.out.lt g hg).1
      have HT4 := hide (HT3.out.trans hb4)
      refine hK.out _ _ hb4 (?_ : wpAnyR _ _ _ _ _ _ _ (Act.put _ (some 22) _) _)
      clear o4 g4 hb4
      clear hK K
      try (simp only [Act.put]; try simp only [List.setIfInBounds_toArray]; try simp only [List.set_cons_zero, List.set_cons_succ])
      refine wpAnyR_take (pre_below w.heap.size) (i := 8) (d := some 4) (v := ?vaw8) rfl rfl (by kernel_rfl) (by kernel_rfl) (by kernel_rfl) (fun _ _ _ h => h) (by rfl) ?yaw8 ?_
      case yaw8 => (intro w' hw'; go_simp; try (with_reducible rfl))
      simp only [Act.put]; try simp only [List.setIfInBounds_toArray]; try simp only [List.set_cons_zero, List.set_cons_succ]
      refine wpAnyR_done (by kernel_rfl) ?_ _
      go_wp2
      go_roundw
      case rel =>
        have hpf9 : Fd.pf ⟨num, true, 0, A2, n2, c2, opB s⟩ = prow num (opB s) := rfl
        refine ⟨q + 1, fds ++ [⟨num, true, 0, A2, n2, c2, opB s⟩], by omega, by go_num, ?_, ?_, ?_, ?_⟩
        · rw [fcells_snoc]
          exact O4.out
        · intro f hf
          rcases List.mem_append.1 hf with hf | hf
          · exact (((HK.out f hf).below (HW8.out.trans (Later.drew W8))).below ((K1.out.trans K2.out).trans (Later.alloc _ _))).kept O3.out G4.out (by decide)
          · obtain rfl : f = _ := by simpa using hf
            exact (((FdOwn.at_ (base := 0) (f := ⟨num, true, 0, A2, n2, c2, opB s⟩) ⟨HN.out, by simp, HS2.out, own_base HO2.out (Nat.zero_le _)⟩)).below (Later.alloc _ _)).kept O3.out G4.out (by decide)
        · rw [List.map_append, HF.out, List.take_add_one, HSK.out]
          simp only [Option.toList_some, List.map_append, List.map_cons, List.map_nil, hpf9]
        · exact HT4.out
      case measure => simp [intOf]; omega
    · obtain rfl : q = m := by omega
      obtain ⟨A', c1, hv, h1, h2⟩ := FHolds.of_own (by rw [show q = fds.length from by have h3 := HF.out; have h4 := congrArg List.length h3; simp only [List.length_map, List.length_take] at h4; have := HM.out; omega] at HO; exact HO.out) fun f hf => (HK.out f hf).ok
      subst hv
      have H2 := hide h2
      have hall : fds.map Fd.pf = l.map (fun s => prow num (opB s)) := by rw [HF.out, List.take_of_length_le (by have := HM.out; omega)]
      have HALL := hide hall
      clear h2 hall
      go_wp2
      go_ret
      exact ⟨A', _, c1, fds, rfl, H2.out, HK.out, HALL.out, h1, HL.out⟩

set_option maxHeartbeats 8000000 in
set_option maxRecDepth 100000 in
theorem recsOr_any {S : Type} {Inv : (Nat → Prop) → S → World → Prop} {sz : S → Nat} {push : S → OpD → S} {P : Nat → Prop} {s : S} {w : World} {bf bl g o : Nat} {f : Fd} (hI : InvOK Inv) (hpl : RowPl Inv sz 26 10 OpE g o push)
    (h1 : w.heap[bf]? = some (.cells #[.func (.func 36) #[] #[]] 69 (0, 0))) (h2 : w.heap[bl]? = some (.cells #[.pointer (some ⟨g, o, none⟩)] 122 (0, 0))) (hbl : ¬ P bl) (hinv : Inv P s w) (hP2 : ∀ k, w.heap.size ≤ k → P k) (hf : f.ok w w.heap.size) (hsz : sz s + 1 + f.n ≤ 1000000) :
    Calls Tryz.prog 108 #[f.val, .pointer (some ⟨bf, 0, none⟩), .pointer (some ⟨bl, 0, none⟩)] w fun e w' => e = .returned (.tuple #[]) ∧ Inv P (push s (opR f.pf.2.2.2)) w' ∧ Turned P w w' := by
  obtain ⟨i0, hi, hz0, hz1, hz2⟩ := info_parts Tryz.infoElO
  obtain ⟨fnum, ftext, fv, fa, fn, fc, fb⟩ := f
  simp only at hsz
  obtain ⟨hPg, hgw, v, n, xs, hcell, hfro, hown, hns, hob, hset⟩ := hpl P s w hinv hP2
  have HFN : Hid (fn ≤ 1000000) := by show _ ≤ _; omega
  have HFC : Hid (fn ≤ fc) := hf.2.2.1
  have HFH : Hid (Holds w w.heap.size fa fn fb) := hf.2.2.2
  have HSZ := hide hsz
  have HNS := hide hns
  have HI := hide hI
  have HPG := hide hPg
  have HGW := hide hgw
  have HOWN := hide hown
  have HOW := hide hob
  have HOL : Hid (∀ q, v.ownBlock = some q → q < w.heap.size) := fun q h => (own_lt hown h).1
  have HSET := hide hset
  have HC0 := hide hcell
  have HF0 := hide hfro
  have HP2 := hide hP2
  have HBF : Hid (bf < w.heap.size) := lt_of_block h1
  have HBL : Hid (bl < w.heap.size) := lt_of_block h2
  have HNB : Hid (v.ownBlock ≠ some bl) := fun e => hbl (hob bl e).1
  obtain ⟨W9, hW9⟩ : ∃ W, W = ((w.alloc (.cells #[.int .i64 fnum, .bool ftext, .int .u64 fv, .slice fa fn fc] 140 (0, 0))).alloc (.cells #[.int .i64 0, .int .i64 0, .int .i64 0, .string ⟨#[]⟩, .slice none 0 0, .int .i64 0, .int .i64 0, .int .i64 0, .bool false, .bool false] 26 (0, 0))) := ⟨_, rfl⟩
  have hL9 : Later w W9 := by rw [hW9]; exact (Later.alloc _ _).trans (Later.alloc _ _)
  have HZW : Hid (W9.heap.size = w.heap.size + 2) := by show _ = _; rw [hW9, World.size_alloc, World.size_alloc]
  have HX0 : Hid (W9.heap[w.heap.size]? = some (.cells #[.int .i64 fnum, .bool ftext, .int .u64 fv, .slice fa fn fc] 140 (0, 0))) := by show _ = _; rw [hW9]; exact (Below.block (Later.alloc _ _) _ (by rw [World.size_alloc]; omega)).trans (heap_alloc_new w _)
  have HX9 : Hid (W9.heap[w.heap.size + 1]? = some (.cells #[.int .i64 0, .int .i64 0, .int .i64 0, .string ⟨#[]⟩, .slice none 0 0, .int .i64 0, .int .i64 0, .int .i64 0, .bool false, .bool false] 26 (0, 0))) := by show _ = _; rw [hW9]; have h := heap_alloc_new (w.alloc (.cells #[.int .i64 fnum, .bool ftext, .int .u64 fv, .slice fa fn fc] 140 (0, 0))) (.cells #[.int .i64 0, .int .i64 0, .int .i64 0, .string ⟨#[]⟩, .slice none 0 0, .int .i64 0, .int .i64 0, .int .i64 0, .bool false, .bool false] 26 (0, 0)); rwa [World.size_alloc] at h
  have HX1 : Hid (W9.heap[bf]? = some (.cells #[.func (.func 36) #[] #[]] 69 (0, 0))) := (Below.block hL9 bf (lt_of_block h1)).trans h1
  have HB4 : Hid (W9.heap[bl]? = some (.cells #[.pointer (some ⟨g, o, none⟩)] 122 (0, 0))) := (Below.block hL9 bl (lt_of_block h2)).trans h2
  have HLL := hide hL9
  have HG0 : Hid (Below (w.heap.size + 1) W9 W9.drew) := (Below.refl _ _).drew
  have HZ9 : Hid (w.heap.size + 1 < W9.drew.heap.size) := by show _ < W9.heap.size; have := HZW.out; omega
  have HV0 : Hid (∀ w', Later W9 w' → ∀ P' : Nat → Prop, P' (w.heap.size + 1) → InvOp (w.heap.size + 1) P' OpD.zero w') := fun w' hl P' hp => invop_zero hp ((Below.block hl _ (by have := HZW.out; omega)).trans HX9.out)
  clear hI hpl h1 h2 hbl hinv hP2 hf hsz hPg hgw hcell hfro hown hns hob hset hL9
  simp only [Fd.val, Fd.cells, Fd.pf]
  go_enter Tryz.func108, Tryz.ntmps108
  go_wp2
  rw [← hW9]
  clear hW9
  refine wp_region_R (R := fun a c => Below (w.heap.size + 1) a c) (by kernel_rfl) ?_
  refine wpAnyR_take (pre_below (w.heap.size + 1)) (i := 0) (d := some 5) (v := ?vap0) rfl rfl (by kernel_rfl) (by kernel_rfl) (by kernel_rfl) (fun _ _ _ h => h) (by rfl) ?yap0 ?_
  case yap0 => (intro w' hw'; go_simp; try (with_reducible rfl))
  simp only [Act.put]; try simp only [List.setIfInBounds_toArray]; try simp only [List.set_cons_zero, List.set_cons_succ]
  refine wpAnyR_take (pre_below (w.heap.size + 1)) (i := 1) (d := some 6) (v := .slice fa fn fc) rfl rfl (by kernel_rfl) (by kernel_rfl) (by kernel_rfl) (fun _ _ _ h => h) (by rfl) ?yap1 ?_
  case yap1 => (intro w' hw'; have hx1 := cell_of_row w' w.heap.size 3 _ _ _ (((HG0.out.trans hw').block w.heap.size (by omega)).trans HX0.out); go_simp; try (with_reducible rfl))
  simp only [Act.put]; try simp only [List.setIfInBounds_toArray]; try simp only [List.set_cons_zero, List.set_cons_succ]
  refine wpAnyR_take (pre_below (w.heap.size + 1)) (i := 2) (d := some 7) (v := .func (.func 36) #[] #[]) rfl rfl (by kernel_rfl) (by kernel_rfl) (by kernel_rfl) (fun _ _ _ h => h) (by rfl) ?yap2 ?_
  case yap2 => (intro w' hw'; have hx2 := cell_of_row w' bf 0 _ _ _ (((HG0.out.trans hw').block bf (by have := HBF.out; omega)).trans HX1.out); go_simp; try (with_reducible rfl))
  simp only [Act.put]; try simp only [List.setIfInBounds_toArray]; try simp only [List.set_cons_zero, List.set_cons_succ]
  refine wpAnyR_only (i := 3) rfl (by kernel_rfl) (by rfl) fun K hK => ?_
  go_simp
  refine (opParts_any (w := W9.drew) (g := w.heap.size + 1) (o := 0) HZ9.out).mono ?_
  rintro e w1 ⟨A1, ps, rfl, hlen, hpa, l1, hsub⟩
  have K1 := hide l1
  have hz0 : W9.drew.heap.size = w.heap.size + 2 := HZW.out
  have hz1 := Below.size l1
  have C := hide (nread_any (P := fun k => k = w.heap.size + 1 ∨ w1.heap.size ≤ k) (A := fa) (n := fn) (c := fc) (l := fb) (s := OpD.zero) (invop_ok (w.heap.size + 1)) hpa hlen.symm (Stay.refl (Nat.le_refl _)) (hsub.2 _ _ opSz (Lens.id OpD) (invop_ok (w.heap.size + 1)) (invop_pl (w.heap.size + 1))) (lift_nodup _ opPs_own) (op_grow (invop_pl (w.heap.size + 1))) (fun k h1 h2 h => by rcases h with h | h <;> omega) (fun k h => Or.inr h) (HV0.out w1 (by have h := l1; exact (Later.drew W9).trans h) (fun k => k = w.heap.size + 1 ∨ w1.heap.size ≤ k) (Or.inl rfl)) (((HFH.out.below HLL.out).more (Below.size HLL.out)).later ((Later.drew W9).trans l1)) HFN.out HFC.out (by simp only [opSz, OpD.zero, List.length_nil]; have := HFN.out; omega))
  refine hK.out _ _ (show Below (w.heap.size + 1) W9.drew w1 from Below.mono l1 (by omega)) ?_
  clear hlen hpa l1 hsub hz0 hz1
  clear hK K
  try (simp only [Act.put]; try simp only [List.setIfInBounds_toArray]; try simp only [List.set_cons_zero, List.set_cons_succ])
  refine wpAnyR_only (i := 4) rfl (by kernel_rfl) (by rfl) fun K hK => ?_
  go_simp
  refine C.out.mono ?_
  rintro e w2 ⟨rfl, hv2, ht2⟩
  have hb2 : Below (w.heap.size + 1) w1 w2 := ht2.below (fun k h => by have := HZW.out; have h3 := Below.size K1.out; have h4 : W9.drew.heap.size = W9.heap.size := rfl; rcases h with h | h <;> omega) (by have := HZW.out; have h3 := Below.size K1.out; have h4 : W9.drew.heap.size = W9.heap.size := rfl; omega)
  have HV2 := hide hv2
  have HB2 := hide hb2
  refine hK.out _ _ hb2 ?_
  clear hv2 ht2 hb2 C
  clear hK K
  try (simp only [Act.put]; try simp only [List.setIfInBounds_toArray]; try simp only [List.set_cons_zero, List.set_cons_succ])
  refine wpAnyR_done (by kernel_rfl) ?_ _
  go_wp2
  have hBB : Below (w.heap.size + 1) W9 w2 := ((HG0.out.trans (show Below (w.heap.size + 1) W9.drew w1 from Below.mono K1.out (by have := HZW.out; show w.heap.size + 1 ≤ W9.heap.size; omega))).trans HB2.out)
  have hLW : Later w w2 := Below.trans HLL.out (Below.mono hBB (by omega))
  have hs2 : w.heap.size + 2 ≤ w2.heap.size := by have h1 := hBB.size; have h2 := HZW.out; omega
  have hv2 : InvOp (w.heap.size + 1) (fun k => k = w.heap.size + 1 ∨ w1.heap.size ≤ k) (opR fb) w2 := by
    have h := HV2.out
    rw [Lens.rdB] at h
    exact h
  obtain ⟨_, hnum, sv, hx6, hos⟩ := hv2
  obtain ⟨sA, sc, rfl⟩ := own_shape hos.1
  obtain ⟨YC, hYC⟩ : ∃ c, c = (opR fb).cells (.slice sA (opR fb).steps.length sc) := ⟨_, rfl⟩
  rw [← hYC] at hx6
  have HX6 := hide hx6
  have HYL : Hid (YC.length = 10) := by show _ = _; rw [hYC]; rfl
  have HY1 : Hid (∀ u ∈ YC, u.oneCell' = true) := by show ∀ u ∈ YC, _; rw [hYC]; exact (opR fb).one rfl
  have HYC := hide hYC
  have HNUM := hide hnum
  have HWF := hide hos.2.2
  have HSL : Hid (OwnSteps (w.heap.size ≤ ·) w2 (.slice sA (opR fb).steps.length sc) (opR fb).steps) := hos.mono fun q _ h => by
    have h1 := HZW.out
    have h3 := Below.size K1.out
    have h4 : W9.drew.heap.size = W9.heap.size := rfl
    rcases h with h | h <;> omega
  clear hx6 hYC hnum hos
  have HT2 : Hid (w.heap.size + 1 < w2.heap.size) := by show _ < _; omega
  have HLW2 : Hid (w.heap.size ≤ w2.heap.size) := by show _ ≤ _; omega
  have HLW := hide hLW
  have HX4 : Hid (w2.heap[bl]? = some (.cells #[.pointer (some ⟨g, o, none⟩)] 122 (0, 0))) := (hBB.block bl (by have := HBL.out; omega)).trans HB4.out
  have HC5 : Hid (w2.cell? ⟨g, o, none⟩ = some v) := (Below.cell hLW (p := ⟨g, o, none⟩) HGW.out).trans HC0.out
  have HF5 : Hid (w2.frozen? ⟨g, o, none⟩ = false) := (Below.frozen hLW (p := ⟨g, o, none⟩) HGW.out).trans HF0.out
  have HO2 : Hid (w2.ownsRow 0 26 10 v n xs) := own_blk HOWN.out fun q e => Below.block hLW q (HOL.out q e)
  have HG4 : Hid (∀ w', w2.drew.grownBy w' v.ownBlock → w2.grownBy w' v.ownBlock) := fun w' h => (show w2.grownBy w2.drew v.ownBlock from ⟨rfl, rfl, rfl, Nat.le_refl _, fun _ _ _ => rfl⟩).trans h
  clear hLW hBB hs2 HV2 HB2
  refine wp_region_V (fun a c => a.grownBy c v.ownBlock) (fun j => j == 8) (by kernel_rfl) ?_
  refine wpAnyV_take (pre_grown v.ownBlock) (i := 0) (d := some 10) (v := .pointer (some ⟨g, o, none⟩)) rfl rfl (by kernel_rfl) (by kernel_rfl) (by kernel_rfl) (by kernel_rfl) (by kernel_rfl) (fun _ _ _ h => h) (by rfl) ?yaq0 ?_
  case yaq0 => (intro w' hw'; have hx4 : w'.cell? ⟨bl, 0, none⟩ = some (.pointer (some ⟨g, o, none⟩)) := cell_of_row w' bl 0 _ _ _ (((HG4.out w' hw').block bl (by have := HBL.out; have := HLW2.out; omega) (fun e => HNB.out e.symm)).trans HX4.out); go_simp; try (with_reducible rfl))
  simp only [Act.put]; try simp only [List.setIfInBounds_toArray]; try simp only [List.set_cons_zero, List.set_cons_succ]
  refine wpAnyV_take (pre_grown v.ownBlock) (i := 1) (d := some 11) (v := .pointer (some ⟨g, o, none⟩)) rfl rfl (by kernel_rfl) (by kernel_rfl) (by kernel_rfl) (by kernel_rfl) (by kernel_rfl) (fun _ _ _ h => h) (by rfl) ?yaq1 ?_
  case yaq1 => (intro w' hw'; have hx4 : w'.cell? ⟨bl, 0, none⟩ = some (.pointer (some ⟨g, o, none⟩)) := cell_of_row w' bl 0 _ _ _ (((HG4.out w' hw').block bl (by have := HBL.out; have := HLW2.out; omega) (fun e => HNB.out e.symm)).trans HX4.out); go_simp; try (with_reducible rfl))
  simp only [Act.put]; try simp only [List.setIfInBounds_toArray]; try simp only [List.set_cons_zero, List.set_cons_succ]
  refine wpAnyV_take (pre_grown v.ownBlock) (i := 2) (d := some 12) (v := ?vaq2) rfl rfl (by kernel_rfl) (by kernel_rfl) (by kernel_rfl) (by kernel_rfl) (by kernel_rfl) (fun _ _ _ h => h) (by rfl) ?yaq2 ?_
  case yaq2 => (intro w' hw'; go_simp; try (with_reducible rfl))
  simp only [Act.put]; try simp only [List.setIfInBounds_toArray]; try simp only [List.set_cons_zero, List.set_cons_succ]
  refine wpAnyV_take (pre_grown v.ownBlock) (i := 3) (d := some 13) (v := v) rfl rfl (by kernel_rfl) (by kernel_rfl) (by kernel_rfl) (by kernel_rfl) (by kernel_rfl) (fun _ _ _ h => h) (by rfl) ?yaq3 ?_
  case yaq3 => (intro w' hw'; have hx5 : w'.cell? ⟨g, o, none⟩ = some v := (World.cell?_of_block ((HG4.out w' hw').block g (by have := HGW.out; have := HLW2.out; omega) (fun e => (HOW.out g e.symm).2 rfl))).trans HC5.out; go_simp; try (with_reducible rfl))
  simp only [Act.put]; try simp only [List.setIfInBounds_toArray]; try simp only [List.set_cons_zero, List.set_cons_succ]
  refine wpAnyV_take (pre_grown v.ownBlock) (i := 4) (d := some 14) (v := .agg YC.toArray) rfl rfl (by kernel_rfl) (by kernel_rfl) (by kernel_rfl) (by kernel_rfl) (by kernel_rfl) (fun _ _ _ h => h) (by rfl) ?yaq4 ?_
  case yaq4 => (intro w' hw'; exact exec_load_box 26 _ (by rfl) (w.heap.size + 1) 0 (by rfl) 26 YC.toArray (((HG4.out w' hw').block (w.heap.size + 1) HT2.out (fun e => by have := HOL.out _ e.symm; omega)).trans HX6.out) 10 _ Tryz.underlying26 (by rfl) (by kernel_rfl) YC (by simp [List.take_of_length_le (Nat.le_of_eq HYL.out)]) HYL.out)
  simp only [Act.put]; try simp only [List.setIfInBounds_toArray]; try simp only [List.set_cons_zero, List.set_cons_succ]
  refine wpAnyV_only (pre_grown v.ownBlock) (i := 5) rfl (by kernel_rfl) (by rfl) fun K hK => ?_
  refine wp_buildSlice_one 32 26 _ (by rfl) i0 _ 10 Tryz.underlying32 hi hz0 hz1 (by omega) (by omega) YC.toArray (by rfl) (by simp [HYL.out]) ?_
  have F3 := hide (flat_one w2.drew 26 10 YC.toArray (by simp [HYL.out]) (by simpa using HY1.out) (fun _ => True) trivial)
  have O3 := hide (own_below_any HO2.out ((Later.drew w2).trans (Later.alloc w2.drew (.cells YC.toArray 26 (0, 0)))))
  refine hK.out _ _ (World.grownBy_alloc _ _ _) (?_ : wpAnyV _ _ _ _ _ _ _ _ (Act.put _ (some 15) _) _)
  clear hK K
  try (simp only [Act.put]; try simp only [List.setIfInBounds_toArray]; try simp only [List.set_cons_zero, List.set_cons_succ])
  refine wpAnyV_only (pre_grown v.ownBlock) (i := 6) rfl (by kernel_rfl) (by rfl) fun K hK => ?_
  refine wp_append_flat _ _ 32 (by rfl) 0 26 i0 _ 10 96 Tryz.underlying32 hi hz0 hz1 hz2 (by rfl) (by omega) v n xs (by rfl) O3.out w2.heap.size 1 1 YC (by rfl) _ F3.out (by omega) (by have := HNS.out; have := HSZ.out; unfold maxLen; omega) (by have := HNS.out; have := HSZ.out; omega) (Nat.zero_le _) ?_
  intro v4 w4 o4 g4 a4
  have O4 := hide o4
  have G4 := hide g4
  have A4 := hide a4
  refine hK.out _ _ g4 (?_ : wpAnyV _ _ _ _ _ _ _ _ (Act.put _ (some 16) _) _)
  clear o4 g4 a4
  clear hK K
  try (simp only [Act.put]; try simp only [List.setIfInBounds_toArray]; try simp only [List.set_cons_zero, List.set_cons_succ])
  refine wpAnyV_take (pre_grown v.ownBlock) (i := 7) (d := some 17) (v := ?vaq7) rfl rfl (by kernel_rfl) (by kernel_rfl) (by kernel_rfl) (by kernel_rfl) (by kernel_rfl) (fun _ _ _ h => h) (by rfl) ?yaq7 ?_
  case yaq7 => (intro w' hw'; go_simp; try (with_reducible rfl))
  simp only [Act.put]; try simp only [List.setIfInBounds_toArray]; try simp only [List.set_cons_zero, List.set_cons_succ]
  refine wpAnyV_write (i := 8) rfl rfl (by kernel_rfl) (by rfl) fun K hK => ?_
  have hG4 : w2.grownBy w4 v.ownBlock := (HG4.out w4 (((World.grownBy.refl _ _).trans (World.grownBy_alloc _ _ _)).trans G4.out))
  have hc8 : w4.cell? ⟨g, o, none⟩ = some v := (World.cell?_of_block (hG4.block g (by have := HGW.out; have := HLW2.out; omega) (fun e => (HOW.out g e.symm).2 rfl))).trans HC5.out
  have hf8 : w4.frozen? ⟨g, o, none⟩ = false := (frozen_blk (hG4.block g (by have := HGW.out; have := HLW2.out; omega) (fun e => (HOW.out g e.symm).2 rfl))).trans HF5.out
  obtain ⟨A9, c9, hv9⟩ := own_shape O4.out
  subst hv9
  go_simp
  refine hK.out _ _ ?_
  clear hc8 hf8
  clear hK K
  try simp only [Act.put]
  refine wpAnyV_done (by kernel_rfl) ?_ _
  go_wp2
  go_end0
  have hl4 : Later w (w2.drew.alloc (.cells YC.toArray 26 (0, 0))) := HLW.out.trans ((Later.drew w2).trans (Later.alloc _ _))
  refine ⟨rfl, HSET.out _ w4 _ (opR fb) YC hl4 G4.out O4.out A4.out ?_, ?_⟩
  · refine ⟨_, HYC.out, ⟨HNUM.out.1, HNUM.out.2.1, HNUM.out.2.2.1, Nat.le_trans HNUM.out.2.2.2.1 (by omega), HWF.out, HNUM.out.2.2.2.2⟩, ?_⟩
    exact HSL.out.keep (((Kept.of_below (Later.drew w2) _).trans (Kept.of_below (Later.alloc w2.drew _) _)).trans (Kept.of_grown G4.out fun q e h => by have := HOL.out q e; omega))
  · exact ((Turned.of_below hl4 P).trans (Turned.of_grown G4.out fun q e => (HOW.out q e).1)).trans (Turned.of_grown (grown_cell _ g o _) fun q e => by obtain rfl := Option.some.inj e; exact HPG.out)

/-- What the part of such a list is. -/
def RecsOIs (num : Int) (g o : Nat) (w : World) (e : Ending) (w' : World) : Prop :=
  ∃ p : PartV, e = .returned (.agg p.cells.toArray) ∧ p.num = num ∧ Later w w' ∧
    (∀ (St : World → Prop) (l : List OpD) (k : Nat), (∀ s ∈ l, s.sm k) → k ≤ 5000 → l.length ≤ 100000 → (∀ w, St w → ∃ v F, w.cell? ⟨g, o, none⟩ = some v ∧ OpsAt F w v l) → WrOK w.heap.size w'.heap.size w' St p (l.map fun s => prow num (opB s))) ∧
    (∀ (S : Type) (Inv : (Nat → Prop) → S → World → Prop) (sz : S → Nat) (push : S → OpD → S), InvOK Inv → RowPl Inv sz 26 10 OpE g o push → RdOK w.heap.size w'.heap.size w' Inv sz p fun s f => push s (opR f.2.2.2))
set_option maxHeartbeats 2000000 in
set_option maxRecDepth 100000 in
theorem enters_recsO : Enters 107 ∧ Enters 108 := ⟨fun args w => by go_simp, fun args w => by go_simp⟩
set_option maxHeartbeats 2000000 in
set_option maxRecDepth 100000 in
theorem recsO_any {w : World} {num : Int} {g o : Nat} (hn : I64 num) (_hg : g < w.heap.size) : Calls Tryz.prog 71 #[.int .i64 num, .pointer (some ⟨g, o, none⟩), .func (.func 36) #[] #[]] w (RecsOIs num g o w) := by
  have HN := hide hn
  clear hn
  go_enter Tryz.func71, Tryz.ntmps71
  go_wp2
  obtain ⟨x1, x2, x3, x4, hz⟩ := heap_fours w (.cells #[.int .i64 num] 3 (0, 0)) (.cells #[.pointer (some ⟨g, o, none⟩)] 122 (0, 0)) (.cells #[.func (.func 36) #[] #[]] 69 (0, 0)) (.cells #[.int .i64 num, .func (.func 107) #[] #[.pointer (some ⟨w.heap.size + 1, 0, none⟩), .pointer (some ⟨w.heap.size, 0, none⟩), .pointer (some ⟨w.heap.size + 1 + 1, 0, none⟩)], .func (.func 108) #[] #[.pointer (some ⟨w.heap.size + 1 + 1, 0, none⟩), .pointer (some ⟨w.heap.size + 1, 0, none⟩)]] 110 (0, 0))
  refine bodyPost_ret (results_cell_row Tryz.results71 _ _ (w.heap.size + 1 + 1 + 1) 110 _ (0, 0) _ (by rfl) x4 Tryz.underlying110 (by rfl) (by kernel_rfl)) (by rfl) ?_
  have hl : Later w ((((w.alloc (.cells #[.int .i64 num] 3 (0, 0))).alloc (.cells #[.pointer (some ⟨g, o, none⟩)] 122 (0, 0))).alloc (.cells #[.func (.func 36) #[] #[]] 69 (0, 0))).alloc (.cells #[.int .i64 num, .func (.func 107) #[] #[.pointer (some ⟨w.heap.size + 1, 0, none⟩), .pointer (some ⟨w.heap.size, 0, none⟩), .pointer (some ⟨w.heap.size + 1 + 1, 0, none⟩)], .func (.func 108) #[] #[.pointer (some ⟨w.heap.size + 1 + 1, 0, none⟩), .pointer (some ⟨w.heap.size + 1, 0, none⟩)]] 110 (0, 0))) := (((Later.alloc w _).trans (Later.alloc _ _)).trans (Later.alloc _ _)).trans (Later.alloc _ _)
  refine ⟨⟨num, 107, #[.pointer (some ⟨w.heap.size + 1, 0, none⟩), .pointer (some ⟨w.heap.size, 0, none⟩), .pointer (some ⟨w.heap.size + 1 + 1, 0, none⟩)], 108, #[.pointer (some ⟨w.heap.size + 1 + 1, 0, none⟩), .pointer (some ⟨w.heap.size + 1, 0, none⟩)]⟩, rfl, rfl, hl, ?_, ?_⟩
  · intro St l k hsm hk hlen hcell
    refine ⟨enters_recsO.1, fun wx hs hst => ?_⟩
    obtain ⟨v, F, hv, hlv⟩ := hcell wx hst
    obtain ⟨ps9, hps, hin⟩ := hlv
    obtain ⟨A, c, rfl, _⟩ := FlatAt.shape hin.1
    have hpl : ps9.length = l.length := by rw [← hps, List.length_map]
    exact recsOw_any ((hs.2 _ (by omega) (by omega)).trans x2) ((hs.2 _ (by omega) (by omega)).trans x1) ((hs.2 _ (by omega) (by omega)).trans x3) hv hin hps rfl hpl hsm hk (by omega) HN.out
  · intro S Inv sz push hI hpl
    refine ⟨enters_recsO.2, fun P s wx f hs hP hP2 hinv hf hsz => ?_⟩
    exact recsOr_any hI hpl ((hs.2 _ (by omega) (by omega)).trans x3) ((hs.2 _ (by omega) (by omega)).trans x2) (hP _ (by omega) (by omega)) hinv hP2 hf hsz
end Go.Proofs.YtehiaeihkdfclaaGreatDoor
/- The parts of lists of numbers: how they are written, how they are read. -/
namespace Go.Proofs.YtehiaeihkdfclaaGreatDoor
open Go.RowKit

set_option maxHeartbeats 8000000 in
set_option maxRecDepth 100000 in
theorem numsw_any {w : World} {bl bq g o m c : Nat} {A : Option Addr} {num : Int} {F : Nat → Prop} {l : List Int} (h1 : w.heap[bl]? = some (.cells #[.pointer (some ⟨g, o, none⟩)] 124 (0, 0))) (h2 : w.heap[bq]? = some (.cells #[.int .i64 num] 3 (0, 0)))
    (hc : w.cell? ⟨g, o, none⟩ = some (.slice A m c)) (hl : IncsAt F w (.slice A m c) l) (hm : m = l.length) (hx : ∀ x ∈ l, I64 x) (hml : m ≤ 5000) (hn : I64 num) :
    Calls Tryz.prog 109 #[.pointer (some ⟨bl, 0, none⟩), .pointer (some ⟨bq, 0, none⟩)] w (FieldsIs (l.map fun x => pint num x) w) := by
  obtain ⟨i0, hi, hz0, hz1, hz2⟩ := info_parts Tryz.infoFd9
  have hx1 := cell_of_row w bl 0 _ _ _ h1
  simp only [List.getElem?_toArray, List.getElem?_cons_zero] at hx1
  have HB2 : Hid (∀ w', Below w.heap.size w w' → w'.cell? ⟨bq, 0, none⟩ = some (.int .i64 num)) := fun w' h => cell_of_row w' bq 0 _ _ _ ((h.block bq (lt_of_block h2)).trans h2)
  have HLL := hide hl
  have HM := hide hm
  have HXX := hide hx
  have HN := hide hn
  clear h1 h2 hl hm hx hn
  go_enter Tryz.func109, Tryz.ntmps109
  go_wp2
  clear hc hx1
  go_loopw [3, 10] (fun lv i wr => ∃ (q : Nat) (fds : List Fd), q ≤ m ∧ i = .int .i64 (q : Int) ∧ wr.ownsRow w.heap.size 140 4 lv q (fcells fds) ∧ (∀ f ∈ fds, FdAt wr f) ∧ fds.map Fd.pf = (l.take q).map (fun x => pint num x) ∧ Later w wr) (fun _ i _ => m - (intOf i).toNat)
  case atStart => exact ⟨0, [], by omega, rfl, by simpa [fcells] using World.ownsRow_nil _ _ _ _, by simp, by simp, Later.refl _⟩
  case round =>
    obtain ⟨q, fds, hq, rfl, hown, hoks, hpf, hlat⟩ := hrel
    have HO := hide hown
    have HK := hide hoks
    have HF := hide hpf
    have HL := hide hlat
    have HSZW : Hid (w.heap.size ≤ wr.drew.heap.size) := (Below.size hlat : w.heap.size ≤ wr.heap.size)
    clear hown hoks hpf hlat
    by_cases hlt : q < m
    · obtain ⟨x, b, off, c', hsk, hv, _, _, hbw, hr⟩ := IncsAt.at_ (HLL.out.kept (Kept.of_below HL.out F)) (i := q) (by rw [← HM.out]; exact hlt)
      obtain ⟨rfl, rfl⟩ : A = some ⟨b, off, none⟩ ∧ c = c' := by injection hv with e1 _ e3; exact ⟨e1, e3⟩
      have HSK := hide hsk
      have HX := hide (HXX.out x (List.mem_of_getElem? hsk))
      clear hsk hv
      go_wp2
      refine wp_region_R (R := fun a c => Below w.heap.size a c) (by kernel_rfl) ?_
      refine wpAnyR_take (pre_below w.heap.size) (i := 0) (d := some 14) (v := ?vaw0) rfl rfl (by kernel_rfl) (by kernel_rfl) (by kernel_rfl) (fun _ _ _ h => h) (by rfl) ?yaw0 ?_
      case yaw0 => (intro w' hw'; go_simp; try (with_reducible rfl))
      simp only [Act.put]; try simp only [List.setIfInBounds_toArray]; try simp only [List.set_cons_zero, List.set_cons_succ]
      refine wpAnyR_take (pre_below w.heap.size) (i := 1) (d := some 15) (v := .int .i64 num) rfl rfl (by kernel_rfl) (by kernel_rfl) (by kernel_rfl) (fun _ _ _ h => h) (by rfl) ?yaw1 ?_
      case yaw1 => (intro w' hw'; have hx2 := HB2.out w' ((show Below w.heap.size w wr.drew from HL.out.trans (Later.drew wr)).trans hw'); go_simp; try (with_reducible rfl))
      simp only [Act.put]; try simp only [List.setIfInBounds_toArray]; try simp only [List.set_cons_zero, List.set_cons_succ]
      refine wpAnyR_take (pre_below w.heap.size) (i := 2) (d := some 16) (v := ?vaw2) rfl rfl (by kernel_rfl) (by kernel_rfl) (by kernel_rfl) (fun _ _ _ h => h) (by rfl) ?yaw2 ?_
      case yaw2 => (intro w' hw'; go_simp; try (with_reducible rfl))
      simp only [Act.put]; try simp only [List.setIfInBounds_toArray]; try simp only [List.set_cons_zero, List.set_cons_succ]
      refine wpAnyR_only (i := 3) rfl (by kernel_rfl) (by rfl) fun K hK => ?_
      go_simp
      refine (zig_any x _ HX.out.1 HX.out.2).mono ?_
      rintro e w3 ⟨rfl, rfl⟩
      refine hK.out _ _ (Below.refl _ _) ?_
      clear hK K
      try (simp only [Act.put]; try simp only [List.setIfInBounds_toArray]; try simp only [List.set_cons_zero, List.set_cons_succ])
      refine wpAnyR_take (pre_below w.heap.size) (i := 4) (d := some 18) (v := ?vaw4) rfl rfl (by kernel_rfl) (by kernel_rfl) (by kernel_rfl) (fun _ _ _ h => h) (by rfl) ?yaw4 ?_
      case yaw4 => (intro w' hw'; go_simp; try (with_reducible rfl))
      simp only [Act.put]; try simp only [List.setIfInBounds_toArray]; try simp only [List.set_cons_zero, List.set_cons_succ]
      refine wpAnyR_only (i := 5) rfl (by kernel_rfl) (by rfl) fun K hK => ?_
      go_simp
      have HT3 : Hid (Below w.heap.size w (wr.drew.alloc (.cells #[.int .i64 num, .bool false, .int .u64 (zig x : Nat), .slice none 0 0] 140 (0, 0)))) := (show Below w.heap.size w wr.drew from HL.out.trans (Later.drew wr)).alloc HSZW.out _
      have O3 := hide (own_below_any HO.out ((Later.drew wr).trans (Later.alloc wr.drew (.cells #[.int .i64 num, .bool false, .int .u64 (zig x : Nat), .slice none 0 0] 140 (0, 0)))))
      have F3 := hide (flat_one wr.drew 140 4 #[.int .i64 num, .bool false, .int .u64 (zig x : Nat), .slice none 0 0] rfl (by intro u hu; simp at hu; rcases hu with rfl | rfl | rfl | rfl <;> rfl) (fun _ => True) trivial)
      refine hK.out _ _ (show Below w.heap.size wr.drew (wr.drew.alloc (.cells #[.int .i64 num, .bool false, .int .u64 (zig x : Nat), .slice none 0 0] 140 (0, 0))) from (Below.refl _ _).alloc HSZW.out _) ?_
      clear hK K
      try (simp only [Act.put]; try simp only [List.setIfInBounds_toArray]; try simp only [List.set_cons_zero, List.set_cons_succ])
      refine wpAnyR_only (i := 6) rfl (by kernel_rfl) (by rfl) fun K hK => ?_
      refine wp_append_flat _ _ 106 (by rfl) w.heap.size 140 i0 _ 4 48 Tryz.underlying106 hi hz0 hz1 hz2 rfl (by omega) _ q (fcells fds) (by rfl) O3.out wr.drew.heap.size 1 1 [.int .i64 num, .bool false, .int .u64 (zig x : Nat), .slice none 0 0] (by rfl) _ F3.out (by omega) (by unfold maxLen; omega) (by omega) HT3.out.size ?_
      intro v4 w4 o4 g4 _
      have O4 := hide o4
      have G4 := hide g4
      have hb4 : Below w.heap.size (wr.drew.alloc (.cells #[.int .i64 num, .bool false, .int .u64 (zig x : Nat), .slice none 0 0] 140 (0, 0))) w4 := (Below.refl _ _).grown g4 HT3.out.size fun g hg => (O3.out.lt g hg).1
      have HT4 := hide (HT3.out.trans hb4)
      refine hK.out _ _ hb4 (?_ : wpAnyR _ _ _ _ _ _ _ (Act.put _ (some 20) _) _)
      clear o4 g4 hb4
      clear hK K
      try (simp only [Act.put]; try simp only [List.setIfInBounds_toArray]; try simp only [List.set_cons_zero, List.set_cons_succ])
      refine wpAnyR_take (pre_below w.heap.size) (i := 7) (d := some 3) (v := ?vaw7) rfl rfl (by kernel_rfl) (by kernel_rfl) (by kernel_rfl) (fun _ _ _ h => h) (by rfl) ?yaw7 ?_
      case yaw7 => (intro w' hw'; go_simp; try (with_reducible rfl))
      simp only [Act.put]; try simp only [List.setIfInBounds_toArray]; try simp only [List.set_cons_zero, List.set_cons_succ]
      refine wpAnyR_done (by kernel_rfl) ?_ _
      go_wp2
      go_roundw
      case rel =>
        have hpf9 : Fd.pf ⟨num, false, zig x, none, 0, 0, []⟩ = pint num x := rfl
        refine ⟨q + 1, fds ++ [⟨num, false, zig x, none, 0, 0, []⟩], by omega, by go_num, ?_, ?_, ?_, ?_⟩
        · rw [fcells_snoc]
          exact O4.out
        · intro f hf
          rcases List.mem_append.1 hf with hf | hf
          · exact ((HK.out f hf).below ((Later.drew wr).trans (Later.alloc _ _))).kept O3.out G4.out (by decide)
          · obtain rfl : f = _ := by simpa using hf
            exact FdAt.plain HN.out (zig_lt x HX.out.1 HX.out.2)
        · rw [List.map_append, HF.out, List.take_add_one, HSK.out]
          simp only [Option.toList_some, List.map_append, List.map_cons, List.map_nil, hpf9]
        · exact HT4.out
      case measure => simp [intOf]; omega
    · obtain rfl : q = m := by omega
      obtain ⟨A', c1, hv, h1, h2⟩ := FHolds.of_own (by rw [show q = fds.length from by have h3 := HF.out; have h4 := congrArg List.length h3; simp only [List.length_map, List.length_take] at h4; have := HM.out; omega] at HO; exact HO.out) fun f hf => (HK.out f hf).ok
      subst hv
      have H2 := hide h2
      have hall : fds.map Fd.pf = l.map (fun x => pint num x) := by rw [HF.out, List.take_of_length_le (by have := HM.out; omega)]
      have HALL := hide hall
      clear h2 hall
      go_wp2
      go_ret
      exact ⟨A', _, c1, fds, rfl, H2.out, HK.out, HALL.out, h1, HL.out⟩

theorem Tryz.infoElI : (Tryz.prog.info? 3).map (fun i => (i.zero, i.size, i.bytes)) = some (some (.int .i64 0), 1, 8) := by kernel_rfl
set_option maxHeartbeats 8000000 in
set_option maxRecDepth 100000 in
theorem numsr_any {S : Type} {Inv : (Nat → Prop) → S → World → Prop} {sz : S → Nat} {push : S → Int → S} {P : Nat → Prop} {s : S} {w : World} {bl g o : Nat} {f : Fd} (hpl : RowPl Inv sz 3 1 IntE g o push)
    (h2 : w.heap[bl]? = some (.cells #[.pointer (some ⟨g, o, none⟩)] 124 (0, 0))) (hbl : ¬ P bl) (hinv : Inv P s w) (hP2 : ∀ k, w.heap.size ≤ k → P k) (hf : f.ok w w.heap.size) (hsz : sz s + 1 + f.n ≤ 1000000) :
    Calls Tryz.prog 110 #[f.val, .pointer (some ⟨bl, 0, none⟩)] w fun e w' => e = .returned (.tuple #[]) ∧ Inv P (push s (zag f.pf.2.2.1)) w' ∧ Turned P w w' := by
  obtain ⟨i0, hi, hz0, hz1, hz2⟩ := info_parts Tryz.infoElI
  obtain ⟨fnum, ftext, fv, fa, fn, fc, fb⟩ := f
  simp only at hsz
  obtain ⟨hPg, hgw, v, n, xs, hcell, hfro, hown, hns, hob, hset⟩ := hpl P s w hinv hP2
  have HFV : Hid (fv < 18446744073709551616) := hf.2.1
  have HSZ := hide hsz
  have HNS := hide hns
  have HPG := hide hPg
  have HGW := hide hgw
  have HOW := hide hob
  have HOL : Hid (∀ q, v.ownBlock = some q → q < w.heap.size) := fun q h => (own_lt hown h).1
  have HSET := hide hset
  have HBL : Hid (bl < w.heap.size) := lt_of_block h2
  have HNB : Hid (v.ownBlock ≠ some bl) := fun e => hbl (hob bl e).1
  obtain ⟨W9, hW9⟩ : ∃ W, W = w.alloc (.cells #[.int .i64 fnum, .bool ftext, .int .u64 fv, .slice fa fn fc] 140 (0, 0)) := ⟨_, rfl⟩
  have hL9 : Later w W9 := by rw [hW9]; exact Later.alloc _ _
  have HZW : Hid (W9.heap.size = w.heap.size + 1) := by show _ = _; rw [hW9, World.size_alloc]
  have HX0 : Hid (W9.heap[w.heap.size]? = some (.cells #[.int .i64 fnum, .bool ftext, .int .u64 fv, .slice fa fn fc] 140 (0, 0))) := by show _ = _; rw [hW9]; exact heap_alloc_new w _
  have HX4 : Hid (W9.heap[bl]? = some (.cells #[.pointer (some ⟨g, o, none⟩)] 124 (0, 0))) := (Below.block hL9 bl (lt_of_block h2)).trans h2
  have HC5 : Hid (W9.cell? ⟨g, o, none⟩ = some v) := (Below.cell hL9 (p := ⟨g, o, none⟩) hgw).trans hcell
  have HF5 : Hid (W9.frozen? ⟨g, o, none⟩ = false) := (Below.frozen hL9 (p := ⟨g, o, none⟩) hgw).trans hfro
  have HO2 : Hid (W9.ownsRow 0 3 1 v n xs) := own_blk hown fun q e => Below.block hL9 q (own_lt hown e).1
  have HG4 : Hid (∀ w', W9.drew.grownBy w' v.ownBlock → W9.grownBy w' v.ownBlock) := fun w' h => (show W9.grownBy W9.drew v.ownBlock from ⟨rfl, rfl, rfl, Nat.le_refl _, fun _ _ _ => rfl⟩).trans h
  have HLL := hide hL9
  clear hpl h2 hbl hinv hP2 hf hsz hPg hgw hcell hfro hown hns hob hset hL9
  simp only [Fd.val, Fd.cells, Fd.pf]
  go_enter Tryz.func110, Tryz.ntmps110
  go_wp2
  rw [← hW9]
  clear hW9
  refine wp_region_V (fun a c => a.grownBy c v.ownBlock) (fun j => j == 10) (by kernel_rfl) ?_
  refine wpAnyV_take (pre_grown v.ownBlock) (i := 0) (d := some 3) (v := .pointer (some ⟨g, o, none⟩)) rfl rfl (by kernel_rfl) (by kernel_rfl) (by kernel_rfl) (by kernel_rfl) (by kernel_rfl) (fun _ _ _ h => h) (by rfl) ?yaq0 ?_
  case yaq0 => (intro w' hw'; have hx4 : w'.cell? ⟨bl, 0, none⟩ = some (.pointer (some ⟨g, o, none⟩)) := cell_of_row w' bl 0 _ _ _ (((HG4.out w' hw').block bl (by have := HBL.out; have := HZW.out; omega) (fun e => HNB.out e.symm)).trans HX4.out); go_simp; try (with_reducible rfl))
  simp only [Act.put]; try simp only [List.setIfInBounds_toArray]; try simp only [List.set_cons_zero, List.set_cons_succ]
  refine wpAnyV_take (pre_grown v.ownBlock) (i := 1) (d := some 4) (v := .pointer (some ⟨g, o, none⟩)) rfl rfl (by kernel_rfl) (by kernel_rfl) (by kernel_rfl) (by kernel_rfl) (by kernel_rfl) (fun _ _ _ h => h) (by rfl) ?yaq1 ?_
  case yaq1 => (intro w' hw'; have hx4 : w'.cell? ⟨bl, 0, none⟩ = some (.pointer (some ⟨g, o, none⟩)) := cell_of_row w' bl 0 _ _ _ (((HG4.out w' hw').block bl (by have := HBL.out; have := HZW.out; omega) (fun e => HNB.out e.symm)).trans HX4.out); go_simp; try (with_reducible rfl))
  simp only [Act.put]; try simp only [List.setIfInBounds_toArray]; try simp only [List.set_cons_zero, List.set_cons_succ]
  refine wpAnyV_take (pre_grown v.ownBlock) (i := 2) (d := some 5) (v := ?vaq2) rfl rfl (by kernel_rfl) (by kernel_rfl) (by kernel_rfl) (by kernel_rfl) (by kernel_rfl) (fun _ _ _ h => h) (by rfl) ?yaq2 ?_
  case yaq2 => (intro w' hw'; go_simp; try (with_reducible rfl))
  simp only [Act.put]; try simp only [List.setIfInBounds_toArray]; try simp only [List.set_cons_zero, List.set_cons_succ]
  refine wpAnyV_take (pre_grown v.ownBlock) (i := 3) (d := some 6) (v := v) rfl rfl (by kernel_rfl) (by kernel_rfl) (by kernel_rfl) (by kernel_rfl) (by kernel_rfl) (fun _ _ _ h => h) (by rfl) ?yaq3 ?_
  case yaq3 => (intro w' hw'; have hx5 : w'.cell? ⟨g, o, none⟩ = some v := (World.cell?_of_block ((HG4.out w' hw').block g (by have := HGW.out; have := HZW.out; omega) (fun e => (HOW.out g e.symm).2 rfl))).trans HC5.out; go_simp; try (with_reducible rfl))
  simp only [Act.put]; try simp only [List.setIfInBounds_toArray]; try simp only [List.set_cons_zero, List.set_cons_succ]
  refine wpAnyV_take (pre_grown v.ownBlock) (i := 4) (d := some 7) (v := ?vaq4) rfl rfl (by kernel_rfl) (by kernel_rfl) (by kernel_rfl) (by kernel_rfl) (by kernel_rfl) (fun _ _ _ h => h) (by rfl) ?yaq4 ?_
  case yaq4 => (intro w' hw'; go_simp; try (with_reducible rfl))
  simp only [Act.put]; try simp only [List.setIfInBounds_toArray]; try simp only [List.set_cons_zero, List.set_cons_succ]
  refine wpAnyV_take (pre_grown v.ownBlock) (i := 5) (d := some 8) (v := .int .u64 (fv : Nat)) rfl rfl (by kernel_rfl) (by kernel_rfl) (by kernel_rfl) (by kernel_rfl) (by kernel_rfl) (fun _ _ _ h => h) (by rfl) ?yaq5 ?_
  case yaq5 => (intro w' hw'; have hx6 : w'.cell? ⟨w.heap.size, 2, none⟩ = some (.int .u64 (fv : Nat)) := cell_of_row w' w.heap.size 2 _ _ _ (((HG4.out w' hw').block w.heap.size (by have := HZW.out; omega) (fun e => by have := HOL.out _ e.symm; omega)).trans HX0.out); go_simp; try (with_reducible rfl))
  simp only [Act.put]; try simp only [List.setIfInBounds_toArray]; try simp only [List.set_cons_zero, List.set_cons_succ]
  refine wpAnyV_only (pre_grown v.ownBlock) (i := 6) rfl (by kernel_rfl) (by rfl) fun K hK => ?_
  go_simp
  refine (zag_any fv _ HFV.out).mono ?_
  rintro e w3 ⟨rfl, rfl⟩
  refine hK.out _ _ (World.grownBy.refl _ _) ?_
  clear hK K
  try (simp only [Act.put]; try simp only [List.setIfInBounds_toArray]; try simp only [List.set_cons_zero, List.set_cons_succ])
  refine wpAnyV_only (pre_grown v.ownBlock) (i := 7) rfl (by kernel_rfl) (by rfl) fun K hK => ?_
  go_simp
  have F3 := hide (flat_one W9.drew 3 1 #[.int .i64 (zag fv)] rfl (by intro u hu; simp at hu; rcases hu with rfl; rfl) (fun _ => True) trivial)
  have O3 := hide (own_below_any HO2.out ((Later.drew W9).trans (Later.alloc W9.drew (.cells #[.int .i64 (zag fv)] 3 (0, 0)))))
  refine hK.out _ _ (World.grownBy_alloc _ _ _) ?_
  clear hK K
  try (simp only [Act.put]; try simp only [List.setIfInBounds_toArray]; try simp only [List.set_cons_zero, List.set_cons_succ])
  refine wpAnyV_only (pre_grown v.ownBlock) (i := 8) rfl (by kernel_rfl) (by rfl) fun K hK => ?_
  refine wp_append_flat _ _ 33 (by rfl) 0 3 i0 _ 1 8 Tryz.underlying33 hi hz0 hz1 hz2 (by rfl) (by omega) v n xs (by rfl) O3.out W9.drew.heap.size 1 1 [.int .i64 (zag fv)] (by rfl) _ F3.out (by omega) (by have := HNS.out; have := HSZ.out; unfold maxLen; omega) (by have := HNS.out; have := HSZ.out; omega) (Nat.zero_le _) ?_
  intro v4 w4 o4 g4 a4
  have O4 := hide o4
  have G4 := hide g4
  have A4 := hide a4
  refine hK.out _ _ g4 (?_ : wpAnyV _ _ _ _ _ _ _ _ (Act.put _ (some 11) _) _)
  clear o4 g4 a4
  clear hK K
  try (simp only [Act.put]; try simp only [List.setIfInBounds_toArray]; try simp only [List.set_cons_zero, List.set_cons_succ])
  refine wpAnyV_take (pre_grown v.ownBlock) (i := 9) (d := some 12) (v := ?vaq9) rfl rfl (by kernel_rfl) (by kernel_rfl) (by kernel_rfl) (by kernel_rfl) (by kernel_rfl) (fun _ _ _ h => h) (by rfl) ?yaq9 ?_
  case yaq9 => (intro w' hw'; go_simp; try (with_reducible rfl))
  simp only [Act.put]; try simp only [List.setIfInBounds_toArray]; try simp only [List.set_cons_zero, List.set_cons_succ]
  refine wpAnyV_write (i := 10) rfl rfl (by kernel_rfl) (by rfl) fun K hK => ?_
  have hG4 : W9.grownBy w4 v.ownBlock := (HG4.out w4 ((World.grownBy_alloc _ _ _).trans G4.out))
  have hc8 : w4.cell? ⟨g, o, none⟩ = some v := (World.cell?_of_block (hG4.block g (by have := HGW.out; have := HZW.out; omega) (fun e => (HOW.out g e.symm).2 rfl))).trans HC5.out
  have hf8 : w4.frozen? ⟨g, o, none⟩ = false := (frozen_blk (hG4.block g (by have := HGW.out; have := HZW.out; omega) (fun e => (HOW.out g e.symm).2 rfl))).trans HF5.out
  obtain ⟨A9, c9, hv9⟩ := own_shape O4.out
  subst hv9
  go_simp
  refine hK.out _ _ ?_
  clear hc8 hf8
  clear hK K
  try simp only [Act.put]
  refine wpAnyV_done (by kernel_rfl) ?_ _
  go_wp2
  go_end0
  have hl4 : Later w (W9.drew.alloc (.cells #[.int .i64 (zag fv)] 3 (0, 0))) := HLL.out.trans ((Later.drew W9).trans (Later.alloc _ _))
  refine ⟨rfl, HSET.out _ w4 _ (zag fv) [.int .i64 (zag fv)] hl4 G4.out O4.out A4.out ⟨rfl, zag_lt fv HFV.out⟩, ?_⟩
  exact ((Turned.of_below hl4 P).trans (Turned.of_grown G4.out fun q e => (HOW.out q e).1)).trans (Turned.of_grown (grown_cell _ g o _) fun q e => by obtain rfl := Option.some.inj e; exact HPG.out)

/-- What the part of such a list is. -/
def NumsIs (num : Int) (g o : Nat) (w : World) (e : Ending) (w' : World) : Prop :=
  ∃ p : PartV, e = .returned (.agg p.cells.toArray) ∧ p.num = num ∧ Later w w' ∧
    (∀ (St : World → Prop) (l : List Int), (∀ x ∈ l, I64 x) → l.length ≤ 5000 → (∀ w, St w → ∃ v F, w.cell? ⟨g, o, none⟩ = some v ∧ IncsAt F w v l) → WrOK w.heap.size w'.heap.size w' St p (l.map fun x => pint num x)) ∧
    (∀ (S : Type) (Inv : (Nat → Prop) → S → World → Prop) (sz : S → Nat) (push : S → Int → S), InvOK Inv → RowPl Inv sz 3 1 IntE g o push → RdOK w.heap.size w'.heap.size w' Inv sz p fun s f => push s (zag f.2.2.1))
set_option maxHeartbeats 2000000 in
set_option maxRecDepth 100000 in
theorem enters_nums : Enters 109 ∧ Enters 110 := ⟨fun args w => by go_simp, fun args w => by go_simp⟩
set_option maxHeartbeats 2000000 in
set_option maxRecDepth 100000 in
theorem numbers_any {w : World} {num : Int} {g o : Nat} (hn : I64 num) (_hg : g < w.heap.size) : Calls Tryz.prog 72 #[.int .i64 num, .pointer (some ⟨g, o, none⟩)] w (NumsIs num g o w) := by
  have HN := hide hn
  clear hn
  go_enter Tryz.func72, Tryz.ntmps72
  go_wp2
  have h3 := heap_third w (.cells #[.int .i64 num] 3 (0, 0)) (.cells #[.pointer (some ⟨g, o, none⟩)] 124 (0, 0)) (.cells #[.int .i64 num, .func (.func 109) #[] #[.pointer (some ⟨w.heap.size + 1, 0, none⟩), .pointer (some ⟨w.heap.size, 0, none⟩)], .func (.func 110) #[] #[.pointer (some ⟨w.heap.size + 1, 0, none⟩)]] 110 (0, 0))
  refine bodyPost_ret (results_cell_row Tryz.results72 _ _ (w.heap.size + 1 + 1) 110 _ (0, 0) _ (by rfl) h3 Tryz.underlying110 (by rfl) (by kernel_rfl)) (by rfl) ?_
  have hl : Later w (((w.alloc (.cells #[.int .i64 num] 3 (0, 0))).alloc (.cells #[.pointer (some ⟨g, o, none⟩)] 124 (0, 0))).alloc (.cells #[.int .i64 num, .func (.func 109) #[] #[.pointer (some ⟨w.heap.size + 1, 0, none⟩), .pointer (some ⟨w.heap.size, 0, none⟩)], .func (.func 110) #[] #[.pointer (some ⟨w.heap.size + 1, 0, none⟩)]] 110 (0, 0))) := ((Later.alloc w _).trans (Later.alloc _ _)).trans (Later.alloc _ _)
  obtain ⟨x1, x2, hz⟩ := heap_firsts w (.cells #[.int .i64 num] 3 (0, 0)) (.cells #[.pointer (some ⟨g, o, none⟩)] 124 (0, 0)) (.cells #[.int .i64 num, .func (.func 109) #[] #[.pointer (some ⟨w.heap.size + 1, 0, none⟩), .pointer (some ⟨w.heap.size, 0, none⟩)], .func (.func 110) #[] #[.pointer (some ⟨w.heap.size + 1, 0, none⟩)]] 110 (0, 0))
  refine ⟨⟨num, 109, #[.pointer (some ⟨w.heap.size + 1, 0, none⟩), .pointer (some ⟨w.heap.size, 0, none⟩)], 110, #[.pointer (some ⟨w.heap.size + 1, 0, none⟩)]⟩, rfl, rfl, hl, ?_, ?_⟩
  · intro St l hx hlen hcell
    refine ⟨enters_nums.1, fun wx hs hst => ?_⟩
    obtain ⟨v, F, hv, hlv⟩ := hcell wx hst
    obtain ⟨A, c, rfl, _⟩ := FlatAt.shape hlv
    exact numsw_any ((hs.2 _ (by omega) (by omega)).trans x2) ((hs.2 _ (by omega) (by omega)).trans x1) hv hlv rfl hx hlen HN.out
  · intro S Inv sz push hI hpl
    refine ⟨enters_nums.2, fun P s wx f hs hP hP2 hinv hf hsz => ?_⟩
    exact numsr_any hpl ((hs.2 _ (by omega) (by omega)).trans x2) (hP _ (by omega) (by omega)) hinv hP2 hf hsz
end Go.Proofs.YtehiaeihkdfclaaGreatDoor
/- Where the parts of a message lie; its fields, part by part. -/
namespace Go.Proofs.YtehiaeihkdfclaaGreatDoor
open Go.RowKit
/-- Its numbers fit. -/
structure MsgD.nums (m : MsgD) : Prop where
  kind : I64 m.kind
  src : I64 m.src
  dst : I64 m.dst
  view : I64 m.view
  last : I64 m.last
  num : I64 m.num
  commit : I64 m.commit
  nonce : I64 m.nonce
  request : I64 m.request
  rerr : I64 m.rerr
  rsaga : I64 m.rsaga
  rstate : I64 m.rstate
  rstep : I64 m.rstep
  cview : I64 m.cview
  cstub : I64 m.cstub
  csaga : I64 m.csaga
  cstep : I64 m.cstep
  ctry : I64 m.ctry
  incs : ∀ x ∈ m.incs, I64 x
structure MsgD.sm (k : Nat) (m : MsgD) : Prop where
  nums : m.nums
  op : m.op.sm k
  ops : ∀ o ∈ m.ops, o.sm k
  nops : m.ops.length ≤ 100000
  nincs : m.incs.length ≤ k
def replyFs (m : MsgD) : List (List PF) := [pnum 1 m.rerr, pnum 2 m.rsaga, pnum 3 m.rstate, pnum 4 m.rstep]
theorem replyFs_flat (m : MsgD) : (replyFs m).flatten = replyF m := rfl
def cmdFs (m : MsgD) : List (List PF) := [pnum 1 m.cview, pnum 2 m.cstub, pnum 3 m.csaga, pnum 4 m.cstep, pnum 5 m.ctry, pflag 6 m.cback]
theorem cmdFs_flat (m : MsgD) : (cmdFs m).flatten = cmdF m := rfl
def msgFs (m : MsgD) : List (List PF) :=
  [pnum 1 m.kind, pnum 2 m.src, pnum 3 m.dst, pnum 4 m.view, pnum 5 m.last, pnum 6 m.num, pnum 7 m.commit, pnum 8 m.nonce, pnum 9 m.request, pflag 10 m.lead, pflag 11 m.good, pflag 12 m.fenced, ptext 13 (prec (opFs m.op).flatten), ptext 14 (prec (replyFs m).flatten), ptext 15 (prec (cmdFs m).flatten), m.ops.map fun o => prow 16 (opB o), m.incs.map fun x => pint 17 x]
theorem msgFs_flat (m : MsgD) : (msgFs m).flatten = msgF m := rfl
theorem reply_room (m : MsgD) : proom (replyFs m).flatten ≤ 80 := by
  have h1 := proom_num 1 m.rerr
  have h2 := proom_num 2 m.rsaga
  have h3 := proom_num 3 m.rstate
  have h4 := proom_num 4 m.rstep
  simp only [replyFs, List.flatten_cons, List.flatten_nil, proom_append]
  have : proom [] = 0 := rfl
  omega
theorem cmd_room (m : MsgD) : proom (cmdFs m).flatten ≤ 120 := by
  have h1 := proom_num 1 m.cview
  have h2 := proom_num 2 m.cstub
  have h3 := proom_num 3 m.csaga
  have h4 := proom_num 4 m.cstep
  have h5 := proom_num 5 m.ctry
  have h6 := proom_flag 6 m.cback
  simp only [cmdFs, List.flatten_cons, List.flatten_nil, proom_append]
  have : proom [] = 0 := rfl
  omega

/-- A message in memory, from the address g, o on. -/
def MsgIn (g o : Nat) (m : MsgD) (w : World) : Prop := ∃ sv ov iv F, w.rangeAt g o (m.cells sv ov iv) ∧ Lists F w m sv ov iv
theorem MsgIn.op {g o : Nat} {m : MsgD} {w : World} (h : MsgIn g o m w) : OpIn g (o + 12) m.op w := by
  obtain ⟨sv, ov, iv, F, h1, h2⟩ := h
  refine ⟨sv, F, fun j u hj => ?_, h2.1⟩
  have hl : j < 10 := by
    have := (List.getElem?_eq_some_iff.1 hj).1
    rwa [OpD.len] at this
  have e : m.cells sv ov iv = m.front ++ (m.op.cells sv ++ (m.middle ++ [ov, iv])) := rfl
  have hf : m.front.length = 12 := rfl
  have := h1 (12 + j) u (by rw [e, List.getElem?_append_right (by omega), hf, Nat.add_sub_cancel_left, List.getElem?_append_left (by rw [OpD.len]; exact hl)]; exact hj)
  rwa [← Nat.add_assoc] at this
/-- An object that is a message: its parts' places. -/
structure ReplyPl (Inv : (Nat → Prop) → MsgD → World → Prop) (g o : Nat) : Prop where
  rerr : NumPl Inv g o fun m x => { m with rerr := x }
  rsaga : NumPl Inv g (o + 1) fun m x => { m with rsaga := x }
  rstate : NumPl Inv g (o + 2) fun m x => { m with rstate := x }
  rstep : NumPl Inv g (o + 3) fun m x => { m with rstep := x }
structure CmdPl (Inv : (Nat → Prop) → MsgD → World → Prop) (g o : Nat) : Prop where
  cview : NumPl Inv g o fun m x => { m with cview := x }
  cstub : NumPl Inv g (o + 1) fun m x => { m with cstub := x }
  csaga : NumPl Inv g (o + 2) fun m x => { m with csaga := x }
  cstep : NumPl Inv g (o + 3) fun m x => { m with cstep := x }
  ctry : NumPl Inv g (o + 4) fun m x => { m with ctry := x }
  cback : FlagPl Inv g (o + 5) fun m x => { m with cback := x }
def msgSz (m : MsgD) : Nat := m.ops.length + m.incs.length + m.op.steps.length
structure MsgPl (Inv : (Nat → Prop) → MsgD → World → Prop) (g o : Nat) : Prop where
  kind : NumPl Inv g o fun m x => { m with kind := x }
  src : NumPl Inv g (o + 1) fun m x => { m with src := x }
  dst : NumPl Inv g (o + 2) fun m x => { m with dst := x }
  view : NumPl Inv g (o + 3) fun m x => { m with view := x }
  last : NumPl Inv g (o + 4) fun m x => { m with last := x }
  num : NumPl Inv g (o + 5) fun m x => { m with num := x }
  commit : NumPl Inv g (o + 6) fun m x => { m with commit := x }
  nonce : NumPl Inv g (o + 7) fun m x => { m with nonce := x }
  request : NumPl Inv g (o + 8) fun m x => { m with request := x }
  lead : FlagPl Inv g (o + 9) fun m x => { m with lead := x }
  good : FlagPl Inv g (o + 10) fun m x => { m with good := x }
  fenced : FlagPl Inv g (o + 11) fun m x => { m with fenced := x }
  op : OpPl Inv msgSz msgOp g (o + 12)
  reply : ReplyPl Inv g (o + 22)
  cmd : CmdPl Inv g (o + 26)
  ops : RowPl Inv msgSz 26 10 OpE g (o + 32) fun m y => { m with ops := m.ops ++ [y] }
  incs : RowPl Inv msgSz 3 1 IntE g (o + 33) fun m y => { m with incs := m.incs ++ [y] }

theorem replyPs_own : (replyPs.map (·.1)).Nodup := by decide
theorem cmdPs_own : (cmdPs.map (·.1)).Nodup := by decide
theorem msgPs_own : (msgPs.map (·.1)).Nodup := by decide
theorem reply_grow : ∀ q ∈ replyPs, ∀ (m : MsgD) (p : PF), msgSz (q.2 m p) ≤ msgSz m + 1 + p.2.2.2.length := by
  intro q hq m p
  simp only [replyPs, List.mem_cons, List.not_mem_nil, or_false] at hq
  rcases hq with rfl | rfl | rfl | rfl <;> simp only [msgSz] <;> omega
theorem cmd_grow : ∀ q ∈ cmdPs, ∀ (m : MsgD) (p : PF), msgSz (q.2 m p) ≤ msgSz m + 1 + p.2.2.2.length := by
  intro q hq m p
  simp only [cmdPs, List.mem_cons, List.not_mem_nil, or_false] at hq
  rcases hq with rfl | rfl | rfl | rfl | rfl | rfl <;> simp only [msgSz] <;> omega
theorem opPs_nums : (opPs.map (·.1)).Nodup := by decide
theorem msg_grow : ∀ q ∈ msgPs, ∀ (m : MsgD) (p : PF), msgSz (q.2 m p) ≤ msgSz m + 1 + p.2.2.2.length := by
  intro q hq m p
  simp only [msgPs, List.mem_cons, List.not_mem_nil, or_false] at hq
  rcases hq with rfl | rfl | rfl | rfl | rfl | rfl | rfl | rfl | rfl | rfl | rfl | rfl | rfl | rfl | rfl | rfl | rfl
  all_goals try (simp only [msgSz]; omega)
  · have h := rdB_grow (sz := fun x : OpD => x.steps.length) opPs_nums (fun q hq s p => by have := op_grow0 q hq s p; omega) p.2.2.2 m.op
    simp only [msgSz]
    omega
  · have h := rdB_grow (sz := msgSz) replyPs_own reply_grow p.2.2.2 m
    simp only
    omega
  · have h := rdB_grow (sz := msgSz) cmdPs_own cmd_grow p.2.2.2 m
    simp only
    omega
  · simp only [msgSz, List.length_append, List.length_cons, List.length_nil]
    omega
  · simp only [msgSz, List.length_append, List.length_cons, List.length_nil]
    omega
end Go.Proofs.YtehiaeihkdfclaaGreatDoor
/- CRC-32 as numbers: one step, a byte, a list; it is linear, and no step forgets. -/
namespace Go.Proofs.YtehiaeihkdfclaaGreatDoor

/-- One step of the sum: its lowest bit leaves. -/
def st (s : Nat) : Nat := if s % 2 = 1 then s / 2 ^^^ 3988292384 else s / 2
def st4 (s : Nat) : Nat := st (st (st (st s)))
def st8 (s : Nat) : Nat := st4 (st4 s)
def crc (s : Nat) (l : List Nat) : Nat := l.foldl (fun s x => st8 (s ^^^ x)) s
def sum (l : List Nat) : Nat := crc 4294967295 l ^^^ 4294967295

theorem st_bit (s i : Nat) : (st s).testBit i = (s.testBit (i + 1) ^^ (s.testBit 0 && Nat.testBit 3988292384 i)) := by
  have h0 : s.testBit 0 = decide (s % 2 = 1) := Nat.testBit_zero s
  unfold st
  by_cases h : s % 2 = 1
  · rw [if_pos h, Nat.testBit_xor, h0, Nat.testBit_succ]; simp [h]
  · rw [if_neg h, h0, Nat.testBit_succ]; simp [h]

theorem st_xor (a b : Nat) : st (a ^^^ b) = st a ^^^ st b := by
  apply Nat.eq_of_testBit_eq
  intro i
  simp only [st_bit, Nat.testBit_xor]
  cases a.testBit (i + 1) <;> cases b.testBit (i + 1) <;> cases a.testBit 0 <;> cases b.testBit 0 <;> cases Nat.testBit 3988292384 i <;> rfl
theorem st4_xor (a b : Nat) : st4 (a ^^^ b) = st4 a ^^^ st4 b := by simp only [st4, st_xor]
theorem st8_xor (a b : Nat) : st8 (a ^^^ b) = st8 a ^^^ st8 b := by simp only [st8, st4_xor]

theorem st_lt {s : Nat} (h : s < 4294967296) : st s < 4294967296 := by
  unfold st
  split
  · exact Nat.xor_lt_two_pow (n := 32) (by omega) (by omega)
  · omega
theorem st4_lt {s : Nat} (h : s < 4294967296) : st4 s < 4294967296 := st_lt (st_lt (st_lt (st_lt h)))
theorem st8_lt {s : Nat} (h : s < 4294967296) : st8 s < 4294967296 := st4_lt (st4_lt h)

theorem st_zero {s : Nat} (h : s < 4294967296) (hz : st s = 0) : s = 0 := by
  unfold st at hz
  split at hz
  · have : s / 2 = 3988292384 := by
      have e : s / 2 ^^^ 3988292384 ^^^ 3988292384 = 0 ^^^ 3988292384 := by rw [hz]
      rwa [Nat.xor_assoc, Nat.xor_self, Nat.xor_zero, Nat.zero_xor] at e
    omega
  · omega
theorem xor_zero_eq {a b : Nat} (h : a ^^^ b = 0) : a = b := by
  have e : a ^^^ b ^^^ b = 0 ^^^ b := by rw [h]
  rwa [Nat.xor_assoc, Nat.xor_self, Nat.xor_zero, Nat.zero_xor] at e
theorem st_inj {a b : Nat} (ha : a < 4294967296) (hb : b < 4294967296) (h : st a = st b) : a = b := by
  apply xor_zero_eq
  apply st_zero (Nat.xor_lt_two_pow (n := 32) ha hb)
  rw [st_xor, h, Nat.xor_self]
theorem st4_inj {a b : Nat} (ha : a < 4294967296) (hb : b < 4294967296) (h : st4 a = st4 b) : a = b :=
  st_inj ha hb (st_inj (st_lt ha) (st_lt hb) (st_inj (st_lt (st_lt ha)) (st_lt (st_lt hb)) (st_inj (st_lt (st_lt (st_lt ha))) (st_lt (st_lt (st_lt hb))) h)))
theorem st8_inj {a b : Nat} (ha : a < 4294967296) (hb : b < 4294967296) (h : st8 a = st8 b) : a = b := st4_inj ha hb (st4_inj (st4_lt ha) (st4_lt hb) h)

/-- A byte more, a sum below 2^32 still. -/
theorem step_lt {s x : Nat} (h : s < 4294967296) (hx : x < 256) : st8 (s ^^^ x) < 4294967296 := st8_lt (Nat.xor_lt_two_pow (n := 32) h (by omega))
theorem crc_lt : ∀ (l : List Nat) {s : Nat}, s < 4294967296 → (∀ x ∈ l, x < 256) → crc s l < 4294967296
  | [], _, h, _ => h
  | x :: l, _, h, hs => crc_lt l (step_lt h (hs x (by simp))) (fun y hy => hs y (by simp [hy]))
theorem sum_lt {l : List Nat} (hs : ∀ x ∈ l, x < 256) : sum l < 4294967296 := Nat.xor_lt_two_pow (n := 32) (crc_lt l (by omega) hs) (by omega)
theorem crc_append (a b : List Nat) (s : Nat) : crc s (a ++ b) = crc (crc s a) b := by simp [crc]
theorem crc_snoc (a : List Nat) (x s : Nat) : crc s (a ++ [x]) = st8 (crc s a ^^^ x) := by simp [crc]

/-- What goes in apart stays apart. -/
theorem crc_inj : ∀ (l : List Nat) {s t : Nat}, s < 4294967296 → t < 4294967296 → (∀ x ∈ l, x < 256) → crc s l = crc t l → s = t
  | [], _, _, _, _, _, h => h
  | x :: l, s, t, h1, h2, hs, h => by
    have hx : x < 256 := hs x (by simp)
    have e := crc_inj l (step_lt h1 hx) (step_lt h2 hx) (fun y hy => hs y (by simp [hy])) h
    have := st8_inj (Nat.xor_lt_two_pow (n := 32) h1 (by omega)) (Nat.xor_lt_two_pow (n := 32) h2 (by omega)) e
    have e2 : s ^^^ x ^^^ x = t ^^^ x ^^^ x := by rw [this]
    rwa [Nat.xor_assoc, Nat.xor_self, Nat.xor_zero, Nat.xor_assoc, Nat.xor_self, Nat.xor_zero] at e2

theorem sum_inj {a b : List Nat} (h : sum a = sum b) : crc 4294967295 a = crc 4294967295 b := by
  have e : sum a ^^^ 4294967295 = sum b ^^^ 4294967295 := by rw [h]
  unfold sum at e
  rwa [Nat.xor_assoc, Nat.xor_self, Nat.xor_zero, Nat.xor_assoc, Nat.xor_self, Nat.xor_zero] at e

theorem xor_cancel_left {s x y : Nat} (h : s ^^^ x = s ^^^ y) : x = y := by
  have e : s ^^^ (s ^^^ x) = s ^^^ (s ^^^ y) := by rw [h]
  rwa [← Nat.xor_assoc, Nat.xor_self, Nat.zero_xor, ← Nat.xor_assoc, Nat.xor_self, Nat.zero_xor] at e

/-- One byte turned is another sum. -/
theorem sum_turned (p q : List Nat) {x y : Nat} (hp : ∀ z ∈ p, z < 256) (hq : ∀ z ∈ q, z < 256) (hx : x < 256) (hy : y < 256) (hne : x ≠ y) : sum (p ++ x :: q) ≠ sum (p ++ y :: q) := by
  intro h
  have e := sum_inj h
  rw [crc_append, crc_append] at e
  have hs : crc 4294967295 p < 4294967296 := crc_lt p (by omega) hp
  have e2 := crc_inj q (step_lt hs hx) (step_lt hs hy) hq e
  exact hne (xor_cancel_left (st8_inj (Nat.xor_lt_two_pow (n := 32) hs (by omega)) (Nat.xor_lt_two_pow (n := 32) hs (by omega)) e2))

/-- The sum is linear. -/
theorem crc_zip : ∀ (a b : List Nat) (s t : Nat), a.length = b.length → crc (s ^^^ t) (List.zipWith (· ^^^ ·) a b) = crc s a ^^^ crc t b
  | [], [], _, _, _ => rfl
  | x :: a, y :: b, s, t, h => by
    have e : s ^^^ t ^^^ (x ^^^ y) = (s ^^^ x) ^^^ (t ^^^ y) := by
      apply Nat.eq_of_testBit_eq
      intro i
      simp only [Nat.testBit_xor]
      cases s.testBit i <;> cases t.testBit i <;> cases x.testBit i <;> cases y.testBit i <;> rfl
    show crc (st8 (s ^^^ t ^^^ (x ^^^ y))) (List.zipWith (· ^^^ ·) a b) = crc (st8 (s ^^^ x)) a ^^^ crc (st8 (t ^^^ y)) b
    rw [e, st8_xor]
    exact crc_zip a b _ _ (by simpa using h)
theorem zip_zero : ∀ (b : List Nat), List.zipWith (· ^^^ ·) b (List.replicate b.length 0) = b
  | [] => rfl
  | x :: b => by rw [List.length_cons, List.replicate_succ, List.zipWith_cons_cons, zip_zero b, Nat.xor_zero]
theorem sum_zip {a b : List Nat} (h : a.length = b.length) : sum (List.zipWith (· ^^^ ·) a b) = sum a ^^^ sum b ^^^ sum (List.replicate a.length 0) := by
  have e1 := crc_zip (List.zipWith (· ^^^ ·) a b) (List.replicate a.length 0) (4294967295 ^^^ 4294967295) 4294967295 (by simp [h])
  have e2 := crc_zip a b 4294967295 4294967295 h
  have e3 := zip_zero (List.zipWith (· ^^^ ·) a b)
  rw [show (List.zipWith (· ^^^ ·) a b).length = a.length by simp [h]] at e3
  rw [e3, Nat.xor_self, Nat.zero_xor] at e1
  rw [Nat.xor_self] at e2
  unfold sum
  rw [e1, e2]
  generalize crc 4294967295 a = p
  generalize crc 4294967295 b = q
  generalize crc 4294967295 (List.replicate a.length 0) = r
  apply Nat.eq_of_testBit_eq
  intro i
  simp only [Nat.testBit_xor]
  cases p.testBit i <;> cases q.testBit i <;> cases r.testBit i <;> cases Nat.testBit 4294967295 i <;> rfl

/-- Half a byte at a time: by a table. -/
def tab : List Nat := [0, 498536548, 997073096, 651767980, 1994146192, 1802195444, 1303535960, 1342533948, 3988292384, 4027552580, 3604390888, 3412177804, 2607071920, 2262029012, 2685067896, 3183342108]
theorem tab_is : ∀ n, n < 16 → tab.getD n 0 = st4 n := by decide
theorem tab_lt (n : Nat) (h : n < 16) : tab.getD n 0 < 4294967296 := by rw [tab_is n h]; exact st4_lt (by omega)
theorem st4_high (q : Nat) : st4 (16 * q) = q := by
  have h (k : Nat) : st (2 * k) = k := by unfold st; rw [if_neg (by omega)]; omega
  rw [show 16 * q = 2 * (2 * (2 * (2 * q))) by omega]
  simp only [st4, h]
theorem split16 (s : Nat) : s = 16 * (s / 16) ^^^ s % 16 := by
  have := Nat.two_pow_add_eq_or_of_lt (i := 4) (b := s % 16) (by omega) (s / 16)
  have e2 : s = 16 * (s / 16) + s % 16 := by omega
  apply Nat.eq_of_testBit_eq
  intro i
  rw [Nat.testBit_xor]
  by_cases hi : i < 4
  · have h1 : (16 * (s / 16)).testBit i = false := by rw [show 16 * (s / 16) = 2 ^ 4 * (s / 16) by omega, Nat.testBit_two_pow_mul]; simp; omega
    rw [h1, Bool.false_xor, show 16 = 2 ^ 4 by rfl, Nat.testBit_mod_two_pow]
    simp [hi]
  · have h1 : (s % 16).testBit i = false := Nat.testBit_lt_two_pow (Nat.lt_of_lt_of_le (Nat.mod_lt _ (by omega)) (by exact Nat.pow_le_pow_right (n := 2) (by omega) (show 4 ≤ i by omega)))
    rw [h1, Bool.xor_false, show 16 * (s / 16) = 2 ^ 4 * (s / 16) by omega, Nat.testBit_two_pow_mul, show s / 16 = s / 2 ^ 4 by rfl, Nat.testBit_div_two_pow]
    simp
    rw [show i - 4 + 4 = i by omega, decide_eq_true (show 4 ≤ i by omega), Bool.true_and]
theorem st4_half (s : Nat) : st4 s = s / 16 ^^^ tab.getD (s % 16) 0 := by
  have e := split16 s
  conv => lhs; rw [e, st4_xor, st4_high]
  rw [tab_is _ (by omega)]

/-- The four bytes of a number, the lowest first. -/
def four (s : Nat) : List Nat := [s % 256, s / 256 % 256, s / 65536 % 256, s / 16777216 % 256]
theorem four_len (s : Nat) : (four s).length = 4 := rfl
theorem four_small (s : Nat) : ∀ x ∈ four s, x < 256 := by
  intro x hx
  simp [four] at hx
  omega
theorem four_inj {s t : Nat} (hs : s < 4294967296) (ht : t < 4294967296) (h : four s = four t) : s = t := by
  simp [four] at h
  omega
end Go.Proofs.YtehiaeihkdfclaaGreatDoor
/- Envelopes as lists: seal, and what bytes begin with. -/
namespace Go.Proofs.YtehiaeihkdfclaaGreatDoor

def high (l : List Nat) : Bool := decide (l.length ≤ 9) && l.all fun x => decide (128 ≤ x)

/-- The count that bytes begin with: count, bytes, error. -/
def cnt (l : List Nat) : Nat × Nat × Nat :=
  if (num l 0 0).2.1 = 0 ∧ high l = true then (0, 0, 3) else if (num l 0 0).2.1 = 0 ∨ 65536 < (num l 0 0).1 then (0, 0, 4) else ((num l 0 0).1, (num l 0 0).2.1, 0)

/-- Where the content begins and ends, and the error. -/
def bnd (l : List Nat) : Nat × Nat × Nat :=
  if l.length = 0 then (0, 0, 3) else if l.getD 0 0 ≠ 3 then (0, 0, 5) else
    if (cnt (l.drop 1)).2.2 ≠ 0 then (0, 0, (cnt (l.drop 1)).2.2) else
      if l.length < 1 + (cnt (l.drop 1)).2.1 + ((cnt (l.drop 1)).1 + 4) then (0, 0, 3) else (1 + (cnt (l.drop 1)).2.1, 1 + (cnt (l.drop 1)).2.1 + (cnt (l.drop 1)).1, 0)

/-- The content, how many bytes, the error. -/
def opn (l : List Nat) : List Nat × Nat × Nat :=
  if (bnd l).2.2 ≠ 0 then ([], 0, (bnd l).2.2) else
    if (l.drop (bnd l).2.1).take 4 ≠ four (sum (l.take (bnd l).2.1)) then ([], 0, 6) else ((l.drop (bnd l).1).take ((bnd l).2.1 - (bnd l).1), (bnd l).2.1 + 4, 0)

def sealP (l : List Nat) : List Nat := 3 :: (enc l.length ++ l)
def sealed (l : List Nat) : List Nat := if l.length > 65536 then [] else sealP l ++ four (sum (sealP l))

theorem cnt_fits (l : List Nat) : (cnt l).1 ≤ 65536 ∧ (cnt l).2.1 ≤ l.length ∧ (cnt l).2.2 ≤ 4 := by
  have h := (num_bound l 0 0).1
  unfold cnt
  split
  · exact ⟨by simp, by simp, by simp⟩
  · split
    · exact ⟨by simp, by simp, by simp⟩
    · rename_i h2
      refine ⟨by simp; omega, by simp; omega, by simp⟩
theorem bnd_fits (l : List Nat) (h : (bnd l).2.2 = 0) : 1 ≤ (bnd l).1 ∧ (bnd l).1 ≤ (bnd l).2.1 ∧ (bnd l).2.1 + 4 ≤ l.length := by
  unfold bnd at h ⊢
  split at h
  · simp at h
  · rename_i h1
    rw [if_neg h1]
    split at h
    · simp at h
    · rename_i h2
      rw [if_neg h2]
      split at h
      · rename_i h3
        exact absurd h h3
      · rename_i h3
        rw [if_neg h3]
        split at h
        · simp at h
        · rename_i h4
          rw [if_neg h4]
          exact ⟨Nat.le_add_right _ _, Nat.le_add_right _ _, by show 1 + (cnt (l.drop 1)).2.1 + (cnt (l.drop 1)).1 + 4 ≤ l.length; omega⟩

theorem sealP_small {l : List Nat} (h : ∀ x ∈ l, x < 256) : ∀ x ∈ sealP l, x < 256 := by
  intro x hx
  simp only [sealP, List.mem_cons, List.mem_append] at hx
  rcases hx with rfl | hx | hx
  · decide
  · exact enc_small _ x hx
  · exact h x hx
theorem sealed_small {l : List Nat} (h : ∀ x ∈ l, x < 256) : ∀ x ∈ sealed l, x < 256 := by
  intro x hx
  unfold sealed at hx
  split at hx
  · simp at hx
  · rcases List.mem_append.1 hx with hx | hx
    · exact sealP_small h x hx
    · exact four_small _ x hx
theorem sealed_len {l : List Nat} (h : l.length ≤ 65536) : (sealed l).length = 1 + (enc l.length).length + l.length + 4 := by
  unfold sealed
  rw [if_neg (by omega), List.length_append, four_len]
  simp [sealP]
  omega

/-- All but the last byte of a number in groups are high. -/
theorem encF_high : ∀ (f v k : Nat), k < (encF f v).length → ∀ x ∈ (encF f v).take k, 128 ≤ x
  | 0, v, k, hk, x, hx => by
    simp [encF] at hk
    subst hk
    simp at hx
  | f + 1, v, k, hk, x, hx => by
    unfold encF at hk hx
    split at hk
    · rename_i h
      simp at hk
      subst hk
      simp at hx
    · rename_i h
      rw [if_neg h] at hx
      cases k with
      | zero => simp at hx
      | succ k =>
        simp only [List.take_succ_cons, List.mem_cons] at hx
        rcases hx with rfl | hx
        · omega
        · exact encF_high f _ k (by simpa using hk) x hx

theorem cnt_enc {v : Nat} (rest : List Nat) (h : v ≤ 65536) : cnt (enc v ++ rest) = (v, (enc v).length, 0) := by
  have e := num_enc rest v (by omega)
  have hl := (enc_len v).1
  unfold cnt
  rw [e]
  rw [if_neg (fun hh => by have := hh.1; simp only at this; omega), if_neg (fun hh => by simp only at hh; omega)]
theorem cnt_cut {v k : Nat} (h : v ≤ 65536) (hk : k < (enc v).length) : cnt ((enc v).take k) = (0, 0, 3) := by
  have e := num_enc_cut v k (by omega) hk
  have hl := (enc_len v).2
  unfold cnt
  rw [e]
  have hh : high ((enc v).take k) = true := by
    unfold high
    simp only [Bool.and_eq_true, decide_eq_true_eq, List.all_eq_true]
    exact ⟨by rw [List.length_take]; omega, fun x hx => encF_high 9 v k hk x hx⟩
  rw [if_pos ⟨rfl, hh⟩]

theorem sealed_is {l : List Nat} (h : l.length ≤ 65536) : sealed l = 3 :: (enc l.length ++ (l ++ four (sum (sealP l)))) := by
  unfold sealed
  rw [if_neg (by omega)]
  show (3 :: (enc l.length ++ l)) ++ four (sum (sealP l)) = _
  simp

theorem bnd_sealed {l : List Nat} (rest : List Nat) (h : l.length ≤ 65536) : bnd (sealed l ++ rest) = (1 + (enc l.length).length, 1 + (enc l.length).length + l.length, 0) := by
  rw [sealed_is h]
  have e : (3 :: (enc l.length ++ (l ++ four (sum (sealP l)))) ++ rest).drop 1 = enc l.length ++ (l ++ four (sum (sealP l)) ++ rest) := by simp
  unfold bnd
  rw [e, cnt_enc _ h]
  rw [if_neg (by simp), if_neg (by simp), if_neg (by simp), if_neg (by simp [four_len]; omega)]

theorem opn_sealed {l : List Nat} (rest : List Nat) (h : l.length ≤ 65536) : opn (sealed l ++ rest) = (l, (sealed l).length, 0) := by
  have hb := bnd_sealed rest h
  have hlen := sealed_len h
  have e1 : (sealed l ++ rest).take (1 + (enc l.length).length + l.length) = sealP l := by
    unfold sealed
    rw [if_neg (by omega), List.append_assoc]
    exact List.take_left' (by simp [sealP]; omega)
  have e2 : (sealed l ++ rest).drop (1 + (enc l.length).length + l.length) = four (sum (sealP l)) ++ rest := by
    unfold sealed
    rw [if_neg (by omega), List.append_assoc]
    exact List.drop_left' (by simp [sealP]; omega)
  have e3 : (sealed l ++ rest).drop (1 + (enc l.length).length) = l ++ (four (sum (sealP l)) ++ rest) := by
    rw [sealed_is h]
    rw [show 3 :: (enc l.length ++ (l ++ four (sum (sealP l)))) ++ rest = (3 :: enc l.length) ++ (l ++ (four (sum (sealP l)) ++ rest)) by simp]
    exact List.drop_left' (by simp; omega)
  unfold opn
  rw [hb]
  rw [if_neg (by simp)]
  simp only
  rw [e1, e2, if_neg (by rw [List.take_left' (four_len _)]; simp), e3, hlen]
  rw [show 1 + (enc l.length).length + l.length - (1 + (enc l.length).length) = l.length by omega]
  simp

/-- Cut off anywhere it is too short. -/
theorem opn_cut {l : List Nat} {k : Nat} (h : l.length ≤ 65536) (hk : k < (sealed l).length) : opn ((sealed l).take k) = ([], 0, 3) := by
  have hlen := sealed_len h
  have hb : (bnd ((sealed l).take k)).2.2 = 3 := by
    unfold bnd
    by_cases h0 : k = 0
    · subst h0
      simp
    · have e0 : ((sealed l).take k).length = k := by rw [List.length_take]; omega
      rw [e0, if_neg h0]
      obtain ⟨j, rfl⟩ : ∃ j, k = j + 1 := ⟨k - 1, by omega⟩
      have e1 : (sealed l).take (j + 1) = 3 :: (enc l.length ++ (l ++ four (sum (sealP l)))).take j := by rw [sealed_is h]; rfl
      rw [e1, if_neg (by simp)]
      simp only [List.drop_succ_cons, List.drop_zero]
      by_cases hj : j < (enc l.length).length
      · rw [List.take_append_of_le_length (by omega), cnt_cut h hj]
        rw [if_pos (by simp)]
      · rw [List.take_append, List.take_of_length_le (by omega : (enc l.length).length ≤ j), cnt_enc _ h]
        rw [if_neg (by simp), if_pos (by simp; omega)]
  unfold opn
  rw [hb, if_pos (by decide)]

/-- What is told whole has its sum behind it. -/
theorem opn_whole {l : List Nat} (h : (opn l).2.2 = 0) : ∃ t, (opn l).2.1 = t + 4 ∧ t + 4 ≤ l.length ∧ (l.drop t).take 4 = four (sum (l.take t)) := by
  unfold opn at h ⊢
  split at h
  · rename_i h1
    exact absurd h h1
  · rename_i h1
    rw [if_neg h1]
    split at h
    · simp at h
    · rename_i h2
      rw [if_neg h2]
      have hb := bnd_fits l (by omega)
      exact ⟨(bnd l).2.1, rfl, hb.2.2, by simpa using h2⟩
theorem opn_err {l : List Nat} (h : (opn l).2.2 ≠ 0) : (opn l).1 = [] ∧ (opn l).2.1 = 0 := by
  unfold opn at h ⊢
  split at h
  · rename_i h1
    rw [if_pos h1]
    exact ⟨rfl, rfl⟩
  · rename_i h1
    rw [if_neg h1]
    split at h
    · rename_i h2
      rw [if_pos h2]
      exact ⟨rfl, rfl⟩
    · simp at h
theorem opn_old {l : List Nat} (h : 0 < l.length) (h3 : l.getD 0 0 ≠ 3) : opn l = ([], 0, 5) := by
  have hb : bnd l = (0, 0, 5) := by
    unfold bnd
    rw [if_neg (by omega), if_pos h3]
  unfold opn
  rw [hb]
  rw [if_pos (by decide)]
theorem opn_small {l : List Nat} (h : ∀ x ∈ l, x < 256) : ∀ x ∈ (opn l).1, x < 256 := by
  intro x hx
  unfold opn at hx
  split at hx
  · simp at hx
  · split at hx
    · simp at hx
    · exact h x (List.mem_of_mem_drop (List.mem_of_mem_take hx))
end Go.Proofs.YtehiaeihkdfclaaGreatDoor
/- Good messages on data alone: they are small, their fields are fine, they come back from their fields. -/
namespace Go.Proofs.YtehiaeihkdfclaaGreatDoor
open Go.RowKit

theorem may_i64 {x : Int} (h : mayB x = true) : I64 x := by
  unfold mayB at h
  simp only [Bool.and_eq_true, decide_eq_true_eq] at h
  unfold I64
  omega
theorem stepG_sm {s : StepD} (h : stepG s = true) : s.sm 16 := by
  unfold stepG at h
  simp only [Bool.and_eq_true, decide_eq_true_eq] at h
  exact ⟨h.1, may_i64 h.2.1.1, may_i64 h.2.1.2, may_i64 h.2.2⟩
theorem defG_sm {d : DefD} (h : defG d = true) : d.sm 16 := by
  unfold defG at h
  simp only [Bool.and_eq_true, decide_eq_true_eq, List.all_eq_true] at h
  exact ⟨h.1.1, by have := h.1.2; omega, fun s hs => stepG_sm (h.2 s hs)⟩
theorem opG_sm {o : OpD} (h : opG o = true) : o.sm 16 := by
  unfold opG at h
  simp only [Bool.and_eq_true, decide_eq_true_eq] at h
  exact ⟨⟨by omega, by omega⟩, may_i64 h.2.1.1.1.1, may_i64 h.2.1.1.1.2, defG_sm h.1.2, may_i64 h.2.1.1.2, may_i64 h.2.1.2, may_i64 h.2.2⟩
theorem StepD.sm.mono {k j : Nat} {s : StepD} (h : s.sm k) (hj : k ≤ j) : s.sm j := ⟨Nat.le_trans h.1 hj, h.2⟩
theorem DefD.sm.mono {k j : Nat} {d : DefD} (h : d.sm k) (hj : k ≤ j) : d.sm j := ⟨Nat.le_trans h.1 hj, Nat.le_trans h.2.1 hj, fun s hs => (h.2.2 s hs).mono hj⟩
theorem OpD.sm.mono {k j : Nat} {o : OpD} (h : o.sm k) (hj : k ≤ j) : o.sm j := ⟨h.1, h.2.1, h.2.2.1, h.2.2.2.1.mono hj, h.2.2.2.2⟩

/-- What a good message is. -/
theorem replyG_nums {m : MsgD} (h : replyG m = true) : I64 m.rerr ∧ I64 m.rsaga ∧ I64 m.rstate ∧ I64 m.rstep := by
  unfold replyG at h
  simp only [Bool.and_eq_true, decide_eq_true_eq] at h
  exact ⟨⟨by omega, by omega⟩, may_i64 h.2.1.1, may_i64 h.2.1.2, may_i64 h.2.2⟩
theorem cmdG_nums {m : MsgD} (h : cmdG m = true) : I64 m.cview ∧ I64 m.cstub ∧ I64 m.csaga ∧ I64 m.cstep ∧ I64 m.ctry := by
  unfold cmdG at h
  simp only [Bool.and_eq_true] at h
  exact ⟨may_i64 h.1.1.1.1, may_i64 h.1.1.1.2, may_i64 h.1.1.2, may_i64 h.1.2, may_i64 h.2⟩
theorem may8 {a b c d e f g i : Int} (h : (mayB a && mayB b && mayB c && mayB d && mayB e && mayB f && mayB g && mayB i) = true) : I64 a ∧ I64 b ∧ I64 c ∧ I64 d ∧ I64 e ∧ I64 f ∧ I64 g ∧ I64 i := by
  simp only [Bool.and_eq_true] at h
  exact ⟨may_i64 h.1.1.1.1.1.1.1, may_i64 h.1.1.1.1.1.1.2, may_i64 h.1.1.1.1.1.2, may_i64 h.1.1.1.1.2, may_i64 h.1.1.1.2, may_i64 h.1.1.2, may_i64 h.1.2, may_i64 h.2⟩
theorem and8 {a b c d e f g i j : Bool} (h : (a && b && c && d && e && f && g && i && j) = true) : a = true ∧ b = true ∧ c = true ∧ d = true ∧ e = true ∧ f = true ∧ g = true ∧ i = true ∧ j = true := by
  simp only [Bool.and_eq_true] at h
  exact ⟨h.1.1.1.1.1.1.1.1, h.1.1.1.1.1.1.1.2, h.1.1.1.1.1.1.2, h.1.1.1.1.1.2, h.1.1.1.1.2, h.1.1.1.2, h.1.1.2, h.1.2, h.2⟩
theorem msgG0_split {m : MsgD} (h : msgG0 m = true) : m.nums ∧ m.op.sm 16 ∧ (∀ o ∈ m.ops, o.sm 16) ∧ m.incs.length ≤ 5 := by
  obtain ⟨k1, k2, ha, hr, hc, ho, hos, hi, his⟩ := and8 h
  obtain ⟨a1, a2, a3, a4, a5, a6, a7, a8⟩ := may8 ha
  obtain ⟨r1, r2, r3, r4⟩ := replyG_nums hr
  obtain ⟨c1, c2, c3, c4, c5⟩ := cmdG_nums hc
  have e1 := of_decide_eq_true k1
  have e2 := of_decide_eq_true k2
  have hk : I64 m.kind := ⟨by omega, by omega⟩
  exact ⟨⟨hk, a1, a2, a3, a4, a5, a6, a7, a8, r1, r2, r3, r4, c1, c2, c3, c4, c5, fun x hx => may_i64 (List.all_eq_true.1 his x hx)⟩, opG_sm ho, fun o h1 => opG_sm (List.all_eq_true.1 hos o h1), of_decide_eq_true hi⟩
theorem msgG0_sm {m : MsgD} (h : msgG0 m = true) (hn : m.ops.length ≤ 100000) : m.sm 5000 := by
  obtain ⟨h1, h2, h3, h4⟩ := msgG0_split h
  exact ⟨h1, h2.mono (by omega), fun o ho => (h3 o ho).mono (by omega), hn, by omega⟩
theorem op16_room {o : OpD} (h : o.sm 16) : (opB o).length ≤ 3000 := by
  have h1 : (opB o).length ≤ _ := prec_len (opF o)
  have h2 := opF_room h
  omega
set_option maxHeartbeats 1000000 in
theorem msg_room {m : MsgD} (h : msgG0 m = true) (hn : m.ops.length ≤ 100000) : proom (msgF m) ≤ 400000000 := by
  obtain ⟨h1, h2, h3, h4⟩ := msgG0_split h
  have hr2 : (replyB m).length ≤ 80 := Nat.le_trans (prec_len _) (reply_room m)
  have hc2 : (cmdB m).length ≤ 120 := Nat.le_trans (prec_len _) (cmd_room m)
  have ho := op16_room h2
  have p16 := proom_map (fun o => prow 16 (opB o)) 3000 m.ops fun o h => op16_room (h3 o h)
  have p17 := proom_map (fun x => pint 17 x) 0 m.incs fun x _ => by simp [pint]
  have p13 := proom_text 13 (opB m.op)
  have p14 := proom_text 14 (replyB m)
  have p15 := proom_text 15 (cmdB m)
  have q1 := proom_num 1 m.kind
  have q2 := proom_num 2 m.src
  have q3 := proom_num 3 m.dst
  have q4 := proom_num 4 m.view
  have q5 := proom_num 5 m.last
  have q6 := proom_num 6 m.num
  have q7 := proom_num 7 m.commit
  have q8 := proom_num 8 m.nonce
  have q9 := proom_num 9 m.request
  have q10 := proom_flag 10 m.lead
  have q11 := proom_flag 11 m.good
  have q12 := proom_flag 12 m.fenced
  have hz : proom [] = 0 := rfl
  simp only [msgF, List.flatten_cons, List.flatten_nil, proom_append, hz]
  generalize proom (pnum 1 m.kind) = x1 at q1 ⊢
  generalize proom (pnum 2 m.src) = x2 at q2 ⊢
  generalize proom (pnum 3 m.dst) = x3 at q3 ⊢
  generalize proom (pnum 4 m.view) = x4 at q4 ⊢
  generalize proom (pnum 5 m.last) = x5 at q5 ⊢
  generalize proom (pnum 6 m.num) = x6 at q6 ⊢
  generalize proom (pnum 7 m.commit) = x7 at q7 ⊢
  generalize proom (pnum 8 m.nonce) = x8 at q8 ⊢
  generalize proom (pnum 9 m.request) = x9 at q9 ⊢
  generalize proom (pflag 10 m.lead) = x10 at q10 ⊢
  generalize proom (pflag 11 m.good) = x11 at q11 ⊢
  generalize proom (pflag 12 m.fenced) = x12 at q12 ⊢
  generalize proom (ptext 13 (opB m.op)) = x13 at p13 ⊢
  generalize proom (ptext 14 (replyB m)) = x14 at p14 ⊢
  generalize proom (ptext 15 (cmdB m)) = x15 at p15 ⊢
  generalize proom (m.ops.map fun o => prow 16 (opB o)) = x16 at p16 ⊢
  generalize proom (m.incs.map fun x => pint 17 x) = x17 at p17 ⊢
  replace p13 := Nat.le_trans p13 (Nat.add_le_add_left ho 20)
  replace p14 := Nat.le_trans p14 (Nat.add_le_add_left hr2 20)
  replace p15 := Nat.le_trans p15 (Nat.add_le_add_left hc2 20)
  clear h h1 h2 h3 hz ho hr2 hc2
  have e16 : x16 ≤ 100000 * 3020 := Nat.le_trans p16 (Nat.mul_le_mul hn (Nat.le_refl _))
  have e17 : x17 ≤ 5 * 20 := Nat.le_trans p17 (Nat.mul_le_mul h4 (Nat.le_refl _))
  clear p16 p17 hn h4
  omega
theorem replyF_fine {m : MsgD} (h : m.nums) : ∀ p ∈ replyF m, fine p :=
  mem_flatten_cons (fine_num (by omega) (by omega) h.rerr) (mem_flatten_cons (fine_num (by omega) (by omega) h.rsaga) (mem_flatten_cons (fine_num (by omega) (by omega) h.rstate) (mem_flatten_cons (fine_num (by omega) (by omega) h.rstep) (by simp))))
theorem cmdF_fine {m : MsgD} (h : m.nums) : ∀ p ∈ cmdF m, fine p :=
  mem_flatten_cons (fine_num (by omega) (by omega) h.cview) (mem_flatten_cons (fine_num (by omega) (by omega) h.cstub) (mem_flatten_cons (fine_num (by omega) (by omega) h.csaga) (mem_flatten_cons (fine_num (by omega) (by omega) h.cstep) (mem_flatten_cons (fine_num (by omega) (by omega) h.ctry) (mem_flatten_cons (fine_flag (by omega) (by omega)) (by simp))))))
theorem msgF_fine {k : Nat} {m : MsgD} (h : m.sm k) (hk : k ≤ 5000) : ∀ p ∈ msgF m, fine p := by
  have hr2 : (replyB m).length ≤ 80 := Nat.le_trans (prec_len _) (reply_room m)
  have hc2 : (cmdB m).length ≤ 120 := Nat.le_trans (prec_len _) (cmd_room m)
  have ho := opB_len h.op hk
  refine mem_flatten_cons (fine_num (by omega) (by omega) h.nums.kind) (mem_flatten_cons (fine_num (by omega) (by omega) h.nums.src) (mem_flatten_cons (fine_num (by omega) (by omega) h.nums.dst) (mem_flatten_cons (fine_num (by omega) (by omega) h.nums.view)
    (mem_flatten_cons (fine_num (by omega) (by omega) h.nums.last) (mem_flatten_cons (fine_num (by omega) (by omega) h.nums.num) (mem_flatten_cons (fine_num (by omega) (by omega) h.nums.commit) (mem_flatten_cons (fine_num (by omega) (by omega) h.nums.nonce)
    (mem_flatten_cons (fine_num (by omega) (by omega) h.nums.request) (mem_flatten_cons (fine_flag (by omega) (by omega)) (mem_flatten_cons (fine_flag (by omega) (by omega)) (mem_flatten_cons (fine_flag (by omega) (by omega))
    (mem_flatten_cons (fine_text (by omega) (by omega) (by omega) (opB_small h.op hk)) (mem_flatten_cons (fine_text (by omega) (by omega) (by omega) (prec_small (replyF_fine h.nums))) (mem_flatten_cons (fine_text (by omega) (by omega) (by omega) (prec_small (cmdF_fine h.nums)))
    (mem_flatten_cons ?_ (mem_flatten_cons ?_ (by simp)))))))))))))))))
  · intro p hp
    obtain ⟨o, ho, rfl⟩ := List.mem_map.1 hp
    have h2 := opB_len (h.ops o ho) hk
    exact fine_row (by omega) (by omega) (by omega) (opB_small (h.ops o ho) hk)
  · intro p hp
    obtain ⟨x, hx, rfl⟩ := List.mem_map.1 hp
    exact fine_int (by omega) (by omega) (h.nums.incs x hx)
theorem msgB_small {k : Nat} {m : MsgD} (h : m.sm k) (hk : k ≤ 5000) : ∀ x ∈ msgB m, x < 256 := prec_small (msgF_fine h hk)

/-- A reply, a command come back. -/
def MsgD.putReply (m : MsgD) (a b c d : Int) : MsgD := { m with rerr := a, rsaga := b, rstate := c, rstep := d }
def MsgD.putCmd (m : MsgD) (a b c d e : Int) (f : Bool) : MsgD := { m with cview := a, cstub := b, csaga := c, cstep := d, ctry := e, cback := f }
set_option maxRecDepth 10000 in
theorem reply_back (t m : MsgD) (hm : m.nums) : rdB replyPs (t.putReply 0 0 0 0) (replyB m) = t.putReply m.rerr m.rsaga m.rstate m.rstep := by
  unfold rdB replyB
  rw [pread_fine (replyF_fine hm)]
  simp only [replyF, List.flatten_cons, List.flatten_nil, List.append_nil, rdL_append]
  rw [rdL_num replyPs (t.putReply 0 0 0 0) (t.putReply m.rerr 0 0 0) 1 _ (fun e => by rw [e]) (by simp [rd1, replyPs, zag_zig, MsgD.putReply]),
    rdL_num replyPs (t.putReply m.rerr 0 0 0) (t.putReply m.rerr m.rsaga 0 0) 2 _ (fun e => by rw [e]) (by simp [rd1, replyPs, zag_zig, MsgD.putReply]),
    rdL_num replyPs (t.putReply m.rerr m.rsaga 0 0) (t.putReply m.rerr m.rsaga m.rstate 0) 3 _ (fun e => by rw [e]) (by simp [rd1, replyPs, zag_zig, MsgD.putReply]),
    rdL_num replyPs (t.putReply m.rerr m.rsaga m.rstate 0) (t.putReply m.rerr m.rsaga m.rstate m.rstep) 4 _ (fun e => by rw [e]) (by simp [rd1, replyPs, zag_zig, MsgD.putReply])]
set_option maxRecDepth 10000 in
theorem cmd_back (t m : MsgD) (hm : m.nums) : rdB cmdPs (t.putCmd 0 0 0 0 0 false) (cmdB m) = t.putCmd m.cview m.cstub m.csaga m.cstep m.ctry m.cback := by
  unfold rdB cmdB
  rw [pread_fine (cmdF_fine hm)]
  simp only [cmdF, List.flatten_cons, List.flatten_nil, List.append_nil, rdL_append]
  rw [rdL_num cmdPs (t.putCmd 0 0 0 0 0 false) (t.putCmd m.cview 0 0 0 0 false) 1 _ (fun e => by rw [e]) (by simp [rd1, cmdPs, zag_zig, MsgD.putCmd]),
    rdL_num cmdPs (t.putCmd m.cview 0 0 0 0 false) (t.putCmd m.cview m.cstub 0 0 0 false) 2 _ (fun e => by rw [e]) (by simp [rd1, cmdPs, zag_zig, MsgD.putCmd]),
    rdL_num cmdPs (t.putCmd m.cview m.cstub 0 0 0 false) (t.putCmd m.cview m.cstub m.csaga 0 0 false) 3 _ (fun e => by rw [e]) (by simp [rd1, cmdPs, zag_zig, MsgD.putCmd]),
    rdL_num cmdPs (t.putCmd m.cview m.cstub m.csaga 0 0 false) (t.putCmd m.cview m.cstub m.csaga m.cstep 0 false) 4 _ (fun e => by rw [e]) (by simp [rd1, cmdPs, zag_zig, MsgD.putCmd]),
    rdL_num cmdPs (t.putCmd m.cview m.cstub m.csaga m.cstep 0 false) (t.putCmd m.cview m.cstub m.csaga m.cstep m.ctry false) 5 _ (fun e => by rw [e]) (by simp [rd1, cmdPs, zag_zig, MsgD.putCmd]),
    rdL_flag cmdPs (t.putCmd m.cview m.cstub m.csaga m.cstep m.ctry false) (t.putCmd m.cview m.cstub m.csaga m.cstep m.ctry m.cback) 6 _ (fun e => by rw [e]) (fun e => by simp [rd1, cmdPs, e, MsgD.putCmd])]

theorem pnum_nil {n v : Int} (h : pnum n v = []) : v = 0 := by
  unfold pnum at h
  split at h
  · assumption
  · cases h
theorem pflag_nil {n : Int} {b : Bool} (h : pflag n b = []) : b = false := by
  unfold pflag at h
  cases b
  · rfl
  · cases h
theorem ptext_nil {n : Int} {l : List Nat} (h : ptext n l = []) : l = [] := by
  unfold ptext at h
  split at h
  · assumption
  · cases h
theorem opF_nil {k : Nat} {o : OpD} (hs : o.sm k) (hk : k ≤ 5000) (h : opF o = []) : o = .zero := by
  simp only [opF, List.flatten_cons, List.flatten_nil, List.append_nil, List.append_eq_nil_iff] at h
  obtain ⟨h1, h2, h3, h4, h5, h6, h7, h8, h9⟩ := h
  have e1 := pnum_nil h1
  have e2 := pnum_nil h2
  have e3 := pnum_nil h3
  have e4 : o.defn = .zero := defF_nil ((prec_nil_iff (defF_fine hs.2.2.2.1 hk)).1 (ptext_nil h4))
  have e5 := pnum_nil h5
  have e6 := pnum_nil h6
  have e7 := pnum_nil h7
  have e8 := pflag_nil h8
  have e9 := pflag_nil h9
  have d1 : o.name = ⟨#[]⟩ := congrArg DefD.name e4
  have d2 : o.steps = [] := congrArg DefD.steps e4
  cases o
  simp only at e1 e2 e3 e5 e6 e7 e8 e9 d1 d2
  subst e1 e2 e3 e5 e6 e7 e8 e9 d1 d2
  rfl
theorem replyF_nil {m : MsgD} (h : replyF m = []) : m.rerr = 0 ∧ m.rsaga = 0 ∧ m.rstate = 0 ∧ m.rstep = 0 := by
  simp only [replyF, List.flatten_cons, List.flatten_nil, List.append_nil, List.append_eq_nil_iff] at h
  exact ⟨pnum_nil h.1, pnum_nil h.2.1, pnum_nil h.2.2.1, pnum_nil h.2.2.2⟩
theorem cmdF_nil {m : MsgD} (h : cmdF m = []) : m.cview = 0 ∧ m.cstub = 0 ∧ m.csaga = 0 ∧ m.cstep = 0 ∧ m.ctry = 0 ∧ m.cback = false := by
  simp only [cmdF, List.flatten_cons, List.flatten_nil, List.append_nil, List.append_eq_nil_iff] at h
  exact ⟨pnum_nil h.1, pnum_nil h.2.1, pnum_nil h.2.2.1, pnum_nil h.2.2.2.1, pnum_nil h.2.2.2.2.1, pflag_nil h.2.2.2.2.2⟩
theorem msgPs_13 (m : MsgD) (l : List Nat) : rd1 msgPs m (13, true, 0, l) = { m with op := rdB opPs m.op l } := by simp [rd1, msgPs]
theorem msgPs_14 (m : MsgD) (l : List Nat) : rd1 msgPs m (14, true, 0, l) = rdB replyPs m l := by simp [rd1, msgPs]
theorem msgPs_15 (m : MsgD) (l : List Nat) : rd1 msgPs m (15, true, 0, l) = rdB cmdPs m l := by simp [rd1, msgPs]
theorem rdL_ops : ∀ (l : List OpD) {k : Nat}, (∀ o ∈ l, o.sm k) → k ≤ 5000 → ∀ m : MsgD, rdL msgPs m (l.map fun o => prow 16 (opB o)) = { m with ops := m.ops ++ l }
  | [], _, _, _, m => by simp [rdL_nil]
  | s :: r, k, h, hk, m => by
    have ih := rdL_ops r (fun x hx => h x (by simp [hx])) hk { m with ops := m.ops ++ [s] }
    have e1 : rd1 msgPs m (prow 16 (opB s)) = { m with ops := m.ops ++ [s] } := by simp [rd1, msgPs, prow, opR_B (h s (by simp)) hk]
    rw [List.map_cons, show prow 16 (opB s) :: r.map (fun s => prow 16 (opB s)) = [prow 16 (opB s)] ++ r.map (fun s => prow 16 (opB s)) from rfl, rdL_append, rdL_one, e1, ih]
    simp
theorem rdL_incs : ∀ (l : List Int) (m : MsgD), rdL msgPs m (l.map fun x => pint 17 x) = { m with incs := m.incs ++ l }
  | [], m => by simp [rdL_nil]
  | s :: r, m => by
    have ih := rdL_incs r { m with incs := m.incs ++ [s] }
    have e1 : rd1 msgPs m (pint 17 s) = { m with incs := m.incs ++ [s] } := by simp [rd1, msgPs, pint, zag_zig]
    rw [List.map_cons, show pint 17 s :: r.map (fun s => pint 17 s) = [pint 17 s] ++ r.map (fun s => pint 17 s) from rfl, rdL_append, rdL_one, e1, ih]
    simp
set_option maxRecDepth 20000 in
set_option maxHeartbeats 2000000 in
/-- A message comes back. -/
theorem msgR_F {k : Nat} {m : MsgD} (h : m.sm k) (hk : k ≤ 5000) : rdL msgPs .zero (msgF m) = m := by
  simp only [msgF, List.flatten_cons, List.flatten_nil, List.append_nil, rdL_append]
  rw [show MsgD.zero = (⟨0, 0, 0, 0, 0, 0, 0, 0, 0, false, false, false, OpD.zero, 0, 0, 0, 0, 0, 0, 0, 0, 0, false, [], []⟩ : MsgD) from rfl,
    rdL_num msgPs (⟨0, 0, 0, 0, 0, 0, 0, 0, 0, false, false, false, OpD.zero, 0, 0, 0, 0, 0, 0, 0, 0, 0, false, [], []⟩ : MsgD) (⟨m.kind, 0, 0, 0, 0, 0, 0, 0, 0, false, false, false, OpD.zero, 0, 0, 0, 0, 0, 0, 0, 0, 0, false, [], []⟩ : MsgD) 1 _ (fun e => by rw [e]) (by simp [rd1, msgPs, zag_zig]),
    rdL_num msgPs (⟨m.kind, 0, 0, 0, 0, 0, 0, 0, 0, false, false, false, OpD.zero, 0, 0, 0, 0, 0, 0, 0, 0, 0, false, [], []⟩ : MsgD) (⟨m.kind, m.src, 0, 0, 0, 0, 0, 0, 0, false, false, false, OpD.zero, 0, 0, 0, 0, 0, 0, 0, 0, 0, false, [], []⟩ : MsgD) 2 _ (fun e => by rw [e]) (by simp [rd1, msgPs, zag_zig]),
    rdL_num msgPs (⟨m.kind, m.src, 0, 0, 0, 0, 0, 0, 0, false, false, false, OpD.zero, 0, 0, 0, 0, 0, 0, 0, 0, 0, false, [], []⟩ : MsgD) (⟨m.kind, m.src, m.dst, 0, 0, 0, 0, 0, 0, false, false, false, OpD.zero, 0, 0, 0, 0, 0, 0, 0, 0, 0, false, [], []⟩ : MsgD) 3 _ (fun e => by rw [e]) (by simp [rd1, msgPs, zag_zig]),
    rdL_num msgPs (⟨m.kind, m.src, m.dst, 0, 0, 0, 0, 0, 0, false, false, false, OpD.zero, 0, 0, 0, 0, 0, 0, 0, 0, 0, false, [], []⟩ : MsgD) (⟨m.kind, m.src, m.dst, m.view, 0, 0, 0, 0, 0, false, false, false, OpD.zero, 0, 0, 0, 0, 0, 0, 0, 0, 0, false, [], []⟩ : MsgD) 4 _ (fun e => by rw [e]) (by simp [rd1, msgPs, zag_zig]),
    rdL_num msgPs (⟨m.kind, m.src, m.dst, m.view, 0, 0, 0, 0, 0, false, false, false, OpD.zero, 0, 0, 0, 0, 0, 0, 0, 0, 0, false, [], []⟩ : MsgD) (⟨m.kind, m.src, m.dst, m.view, m.last, 0, 0, 0, 0, false, false, false, OpD.zero, 0, 0, 0, 0, 0, 0, 0, 0, 0, false, [], []⟩ : MsgD) 5 _ (fun e => by rw [e]) (by simp [rd1, msgPs, zag_zig]),
    rdL_num msgPs (⟨m.kind, m.src, m.dst, m.view, m.last, 0, 0, 0, 0, false, false, false, OpD.zero, 0, 0, 0, 0, 0, 0, 0, 0, 0, false, [], []⟩ : MsgD) (⟨m.kind, m.src, m.dst, m.view, m.last, m.num, 0, 0, 0, false, false, false, OpD.zero, 0, 0, 0, 0, 0, 0, 0, 0, 0, false, [], []⟩ : MsgD) 6 _ (fun e => by rw [e]) (by simp [rd1, msgPs, zag_zig]),
    rdL_num msgPs (⟨m.kind, m.src, m.dst, m.view, m.last, m.num, 0, 0, 0, false, false, false, OpD.zero, 0, 0, 0, 0, 0, 0, 0, 0, 0, false, [], []⟩ : MsgD) (⟨m.kind, m.src, m.dst, m.view, m.last, m.num, m.commit, 0, 0, false, false, false, OpD.zero, 0, 0, 0, 0, 0, 0, 0, 0, 0, false, [], []⟩ : MsgD) 7 _ (fun e => by rw [e]) (by simp [rd1, msgPs, zag_zig]),
    rdL_num msgPs (⟨m.kind, m.src, m.dst, m.view, m.last, m.num, m.commit, 0, 0, false, false, false, OpD.zero, 0, 0, 0, 0, 0, 0, 0, 0, 0, false, [], []⟩ : MsgD) (⟨m.kind, m.src, m.dst, m.view, m.last, m.num, m.commit, m.nonce, 0, false, false, false, OpD.zero, 0, 0, 0, 0, 0, 0, 0, 0, 0, false, [], []⟩ : MsgD) 8 _ (fun e => by rw [e]) (by simp [rd1, msgPs, zag_zig]),
    rdL_num msgPs (⟨m.kind, m.src, m.dst, m.view, m.last, m.num, m.commit, m.nonce, 0, false, false, false, OpD.zero, 0, 0, 0, 0, 0, 0, 0, 0, 0, false, [], []⟩ : MsgD) (⟨m.kind, m.src, m.dst, m.view, m.last, m.num, m.commit, m.nonce, m.request, false, false, false, OpD.zero, 0, 0, 0, 0, 0, 0, 0, 0, 0, false, [], []⟩ : MsgD) 9 _ (fun e => by rw [e]) (by simp [rd1, msgPs, zag_zig]),
    rdL_flag msgPs (⟨m.kind, m.src, m.dst, m.view, m.last, m.num, m.commit, m.nonce, m.request, false, false, false, OpD.zero, 0, 0, 0, 0, 0, 0, 0, 0, 0, false, [], []⟩ : MsgD) (⟨m.kind, m.src, m.dst, m.view, m.last, m.num, m.commit, m.nonce, m.request, m.lead, false, false, OpD.zero, 0, 0, 0, 0, 0, 0, 0, 0, 0, false, [], []⟩ : MsgD) 10 _ (fun e => by rw [e]) (fun e => by simp [rd1, msgPs, e]),
    rdL_flag msgPs (⟨m.kind, m.src, m.dst, m.view, m.last, m.num, m.commit, m.nonce, m.request, m.lead, false, false, OpD.zero, 0, 0, 0, 0, 0, 0, 0, 0, 0, false, [], []⟩ : MsgD) (⟨m.kind, m.src, m.dst, m.view, m.last, m.num, m.commit, m.nonce, m.request, m.lead, m.good, false, OpD.zero, 0, 0, 0, 0, 0, 0, 0, 0, 0, false, [], []⟩ : MsgD) 11 _ (fun e => by rw [e]) (fun e => by simp [rd1, msgPs, e]),
    rdL_flag msgPs (⟨m.kind, m.src, m.dst, m.view, m.last, m.num, m.commit, m.nonce, m.request, m.lead, m.good, false, OpD.zero, 0, 0, 0, 0, 0, 0, 0, 0, 0, false, [], []⟩ : MsgD) (⟨m.kind, m.src, m.dst, m.view, m.last, m.num, m.commit, m.nonce, m.request, m.lead, m.good, m.fenced, OpD.zero, 0, 0, 0, 0, 0, 0, 0, 0, 0, false, [], []⟩ : MsgD) 12 _ (fun e => by rw [e]) (fun e => by simp [rd1, msgPs, e]),
    rdL_text msgPs (⟨m.kind, m.src, m.dst, m.view, m.last, m.num, m.commit, m.nonce, m.request, m.lead, m.good, m.fenced, OpD.zero, 0, 0, 0, 0, 0, 0, 0, 0, 0, false, [], []⟩ : MsgD) (⟨m.kind, m.src, m.dst, m.view, m.last, m.num, m.commit, m.nonce, m.request, m.lead, m.good, m.fenced, m.op, 0, 0, 0, 0, 0, 0, 0, 0, 0, false, [], []⟩ : MsgD) 13 _ (fun e => by rw [opF_nil h.op hk ((prec_nil_iff (opF_fine h.op hk)).1 e)]) (by rw [msgPs_13]; simp only; rw [show rdB opPs OpD.zero (opB m.op) = m.op from opR_B h.op hk]),
    rdL_text msgPs (⟨m.kind, m.src, m.dst, m.view, m.last, m.num, m.commit, m.nonce, m.request, m.lead, m.good, m.fenced, m.op, 0, 0, 0, 0, 0, 0, 0, 0, 0, false, [], []⟩ : MsgD) (⟨m.kind, m.src, m.dst, m.view, m.last, m.num, m.commit, m.nonce, m.request, m.lead, m.good, m.fenced, m.op, m.rerr, m.rsaga, m.rstate, m.rstep, 0, 0, 0, 0, 0, false, [], []⟩ : MsgD) 14 _ (fun e => by obtain ⟨e1, e2, e3, e4⟩ := replyF_nil ((prec_nil_iff (replyF_fine h.nums)).1 e); rw [e1, e2, e3, e4]) (by rw [msgPs_14]; exact reply_back (⟨m.kind, m.src, m.dst, m.view, m.last, m.num, m.commit, m.nonce, m.request, m.lead, m.good, m.fenced, m.op, 0, 0, 0, 0, 0, 0, 0, 0, 0, false, [], []⟩ : MsgD) m h.nums),
    rdL_text msgPs (⟨m.kind, m.src, m.dst, m.view, m.last, m.num, m.commit, m.nonce, m.request, m.lead, m.good, m.fenced, m.op, m.rerr, m.rsaga, m.rstate, m.rstep, 0, 0, 0, 0, 0, false, [], []⟩ : MsgD) (⟨m.kind, m.src, m.dst, m.view, m.last, m.num, m.commit, m.nonce, m.request, m.lead, m.good, m.fenced, m.op, m.rerr, m.rsaga, m.rstate, m.rstep, m.cview, m.cstub, m.csaga, m.cstep, m.ctry, m.cback, [], []⟩ : MsgD) 15 _ (fun e => by obtain ⟨e1, e2, e3, e4, e5, e6⟩ := cmdF_nil ((prec_nil_iff (cmdF_fine h.nums)).1 e); rw [e1, e2, e3, e4, e5, e6]) (by rw [msgPs_15]; exact cmd_back (⟨m.kind, m.src, m.dst, m.view, m.last, m.num, m.commit, m.nonce, m.request, m.lead, m.good, m.fenced, m.op, m.rerr, m.rsaga, m.rstate, m.rstep, 0, 0, 0, 0, 0, false, [], []⟩ : MsgD) m h.nums),
    rdL_ops m.ops h.ops hk, rdL_incs]
  simp
theorem msgR_B {k : Nat} {m : MsgD} (h : m.sm k) (hk : k ≤ 5000) : msgR (msgB m) = m := by
  unfold msgR msgB rdB
  rw [pread_fine (msgF_fine h hk), msgR_F h hk]
end Go.Proofs.YtehiaeihkdfclaaGreatDoor
/- The parts of a reply, of a command. -/
namespace Go.Proofs.YtehiaeihkdfclaaGreatDoor
open Go.RowKit

/-- What they do. -/
def ReplyW (g o a b : Nat) (w' : World) (ps : List PartV) : Prop :=
  (∀ (St : World → Prop) (m : MsgD), m.nums → (∀ w, St w → w.cell? ⟨g, o, none⟩ = some (.int .i64 m.rerr) ∧ w.cell? ⟨g, o + 1, none⟩ = some (.int .i64 m.rsaga) ∧ w.cell? ⟨g, o + 2, none⟩ = some (.int .i64 m.rstate) ∧ w.cell? ⟨g, o + 3, none⟩ = some (.int .i64 m.rstep)) → WrAll a b w' St ps (replyFs m)) ∧
  (∀ (Inv : (Nat → Prop) → MsgD → World → Prop) (sz : MsgD → Nat), InvOK Inv → ReplyPl Inv g o → RdAll a b w' Inv sz ps replyPs)
def CmdW (g o a b : Nat) (w' : World) (ps : List PartV) : Prop :=
  (∀ (St : World → Prop) (m : MsgD), m.nums → (∀ w, St w → w.cell? ⟨g, o, none⟩ = some (.int .i64 m.cview) ∧ w.cell? ⟨g, o + 1, none⟩ = some (.int .i64 m.cstub) ∧ w.cell? ⟨g, o + 2, none⟩ = some (.int .i64 m.csaga) ∧ w.cell? ⟨g, o + 3, none⟩ = some (.int .i64 m.cstep) ∧ w.cell? ⟨g, o + 4, none⟩ = some (.int .i64 m.ctry) ∧ w.cell? ⟨g, o + 5, none⟩ = some (.bool m.cback)) → WrAll a b w' St ps (cmdFs m)) ∧
  (∀ (Inv : (Nat → Prop) → MsgD → World → Prop) (sz : MsgD → Nat), InvOK Inv → CmdPl Inv g o → RdAll a b w' Inv sz ps cmdPs)

set_option maxHeartbeats 8000000 in
set_option maxRecDepth 100000 in
theorem replyParts_any {w : World} {g o : Nat} (hg : g < w.heap.size) : Calls Tryz.prog 69 #[.pointer (some ⟨g, o, none⟩)] w (PartsIs 4 (ReplyW g o) w) := by
  obtain ⟨i0, hi, hz0, hz1, _⟩ := info_parts Tryz.infoPart
  have HG := hide hg
  have L0 : Hid (Later w w.drew) := Later.drew w
  clear hg
  go_enter Tryz.func69, Tryz.ntmps69
  go_wp2
  refine wp_region_L (by kernel_rfl) ?_
  refine wpAnyL_take (i := 0) (d := some 3) (v := ?var0) rfl rfl (by kernel_rfl) (by kernel_rfl) (by kernel_rfl) (fun _ _ _ h => h) (by rfl) ?yar0 ?_
  case yar0 => (intro w' hw'; go_simp; try (with_reducible rfl))
  simp only [Act.put]; try simp only [List.setIfInBounds_toArray]; try simp only [List.set_cons_zero, List.set_cons_succ]
  refine wpAnyL_take (i := 1) (d := some 4) (v := ?var1) rfl rfl (by kernel_rfl) (by kernel_rfl) (by kernel_rfl) (fun _ _ _ h => h) (by rfl) ?yar1 ?_
  case yar1 => (intro w' hw'; go_simp; try (with_reducible rfl))
  simp only [Act.put]; try simp only [List.setIfInBounds_toArray]; try simp only [List.set_cons_zero, List.set_cons_succ]
  refine wpAnyL_take (i := 2) (d := some 5) (v := ?var2) rfl rfl (by kernel_rfl) (by kernel_rfl) (by kernel_rfl) (fun _ _ _ h => h) (by rfl) ?yar2 ?_
  case yar2 => (intro w' hw'; go_simp; try (with_reducible rfl))
  simp only [Act.put]; try simp only [List.setIfInBounds_toArray]; try simp only [List.set_cons_zero, List.set_cons_succ]
  refine wpAnyL_take (i := 4) (d := some 7) (v := ?var4) rfl rfl (by kernel_rfl) (by kernel_rfl) (by kernel_rfl) (fun _ _ _ h => h) (by rfl) ?yar4 ?_
  case yar4 => (intro w' hw'; go_simp; try (with_reducible rfl))
  simp only [Act.put]; try simp only [List.setIfInBounds_toArray]; try simp only [List.set_cons_zero, List.set_cons_succ]
  refine wpAnyL_take (i := 5) (d := some 8) (v := ?var5) rfl rfl (by kernel_rfl) (by kernel_rfl) (by kernel_rfl) (fun _ _ _ h => h) (by rfl) ?yar5 ?_
  case yar5 => (intro w' hw'; go_simp; try (with_reducible rfl))
  simp only [Act.put]; try simp only [List.setIfInBounds_toArray]; try simp only [List.set_cons_zero, List.set_cons_succ]
  refine wpAnyL_take (i := 6) (d := some 9) (v := ?var6) rfl rfl (by kernel_rfl) (by kernel_rfl) (by kernel_rfl) (fun _ _ _ h => h) (by rfl) ?yar6 ?_
  case yar6 => (intro w' hw'; go_simp; try (with_reducible rfl))
  simp only [Act.put]; try simp only [List.setIfInBounds_toArray]; try simp only [List.set_cons_zero, List.set_cons_succ]
  refine wpAnyL_take (i := 8) (d := some 11) (v := ?var8) rfl rfl (by kernel_rfl) (by kernel_rfl) (by kernel_rfl) (fun _ _ _ h => h) (by rfl) ?yar8 ?_
  case yar8 => (intro w' hw'; go_simp; try (with_reducible rfl))
  simp only [Act.put]; try simp only [List.setIfInBounds_toArray]; try simp only [List.set_cons_zero, List.set_cons_succ]
  refine wpAnyL_take (i := 9) (d := some 12) (v := ?var9) rfl rfl (by kernel_rfl) (by kernel_rfl) (by kernel_rfl) (fun _ _ _ h => h) (by rfl) ?yar9 ?_
  case yar9 => (intro w' hw'; go_simp; try (with_reducible rfl))
  simp only [Act.put]; try simp only [List.setIfInBounds_toArray]; try simp only [List.set_cons_zero, List.set_cons_succ]
  refine wpAnyL_take (i := 10) (d := some 13) (v := ?var10) rfl rfl (by kernel_rfl) (by kernel_rfl) (by kernel_rfl) (fun _ _ _ h => h) (by rfl) ?yar10 ?_
  case yar10 => (intro w' hw'; go_simp; try (with_reducible rfl))
  simp only [Act.put]; try simp only [List.setIfInBounds_toArray]; try simp only [List.set_cons_zero, List.set_cons_succ]
  refine wpAnyL_take (i := 12) (d := some 15) (v := ?var12) rfl rfl (by kernel_rfl) (by kernel_rfl) (by kernel_rfl) (fun _ _ _ h => h) (by rfl) ?yar12 ?_
  case yar12 => (intro w' hw'; go_simp; try (with_reducible rfl))
  simp only [Act.put]; try simp only [List.setIfInBounds_toArray]; try simp only [List.set_cons_zero, List.set_cons_succ]
  refine wpAnyL_take (i := 13) (d := some 16) (v := ?var13) rfl rfl (by kernel_rfl) (by kernel_rfl) (by kernel_rfl) (fun _ _ _ h => h) (by rfl) ?yar13 ?_
  case yar13 => (intro w' hw'; go_simp; try (with_reducible rfl))
  simp only [Act.put]; try simp only [List.setIfInBounds_toArray]; try simp only [List.set_cons_zero, List.set_cons_succ]
  refine wpAnyL_take (i := 14) (d := some 17) (v := ?var14) rfl rfl (by kernel_rfl) (by kernel_rfl) (by kernel_rfl) (fun _ _ _ h => h) (by rfl) ?yar14 ?_
  case yar14 => (intro w' hw'; go_simp; try (with_reducible rfl))
  simp only [Act.put]; try simp only [List.setIfInBounds_toArray]; try simp only [List.set_cons_zero, List.set_cons_succ]
  refine wpAnyL_only (i := 3) rfl (by kernel_rfl) (by rfl) fun K hK => ?_
  go_simp
  refine (numE_any9 (num := 1) (g := g) (o := o) (one_i64 (by omega) (by omega)) (by have h2 := HG.out; exact h2)).mono ?_
  rintro e w1 ⟨p1, rfl, hn, l1, hw1, hr1⟩
  refine hK.out _ _ l1 ?_
  have W1 := hide hw1
  have R1 := hide hr1
  have N1 := hide hn
  have K1 := hide l1
  have A1 := hide ((Later.drew w).trans l1)
  clear hn hw1 hr1 l1
  clear hK K
  try (simp only [Act.put]; try simp only [List.setIfInBounds_toArray]; try simp only [List.set_cons_zero, List.set_cons_succ])
  refine wpAnyL_only (i := 7) rfl (by kernel_rfl) (by rfl) fun K hK => ?_
  go_simp
  refine (num_any9 (num := 2) (g := g) (o := (o + 1)) (one_i64 (by omega) (by omega)) (by have h1 := Below.size A1.out; have h2 := HG.out; omega)).mono ?_
  rintro e w2 ⟨p2, rfl, hn, l2, hw2, hr2⟩
  refine hK.out _ _ l2 ?_
  have W2 := hide hw2
  have R2 := hide hr2
  have N2 := hide hn
  have K2 := hide l2
  have A2 := hide (A1.out.trans l2)
  clear hn hw2 hr2 l2
  clear hK K
  try (simp only [Act.put]; try simp only [List.setIfInBounds_toArray]; try simp only [List.set_cons_zero, List.set_cons_succ])
  refine wpAnyL_only (i := 11) rfl (by kernel_rfl) (by rfl) fun K hK => ?_
  go_simp
  refine (num_any9 (num := 3) (g := g) (o := (o + 2)) (one_i64 (by omega) (by omega)) (by have h1 := Below.size A2.out; have h2 := HG.out; omega)).mono ?_
  rintro e w3 ⟨p3, rfl, hn, l3, hw3, hr3⟩
  refine hK.out _ _ l3 ?_
  have W3 := hide hw3
  have R3 := hide hr3
  have N3 := hide hn
  have K3 := hide l3
  have A3 := hide (A2.out.trans l3)
  clear hn hw3 hr3 l3
  clear hK K
  try (simp only [Act.put]; try simp only [List.setIfInBounds_toArray]; try simp only [List.set_cons_zero, List.set_cons_succ])
  refine wpAnyL_only (i := 15) rfl (by kernel_rfl) (by rfl) fun K hK => ?_
  go_simp
  refine (num_any9 (num := 4) (g := g) (o := (o + 3)) (one_i64 (by omega) (by omega)) (by have h1 := Below.size A3.out; have h2 := HG.out; omega)).mono ?_
  rintro e w4 ⟨p4, rfl, hn, l4, hw4, hr4⟩
  refine hK.out _ _ l4 ?_
  have W4 := hide hw4
  have R4 := hide hr4
  have N4 := hide hn
  have K4 := hide l4
  have A4 := hide (A3.out.trans l4)
  clear hn hw4 hr4 l4
  clear hK K
  try (simp only [Act.put]; try simp only [List.setIfInBounds_toArray]; try simp only [List.set_cons_zero, List.set_cons_succ])
  refine wpAnyL_only (i := 16) rfl (by kernel_rfl) (by rfl) fun K hK => ?_
  refine wp_buildSlice_many 63 110 _ 4 (by rfl) i0 _ 3 Tryz.underlying63 hi hz0 hz1 (by omega) (by omega) (by omega) [p1.cells.toArray, p2.cells.toArray, p3.cells.toArray, p4.cells.toArray] (by rfl) (by rfl) (by intro v hv; simp only [List.mem_cons, List.not_mem_nil, or_false] at hv; rcases hv with rfl | rfl | rfl | rfl <;> rfl) ?_
  refine hK.out _ _ (show Later w4 (w4.alloc (.cells (flatC [p1.cells.toArray, p2.cells.toArray, p3.cells.toArray, p4.cells.toArray]).toArray 110 (0, 0))) from Later.alloc _ _) (?_ : wpAnyL _ _ _ _ _ _ (Act.put _ (some 19) _) _)
  clear hK K
  try (simp only [Act.put]; try simp only [List.setIfInBounds_toArray]; try simp only [List.set_cons_zero, List.set_cons_succ])
  refine wpAnyL_take (i := 17) (d := some 2) (v := ?var17) rfl rfl (by kernel_rfl) (by kernel_rfl) (by kernel_rfl) (fun _ _ _ h => h) (by rfl) ?yar17 ?_
  case yar17 => (intro w' hw'; go_simp; try (with_reducible rfl))
  simp only [Act.put]; try simp only [List.setIfInBounds_toArray]; try simp only [List.set_cons_zero, List.set_cons_succ]
  refine wpAnyL_done (by kernel_rfl) ?_ _
  go_wp2
  go_ret
  have hz : (w4.alloc (.cells (flatC [p1.cells.toArray, p2.cells.toArray, p3.cells.toArray, p4.cells.toArray]).toArray 110 (0, 0))).heap.size = w4.heap.size + 1 := World.size_alloc _ _
  have T4 : Later w4 (w4.alloc (.cells (flatC [p1.cells.toArray, p2.cells.toArray, p3.cells.toArray, p4.cells.toArray]).toArray 110 (0, 0))) := Later.alloc _ _
  have T3 := K4.out.trans T4
  have T2 := K3.out.trans T3
  have T1 := K2.out.trans T2
  have z1 := Below.size T1
  have z2 := Below.size T2
  have z3 := Below.size T3
  have z4 := Below.size T4
  have zd : w.drew.heap.size = w.heap.size := rfl
  have y1 := Below.size A1.out
  have y2 := Below.size A2.out
  have y3 := Below.size A3.out
  have y4 := Below.size A4.out
  refine ⟨_, [p1, p2, p3, p4], rfl, rfl, parts_new _ 4 _ _ rfl (Below.size A4.out) (by omega), (A4.out).trans T4, ?_, ?_⟩
  · intro St m hm hc
    exact (All2.cons (WrOK.part (W1.out St m.rerr hm.rerr (fun w hw => (hc w hw).1)) (by omega) (by omega) (Nat.le_refl _) T1) (All2.cons (WrOK.part (W2.out St m.rsaga hm.rsaga (fun w hw => (hc w hw).2.1)) (by omega) (by omega) (Nat.le_refl _) T2) (All2.cons (WrOK.part (W3.out St m.rstate hm.rstate (fun w hw => (hc w hw).2.2.1)) (by omega) (by omega) (Nat.le_refl _) T3) (All2.cons (WrOK.part (W4.out St m.rstep hm.rstep (fun w hw => (hc w hw).2.2.2)) (by omega) (by omega) (Nat.le_refl _) T4) All2.nil))))
  · intro Inv sz hI hpl
    exact (All2.cons ⟨N1.out, RdOK.part (R1.out MsgD Inv sz _ hI hpl.rerr) (by omega) (by omega) (Nat.le_refl _) T1⟩ (All2.cons ⟨N2.out, RdOK.part (R2.out MsgD Inv sz _ hI hpl.rsaga) (by omega) (by omega) (Nat.le_refl _) T2⟩ (All2.cons ⟨N3.out, RdOK.part (R3.out MsgD Inv sz _ hI hpl.rstate) (by omega) (by omega) (Nat.le_refl _) T3⟩ (All2.cons ⟨N4.out, RdOK.part (R4.out MsgD Inv sz _ hI hpl.rstep) (by omega) (by omega) (Nat.le_refl _) T4⟩ All2.nil))))

set_option maxHeartbeats 8000000 in
set_option maxRecDepth 100000 in
theorem commandParts_any {w : World} {g o : Nat} (hg : g < w.heap.size) : Calls Tryz.prog 70 #[.pointer (some ⟨g, o, none⟩)] w (PartsIs 6 (CmdW g o) w) := by
  obtain ⟨i0, hi, hz0, hz1, _⟩ := info_parts Tryz.infoPart
  have HG := hide hg
  have L0 : Hid (Later w w.drew) := Later.drew w
  clear hg
  go_enter Tryz.func70, Tryz.ntmps70
  go_wp2
  refine wp_region_L (by kernel_rfl) ?_
  refine wpAnyL_take (i := 0) (d := some 3) (v := ?vac0) rfl rfl (by kernel_rfl) (by kernel_rfl) (by kernel_rfl) (fun _ _ _ h => h) (by rfl) ?yac0 ?_
  case yac0 => (intro w' hw'; go_simp; try (with_reducible rfl))
  simp only [Act.put]; try simp only [List.setIfInBounds_toArray]; try simp only [List.set_cons_zero, List.set_cons_succ]
  refine wpAnyL_take (i := 1) (d := some 4) (v := ?vac1) rfl rfl (by kernel_rfl) (by kernel_rfl) (by kernel_rfl) (fun _ _ _ h => h) (by rfl) ?yac1 ?_
  case yac1 => (intro w' hw'; go_simp; try (with_reducible rfl))
  simp only [Act.put]; try simp only [List.setIfInBounds_toArray]; try simp only [List.set_cons_zero, List.set_cons_succ]
  refine wpAnyL_take (i := 2) (d := some 5) (v := ?vac2) rfl rfl (by kernel_rfl) (by kernel_rfl) (by kernel_rfl) (fun _ _ _ h => h) (by rfl) ?yac2 ?_
  case yac2 => (intro w' hw'; go_simp; try (with_reducible rfl))
  simp only [Act.put]; try simp only [List.setIfInBounds_toArray]; try simp only [List.set_cons_zero, List.set_cons_succ]
  refine wpAnyL_take (i := 4) (d := some 7) (v := ?vac4) rfl rfl (by kernel_rfl) (by kernel_rfl) (by kernel_rfl) (fun _ _ _ h => h) (by rfl) ?yac4 ?_
  case yac4 => (intro w' hw'; go_simp; try (with_reducible rfl))
  simp only [Act.put]; try simp only [List.setIfInBounds_toArray]; try simp only [List.set_cons_zero, List.set_cons_succ]
  refine wpAnyL_take (i := 5) (d := some 8) (v := ?vac5) rfl rfl (by kernel_rfl) (by kernel_rfl) (by kernel_rfl) (fun _ _ _ h => h) (by rfl) ?yac5 ?_
  case yac5 => (intro w' hw'; go_simp; try (with_reducible rfl))
  simp only [Act.put]; try simp only [List.setIfInBounds_toArray]; try simp only [List.set_cons_zero, List.set_cons_succ]
  refine wpAnyL_take (i := 6) (d := some 9) (v := ?vac6) rfl rfl (by kernel_rfl) (by kernel_rfl) (by kernel_rfl) (fun _ _ _ h => h) (by rfl) ?yac6 ?_
  case yac6 => (intro w' hw'; go_simp; try (with_reducible rfl))
  simp only [Act.put]; try simp only [List.setIfInBounds_toArray]; try simp only [List.set_cons_zero, List.set_cons_succ]
  refine wpAnyL_take (i := 8) (d := some 11) (v := ?vac8) rfl rfl (by kernel_rfl) (by kernel_rfl) (by kernel_rfl) (fun _ _ _ h => h) (by rfl) ?yac8 ?_
  case yac8 => (intro w' hw'; go_simp; try (with_reducible rfl))
  simp only [Act.put]; try simp only [List.setIfInBounds_toArray]; try simp only [List.set_cons_zero, List.set_cons_succ]
  refine wpAnyL_take (i := 9) (d := some 12) (v := ?vac9) rfl rfl (by kernel_rfl) (by kernel_rfl) (by kernel_rfl) (fun _ _ _ h => h) (by rfl) ?yac9 ?_
  case yac9 => (intro w' hw'; go_simp; try (with_reducible rfl))
  simp only [Act.put]; try simp only [List.setIfInBounds_toArray]; try simp only [List.set_cons_zero, List.set_cons_succ]
  refine wpAnyL_take (i := 10) (d := some 13) (v := ?vac10) rfl rfl (by kernel_rfl) (by kernel_rfl) (by kernel_rfl) (fun _ _ _ h => h) (by rfl) ?yac10 ?_
  case yac10 => (intro w' hw'; go_simp; try (with_reducible rfl))
  simp only [Act.put]; try simp only [List.setIfInBounds_toArray]; try simp only [List.set_cons_zero, List.set_cons_succ]
  refine wpAnyL_take (i := 12) (d := some 15) (v := ?vac12) rfl rfl (by kernel_rfl) (by kernel_rfl) (by kernel_rfl) (fun _ _ _ h => h) (by rfl) ?yac12 ?_
  case yac12 => (intro w' hw'; go_simp; try (with_reducible rfl))
  simp only [Act.put]; try simp only [List.setIfInBounds_toArray]; try simp only [List.set_cons_zero, List.set_cons_succ]
  refine wpAnyL_take (i := 13) (d := some 16) (v := ?vac13) rfl rfl (by kernel_rfl) (by kernel_rfl) (by kernel_rfl) (fun _ _ _ h => h) (by rfl) ?yac13 ?_
  case yac13 => (intro w' hw'; go_simp; try (with_reducible rfl))
  simp only [Act.put]; try simp only [List.setIfInBounds_toArray]; try simp only [List.set_cons_zero, List.set_cons_succ]
  refine wpAnyL_take (i := 14) (d := some 17) (v := ?vac14) rfl rfl (by kernel_rfl) (by kernel_rfl) (by kernel_rfl) (fun _ _ _ h => h) (by rfl) ?yac14 ?_
  case yac14 => (intro w' hw'; go_simp; try (with_reducible rfl))
  simp only [Act.put]; try simp only [List.setIfInBounds_toArray]; try simp only [List.set_cons_zero, List.set_cons_succ]
  refine wpAnyL_take (i := 16) (d := some 19) (v := ?vac16) rfl rfl (by kernel_rfl) (by kernel_rfl) (by kernel_rfl) (fun _ _ _ h => h) (by rfl) ?yac16 ?_
  case yac16 => (intro w' hw'; go_simp; try (with_reducible rfl))
  simp only [Act.put]; try simp only [List.setIfInBounds_toArray]; try simp only [List.set_cons_zero, List.set_cons_succ]
  refine wpAnyL_take (i := 17) (d := some 20) (v := ?vac17) rfl rfl (by kernel_rfl) (by kernel_rfl) (by kernel_rfl) (fun _ _ _ h => h) (by rfl) ?yac17 ?_
  case yac17 => (intro w' hw'; go_simp; try (with_reducible rfl))
  simp only [Act.put]; try simp only [List.setIfInBounds_toArray]; try simp only [List.set_cons_zero, List.set_cons_succ]
  refine wpAnyL_take (i := 18) (d := some 21) (v := ?vac18) rfl rfl (by kernel_rfl) (by kernel_rfl) (by kernel_rfl) (fun _ _ _ h => h) (by rfl) ?yac18 ?_
  case yac18 => (intro w' hw'; go_simp; try (with_reducible rfl))
  simp only [Act.put]; try simp only [List.setIfInBounds_toArray]; try simp only [List.set_cons_zero, List.set_cons_succ]
  refine wpAnyL_take (i := 20) (d := some 23) (v := ?vac20) rfl rfl (by kernel_rfl) (by kernel_rfl) (by kernel_rfl) (fun _ _ _ h => h) (by rfl) ?yac20 ?_
  case yac20 => (intro w' hw'; go_simp; try (with_reducible rfl))
  simp only [Act.put]; try simp only [List.setIfInBounds_toArray]; try simp only [List.set_cons_zero, List.set_cons_succ]
  refine wpAnyL_take (i := 21) (d := some 24) (v := ?vac21) rfl rfl (by kernel_rfl) (by kernel_rfl) (by kernel_rfl) (fun _ _ _ h => h) (by rfl) ?yac21 ?_
  case yac21 => (intro w' hw'; go_simp; try (with_reducible rfl))
  simp only [Act.put]; try simp only [List.setIfInBounds_toArray]; try simp only [List.set_cons_zero, List.set_cons_succ]
  refine wpAnyL_take (i := 22) (d := some 25) (v := ?vac22) rfl rfl (by kernel_rfl) (by kernel_rfl) (by kernel_rfl) (fun _ _ _ h => h) (by rfl) ?yac22 ?_
  case yac22 => (intro w' hw'; go_simp; try (with_reducible rfl))
  simp only [Act.put]; try simp only [List.setIfInBounds_toArray]; try simp only [List.set_cons_zero, List.set_cons_succ]
  refine wpAnyL_only (i := 3) rfl (by kernel_rfl) (by rfl) fun K hK => ?_
  go_simp
  refine (num_any9 (num := 1) (g := g) (o := o) (one_i64 (by omega) (by omega)) (by have h2 := HG.out; exact h2)).mono ?_
  rintro e w1 ⟨p1, rfl, hn, l1, hw1, hr1⟩
  refine hK.out _ _ l1 ?_
  have W1 := hide hw1
  have R1 := hide hr1
  have N1 := hide hn
  have K1 := hide l1
  have A1 := hide ((Later.drew w).trans l1)
  clear hn hw1 hr1 l1
  clear hK K
  try (simp only [Act.put]; try simp only [List.setIfInBounds_toArray]; try simp only [List.set_cons_zero, List.set_cons_succ])
  refine wpAnyL_only (i := 7) rfl (by kernel_rfl) (by rfl) fun K hK => ?_
  go_simp
  refine (num_any9 (num := 2) (g := g) (o := (o + 1)) (one_i64 (by omega) (by omega)) (by have h1 := Below.size A1.out; have h2 := HG.out; omega)).mono ?_
  rintro e w2 ⟨p2, rfl, hn, l2, hw2, hr2⟩
  refine hK.out _ _ l2 ?_
  have W2 := hide hw2
  have R2 := hide hr2
  have N2 := hide hn
  have K2 := hide l2
  have A2 := hide (A1.out.trans l2)
  clear hn hw2 hr2 l2
  clear hK K
  try (simp only [Act.put]; try simp only [List.setIfInBounds_toArray]; try simp only [List.set_cons_zero, List.set_cons_succ])
  refine wpAnyL_only (i := 11) rfl (by kernel_rfl) (by rfl) fun K hK => ?_
  go_simp
  refine (num_any9 (num := 3) (g := g) (o := (o + 2)) (one_i64 (by omega) (by omega)) (by have h1 := Below.size A2.out; have h2 := HG.out; omega)).mono ?_
  rintro e w3 ⟨p3, rfl, hn, l3, hw3, hr3⟩
  refine hK.out _ _ l3 ?_
  have W3 := hide hw3
  have R3 := hide hr3
  have N3 := hide hn
  have K3 := hide l3
  have A3 := hide (A2.out.trans l3)
  clear hn hw3 hr3 l3
  clear hK K
  try (simp only [Act.put]; try simp only [List.setIfInBounds_toArray]; try simp only [List.set_cons_zero, List.set_cons_succ])
  refine wpAnyL_only (i := 15) rfl (by kernel_rfl) (by rfl) fun K hK => ?_
  go_simp
  refine (num_any9 (num := 4) (g := g) (o := (o + 3)) (one_i64 (by omega) (by omega)) (by have h1 := Below.size A3.out; have h2 := HG.out; omega)).mono ?_
  rintro e w4 ⟨p4, rfl, hn, l4, hw4, hr4⟩
  refine hK.out _ _ l4 ?_
  have W4 := hide hw4
  have R4 := hide hr4
  have N4 := hide hn
  have K4 := hide l4
  have A4 := hide (A3.out.trans l4)
  clear hn hw4 hr4 l4
  clear hK K
  try (simp only [Act.put]; try simp only [List.setIfInBounds_toArray]; try simp only [List.set_cons_zero, List.set_cons_succ])
  refine wpAnyL_only (i := 19) rfl (by kernel_rfl) (by rfl) fun K hK => ?_
  go_simp
  refine (num_any9 (num := 5) (g := g) (o := (o + 4)) (one_i64 (by omega) (by omega)) (by have h1 := Below.size A4.out; have h2 := HG.out; omega)).mono ?_
  rintro e w5 ⟨p5, rfl, hn, l5, hw5, hr5⟩
  refine hK.out _ _ l5 ?_
  have W5 := hide hw5
  have R5 := hide hr5
  have N5 := hide hn
  have K5 := hide l5
  have A5 := hide (A4.out.trans l5)
  clear hn hw5 hr5 l5
  clear hK K
  try (simp only [Act.put]; try simp only [List.setIfInBounds_toArray]; try simp only [List.set_cons_zero, List.set_cons_succ])
  refine wpAnyL_only (i := 23) rfl (by kernel_rfl) (by rfl) fun K hK => ?_
  go_simp
  refine (flag_any (num := 6) (g := g) (o := (o + 5)) (one_i64 (by omega) (by omega)) (by have h1 := Below.size A5.out; have h2 := HG.out; omega)).mono ?_
  rintro e w6 ⟨p6, rfl, hn, l6, hw6, hr6⟩
  refine hK.out _ _ l6 ?_
  have W6 := hide hw6
  have R6 := hide hr6
  have N6 := hide hn
  have K6 := hide l6
  have A6 := hide (A5.out.trans l6)
  clear hn hw6 hr6 l6
  clear hK K
  try (simp only [Act.put]; try simp only [List.setIfInBounds_toArray]; try simp only [List.set_cons_zero, List.set_cons_succ])
  refine wpAnyL_only (i := 24) rfl (by kernel_rfl) (by rfl) fun K hK => ?_
  refine wp_buildSlice_many 63 110 _ 6 (by rfl) i0 _ 3 Tryz.underlying63 hi hz0 hz1 (by omega) (by omega) (by omega) [p1.cells.toArray, p2.cells.toArray, p3.cells.toArray, p4.cells.toArray, p5.cells.toArray, p6.cells.toArray] (by rfl) (by rfl) (by intro v hv; simp only [List.mem_cons, List.not_mem_nil, or_false] at hv; rcases hv with rfl | rfl | rfl | rfl | rfl | rfl <;> rfl) ?_
  refine hK.out _ _ (show Later w6 (w6.alloc (.cells (flatC [p1.cells.toArray, p2.cells.toArray, p3.cells.toArray, p4.cells.toArray, p5.cells.toArray, p6.cells.toArray]).toArray 110 (0, 0))) from Later.alloc _ _) (?_ : wpAnyL _ _ _ _ _ _ (Act.put _ (some 27) _) _)
  clear hK K
  try (simp only [Act.put]; try simp only [List.setIfInBounds_toArray]; try simp only [List.set_cons_zero, List.set_cons_succ])
  refine wpAnyL_take (i := 25) (d := some 2) (v := ?vac25) rfl rfl (by kernel_rfl) (by kernel_rfl) (by kernel_rfl) (fun _ _ _ h => h) (by rfl) ?yac25 ?_
  case yac25 => (intro w' hw'; go_simp; try (with_reducible rfl))
  simp only [Act.put]; try simp only [List.setIfInBounds_toArray]; try simp only [List.set_cons_zero, List.set_cons_succ]
  refine wpAnyL_done (by kernel_rfl) ?_ _
  go_wp2
  go_ret
  have hz : (w6.alloc (.cells (flatC [p1.cells.toArray, p2.cells.toArray, p3.cells.toArray, p4.cells.toArray, p5.cells.toArray, p6.cells.toArray]).toArray 110 (0, 0))).heap.size = w6.heap.size + 1 := World.size_alloc _ _
  have T6 : Later w6 (w6.alloc (.cells (flatC [p1.cells.toArray, p2.cells.toArray, p3.cells.toArray, p4.cells.toArray, p5.cells.toArray, p6.cells.toArray]).toArray 110 (0, 0))) := Later.alloc _ _
  have T5 := K6.out.trans T6
  have T4 := K5.out.trans T5
  have T3 := K4.out.trans T4
  have T2 := K3.out.trans T3
  have T1 := K2.out.trans T2
  have z1 := Below.size T1
  have z2 := Below.size T2
  have z3 := Below.size T3
  have z4 := Below.size T4
  have z5 := Below.size T5
  have z6 := Below.size T6
  have zd : w.drew.heap.size = w.heap.size := rfl
  have y1 := Below.size A1.out
  have y2 := Below.size A2.out
  have y3 := Below.size A3.out
  have y4 := Below.size A4.out
  have y5 := Below.size A5.out
  have y6 := Below.size A6.out
  refine ⟨_, [p1, p2, p3, p4, p5, p6], rfl, rfl, parts_new _ 6 _ _ rfl (Below.size A6.out) (by omega), (A6.out).trans T6, ?_, ?_⟩
  · intro St m hm hc
    exact (All2.cons (WrOK.part (W1.out St m.cview hm.cview (fun w hw => (hc w hw).1)) (by omega) (by omega) (Nat.le_refl _) T1) (All2.cons (WrOK.part (W2.out St m.cstub hm.cstub (fun w hw => (hc w hw).2.1)) (by omega) (by omega) (Nat.le_refl _) T2) (All2.cons (WrOK.part (W3.out St m.csaga hm.csaga (fun w hw => (hc w hw).2.2.1)) (by omega) (by omega) (Nat.le_refl _) T3) (All2.cons (WrOK.part (W4.out St m.cstep hm.cstep (fun w hw => (hc w hw).2.2.2.1)) (by omega) (by omega) (Nat.le_refl _) T4) (All2.cons (WrOK.part (W5.out St m.ctry hm.ctry (fun w hw => (hc w hw).2.2.2.2.1)) (by omega) (by omega) (Nat.le_refl _) T5) (All2.cons (WrOK.part (W6.out St m.cback (fun w hw => (hc w hw).2.2.2.2.2)) (by omega) (by omega) (Nat.le_refl _) T6) All2.nil))))))
  · intro Inv sz hI hpl
    exact (All2.cons ⟨N1.out, RdOK.part (R1.out MsgD Inv sz _ hI hpl.cview) (by omega) (by omega) (Nat.le_refl _) T1⟩ (All2.cons ⟨N2.out, RdOK.part (R2.out MsgD Inv sz _ hI hpl.cstub) (by omega) (by omega) (Nat.le_refl _) T2⟩ (All2.cons ⟨N3.out, RdOK.part (R3.out MsgD Inv sz _ hI hpl.csaga) (by omega) (by omega) (Nat.le_refl _) T3⟩ (All2.cons ⟨N4.out, RdOK.part (R4.out MsgD Inv sz _ hI hpl.cstep) (by omega) (by omega) (Nat.le_refl _) T4⟩ (All2.cons ⟨N5.out, RdOK.part (R5.out MsgD Inv sz _ hI hpl.ctry) (by omega) (by omega) (Nat.le_refl _) T5⟩ (All2.cons ⟨N6.out, RdOK.part (R6.out MsgD Inv sz _ hI hpl.cback) (by omega) (by omega) (Nat.le_refl _) T6⟩ All2.nil))))))
end Go.Proofs.YtehiaeihkdfclaaGreatDoor
