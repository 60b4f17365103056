/- The document's bag: New, at, Look, Take, Put, Ids, To, Twice, Clear. -/
import Derived.Test.YtaimnhlpdkpobaaItems
import Derived.Test.YtaimnhlpdkpobaaLight
import Derived.Test.YtaimnhlpdkpobaaTake
import Derived.Test.YtaimnhlpdkpobaaOrderV2
import Derived.Test.YtaimnhlpdkpobaaLitW
import Derived.Test.YtaimnhlpdkpobaaInts
namespace Go.Proofs.Ytaimnhlpdkpobaa
open Go.RowKit
/- The document's bag: New, at, Look. -/

/-- The place of that number. -/
def idxQ : List (Int × MsgD) → Int → Option Nat
  | [], _ => none
  | x :: r, id => if x.1 = id then some 0 else (idxQ r id).map (· + 1)
def qAt (Q : List (Int × MsgD)) (id : Int) : Option MsgD := (Q.find? (fun x => x.1 == id)).map (·.2)
theorem idx_none : ∀ {Q : List (Int × MsgD)} {id : Int}, (∀ x ∈ Q, x.1 ≠ id) → idxQ Q id = none
  | [], _, _ => rfl
  | x :: r, id, h => by
    rw [idxQ, if_neg (h x (by simp)), idx_none fun y hy => h y (by simp [hy])]
    rfl
theorem idx_some : ∀ {Q : List (Int × MsgD)} {id : Int} {k : Nat} {x : Int × MsgD}, Q[k]? = some x → x.1 = id → (∀ y ∈ Q.take k, y.1 ≠ id) → idxQ Q id = some k
  | [], _, _, _, h, _, _ => by simp at h
  | y :: r, id, 0, x, h, hx, _ => by
    obtain rfl : y = x := by simpa using h
    rw [idxQ, if_pos hx]
  | y :: r, id, k + 1, x, h, hx, hn => by
    rw [idxQ, if_neg (hn y (by simp)), idx_some (Q := r) (k := k) (by simpa using h) hx fun z hz => hn z (by simp [hz])]
    rfl
theorem idx_at : ∀ {Q : List (Int × MsgD)} {id : Int} {k : Nat}, idxQ Q id = some k → ∃ x, Q[k]? = some x ∧ x.1 = id ∧ qAt Q id = some x.2
  | [], _, _, h => by cases h
  | y :: r, id, k, h => by
    unfold idxQ at h
    by_cases hy : y.1 = id
    · rw [if_pos hy] at h
      obtain rfl : 0 = k := Option.some.inj h
      exact ⟨y, rfl, hy, by simp [qAt, hy]⟩
    · rw [if_neg hy] at h
      rcases hr : idxQ r id with _ | j
      · rw [hr] at h; cases h
      · rw [hr] at h
        obtain rfl : j + 1 = k := Option.some.inj h
        obtain ⟨x, h1, h2, h3⟩ := idx_at hr
        refine ⟨x, by simpa using h1, h2, ?_⟩
        have e : (y.1 == id) = false := by simpa using hy
        unfold qAt at h3 ⊢
        rw [List.find?_cons, e]
        exact h3
theorem idx_no : ∀ {Q : List (Int × MsgD)} {id : Int}, idxQ Q id = none → qAt Q id = none
  | [], _, _ => rfl
  | y :: r, id, h => by
    unfold idxQ at h
    by_cases hy : y.1 = id
    · rw [if_pos hy] at h; cases h
    · rw [if_neg hy] at h
      have hr : idxQ r id = none := by
        rcases hr : idxQ r id with _ | j
        · rfl
        · rw [hr] at h; cases h
      have e : (y.1 == id) = false := by simpa using hy
      have h3 := idx_no hr
      unfold qAt at h3 ⊢
      rw [List.find?_cons, e]
      exact h3
/-- Without that number. -/
def dropQ (Q : List (Int × MsgD)) (id : Int) : List (Int × MsgD) := Q.filter fun x => !(x.1 == id)
def Rise (Q : List (Int × MsgD)) : Prop := Q.Pairwise fun x y => x.1 < y.1
theorem drop_none : ∀ {Q : List (Int × MsgD)} {id : Int}, (∀ x ∈ Q, x.1 ≠ id) → dropQ Q id = Q := by
  intro Q id h
  unfold dropQ
  rw [List.filter_eq_self]
  intro x hx
  simpa using h x hx
theorem drop_idx : ∀ {Q : List (Int × MsgD)} {id : Int} {k : Nat}, Rise Q → idxQ Q id = some k → dropQ Q id = Q.take k ++ Q.drop (k + 1)
  | [], _, _, _, h => by cases h
  | y :: r, id, k, hr, h => by
    unfold idxQ at h
    have hp := List.pairwise_cons.1 hr
    by_cases hy : y.1 = id
    · rw [if_pos hy] at h
      obtain rfl : 0 = k := Option.some.inj h
      have h1 := drop_none (Q := r) (id := id) fun x hx => by have := hp.1 x hx; omega
      unfold dropQ at h1 ⊢
      rw [List.filter_cons, if_neg (by simp [hy]), h1]
      rfl
    · rw [if_neg hy] at h
      rcases hq : idxQ r id with _ | j
      · rw [hq] at h; cases h
      · rw [hq] at h
        obtain rfl : j + 1 = k := Option.some.inj h
        have h1 := drop_idx hp.2 hq
        unfold dropQ at h1 ⊢
        rw [List.filter_cons, if_pos (by simpa using hy), h1]
        rfl

theorem refnew_no (most : Int) (w : World) (h : most < 0 ∨ 10000 < most) : Calls Try.prog 12 #[.int .i64 most] w fun e w' => e = .returned (.pointer none) ∧ w = w' := by
  by_cases h0 : most < 0
  · have hd : decide (most < 0) = true := by simpa using h0
    clear h h0
    go_enter Try.func12, Try.ntmps12
    go_wp2
    go_ret
    exact ⟨rfl, rfl⟩
  · have h1 : 10000 < most := h.resolve_left h0
    have hd : decide (most < 0) = false := by simpa using h0
    have hd1 : decide (10000 < most) = true := by simpa using h1
    clear h h0 h1
    go_enter Try.func12, Try.ntmps12
    go_wp2
    go_ret
    exact ⟨rfl, rfl⟩
theorem refnew_yes (most : Int) (w : World) (h0 : 0 ≤ most) (h1 : most ≤ 10000) : Calls Try.prog 12 #[.int .i64 most] w fun e w' => e = .returned (.pointer (some ⟨w.heap.size, 0, none⟩)) ∧ w' = w.alloc (.cells #[.int .i64 most, .int .i64 0, .slice none 0 0] 79 (0, 0)) := by
  have hd : decide (most < 0) = false := by simpa using h0
  have hd1 : decide (10000 < most) = false := by simpa using h1
  go_enter Try.func12, Try.ntmps12
  go_wp2
  go_ret
  exact ⟨rfl, rfl⟩

def idxV (o : Option Nat) : Int := match o with | none => -1 | some k => (k : Int)
theorem box_at {w : World} {g : Nat} {cs : List Value} {t : TypeId} (h : w.heap[g]? = some (.cells cs.toArray t (0, 0))) (k : Nat) (v : Value) (hk : cs[k]? = some v) : w.cell? ⟨g, k, none⟩ = some v := by
  rw [cell_of_row w g k _ _ _ h]
  simpa using hk
set_option maxHeartbeats 2000000 in
set_option maxRecDepth 100000 in
theorem at_any {F : Nat → Prop} {r : Nat} {most : Int} {last : Nat} {Q : List (Int × MsgD)} (id : Int) (w : World) (h : RB F w r most last Q) :
    Calls Try.prog 36 #[.pointer (some ⟨r, 0, none⟩), .int .i64 id] w fun e w' => e = .returned (.int .i64 (idxV (idxQ Q id))) ∧ Below w.heap.size w w' := by
  obtain ⟨v, ps, h⟩ := h
  obtain ⟨A, cp, rfl, hn1, hn2⟩ := h.shape
  have hpl := h.plen
  have hql := h.len
  have hsay := h.says
  obtain ⟨_, _, c2, _, _⟩ := h.cells
  rw [← hpl] at c2 h
  have H := hide h
  have HS := hide hsay
  have hps : ps.length ≤ 1000 := by omega
  clear h hsay hn1 hn2 hpl hql
  go_enter Try.func36, Try.ntmps36
  go_wp2
  go_loopw [12] (fun j wr => ∃ k : Nat, k ≤ ps.length ∧ j = .int .i64 (k : Int) ∧ (∀ y ∈ Q.take k, y.1 ≠ id) ∧ Below w.heap.size w wr) (fun j _ => ps.length - (Go.RowKit.intOf j).toNat)
  case atStart => exact ⟨0, by omega, rfl, by simp, Below.refl _ _⟩
  case round =>
    obtain ⟨k, hk, rfl, hno, hb⟩ := hrel
    have HB := hide hb
    have HNO := hide hno
    clear hb hno
    by_cases hkn : k < ps.length
    · obtain ⟨p, b, off, c', hx, hv, _, _, _, hr, hli⟩ := ((H.out.later HB.out).items).at_ hkn
      obtain ⟨rfl, rfl⟩ : A = some ⟨b, off, none⟩ ∧ cp = c' := by injection hv with e1 _ e3; exact ⟨e1, e3⟩
      have HR := hide hr
      have HQ : Hid (Q[k]? = some p.key) := by
        show _ = _
        rw [← HS.out, List.getElem?_map, hx]
        rfl
      have HZ : Hid ((wr.alloc (.cells zitem 81 (0, 0))).heap[wr.heap.size]? = some (.cells zitem 81 (0, 0))) := heap_alloc_new _ _
      obtain ⟨k1, k2, k3⟩ := hli.cell
      obtain ⟨pid, hpid⟩ : ∃ x, x = p.id := ⟨_, rfl⟩
      have HI := hide hpid
      clear hx hv hr hli
      by_cases he : pid = id
      · have ht : (pid == id) = true := by simpa using he
        have HE := hide (idx_some HQ.out (hpid.symm.trans he) HNO.out)
        clear he hpid
        go_wp2_with (first
          | (refine wpList_load_mid (by rfl) 81 _ (by rfl) b (off + k * 35) (by rfl) _ _ HR.out Try.underlying81 (by rfl) (by kernel_rfl) ?_)
          | (refine wpList_store_box (by rfl) 81 _ _ (by rfl) (wr.heap.size) 0 (p.cells.toArray) (by rfl) (by rfl) 81 (zitem) (HZ.out) (by kernel_rfl) (by exact Nat.le_of_ble_eq_true rfl) (by exact item_one p k1 k2 k3) ?_; intro w2 hb2 hg2; rw [put_item] at hb2; have f0 := box_at hb2 0 (.int .i64 p.id) (by rfl); rw [← HI.out] at f0))
        have HB2 : Hid (Below w.heap.size w w2) := HB.out.trans ((((Below.refl _ _).alloc (Nat.le_refl _) _).grown hg2 (by simp) (fun k hk => by have := Option.some.inj hk; omega)).mono HB.out.size)
        clear hb2 hg2 f0
        go_ret
        exact ⟨by rw [HE.out]; rfl, HB2.out⟩
      · have ht : (pid == id) = false := by simpa using he
        have HNO2 : Hid (∀ y ∈ Q.take (k + 1), y.1 ≠ id) := fun y hy => by
          rw [List.take_add_one, HQ.out] at hy
          rcases List.mem_append.1 hy with hy | hy
          · exact HNO.out y hy
          · obtain rfl : y = p.key := by simpa using hy
            exact fun e => he (hpid.trans e)
        clear he hpid
        go_wp2_with (first
          | (refine wpList_load_mid (by rfl) 81 _ (by rfl) b (off + k * 35) (by rfl) _ _ HR.out Try.underlying81 (by rfl) (by kernel_rfl) ?_)
          | (refine wpList_store_box (by rfl) 81 _ _ (by rfl) (wr.heap.size) 0 (p.cells.toArray) (by rfl) (by rfl) 81 (zitem) (HZ.out) (by kernel_rfl) (by exact Nat.le_of_ble_eq_true rfl) (by exact item_one p k1 k2 k3) ?_; intro w2 hb2 hg2; rw [put_item] at hb2; have f0 := box_at hb2 0 (.int .i64 p.id) (by rfl); rw [← HI.out] at f0))
        have HB2 : Hid (Below w.heap.size w w2) := HB.out.trans ((((Below.refl _ _).alloc (Nat.le_refl _) _).grown hg2 (by simp) (fun k hk => by have := Option.some.inj hk; omega)).mono HB.out.size)
        clear hb2 hg2 f0
        go_roundw
        case rel => exact ⟨k + 1, by omega, by go_num, HNO2.out, HB2.out⟩
        case measure => simp [Go.RowKit.intOf]; omega
    · obtain rfl : k = ps.length := by omega
      have hf : decide (ps.length < ps.length) = false := by simp
      have HE : Hid (idxQ Q id = none) := idx_none fun x hx => HNO.out x (by rw [List.take_of_length_le (by rw [← HS.out, List.length_map]; exact Nat.le_refl _)]; exact hx)
      go_wp2
      go_ret
      exact ⟨by rw [HE.out]; rfl, HB.out⟩

/- The document's bag: Look. -/

def lookQ (Q : List (Int × MsgD)) (id : Int) : MsgD × Bool := match qAt Q id with | none => (.zero, false) | some m => (m, true)
theorem range_tail {w : World} {b o : Nat} {c : Value} {cs : List Value} (h : w.rangeAt b o (c :: cs)) : w.rangeAt b (o + 1) cs := fun j u hu => by
  rw [Nat.add_assoc, Nat.add_comm 1 j]
  exact h (j + 1) u (by simpa using hu)
/-- What Look of the document's tells. -/
def RLooked (F : Nat → Prop) (x : MsgD × Bool) (w : World) (e : Ending) (w' : World) : Prop :=
  ∃ s o i, e = .returned (.tuple #[.agg (x.1.cells s o i).toArray, .bool x.2]) ∧ Lists F w' x.1 s o i ∧ Below w.heap.size w w'
theorem zero_lists (F : Nat → Prop) (w : World) : Lists F w .zero (.slice none 0 0) (.slice none 0 0) (.slice none 0 0) := ⟨StepsAt.nil_ F w, OpsAt.nil_ F w, IncsAt.nil_ F w⟩
set_option maxHeartbeats 2000000 in
set_option maxRecDepth 100000 in
theorem reflook_any {F : Nat → Prop} {r : Nat} {most : Int} {last : Nat} {Q : List (Int × MsgD)} (id : Int) (w : World) (h : RB F w r most last Q) :
    Calls Try.prog 23 #[.pointer (some ⟨r, 0, none⟩), .int .i64 id] w (RLooked F (lookQ Q id) w) := by
  have CA := hide (fun w' (hb : Below w.heap.size w w') => at_any id w' (h.later hb))
  rcases hk : idxQ Q id with _ | k
  · have HL : Hid (lookQ Q id = (.zero, false)) := by show _ = _; unfold lookQ; rw [idx_no hk]
    rw [hk] at CA
    clear hk h
    go_enter Try.func23, Try.ntmps23
    go_wp2_with (fail)
    refine (CA.out _ ((Below.refl _ _).alloc (Nat.le_refl _) _)).mono ?_
    rw [show idxV none = -1 from rfl]
    rintro e w1 ⟨rfl, hb⟩
    have hlt : w.heap.size < w1.heap.size := Nat.lt_of_lt_of_le (by simp) hb.size
    have HZ : Hid (w1.heap[w.heap.size]? = some (.cells zcells 42 (0, 0))) := (hb.block _ (by simp)).trans (heap_alloc_new _ _)
    have HB : Hid (Below w.heap.size w w1) := ((Below.refl _ _).alloc (Nat.le_refl _) _).trans (hb.mono (by simp))
    clear hb
    go_wp2_with (refine wpList_store_box (by rfl) 42 _ _ (by rfl) (w.heap.size) 0 (zcells) (by rfl) (by rfl) 42 (zcells) HZ.out (by kernel_rfl) (by exact Nat.le_of_ble_eq_true rfl) (by exact zcells_one) ?_; intro w4 hb4 hg4; rw [put_zero] at hb4)
    refine bodyPost_ret (results_box2 Try.results23 _ _ (w.heap.size) 42 _ _ (by rfl) (hb4) Try.underlying42 (by rfl) (by kernel_rfl) _ (by rfl)) (by rfl) ?_
    rw [HL.out]
    exact ⟨_, _, _, rfl, zero_lists F w4, HB.out.grown hg4 (Nat.le_of_lt hlt) (fun k hk => by have := Option.some.inj hk; omega)⟩
  · obtain ⟨x, hx1, hx2, hx3⟩ := idx_at hk
    have HL : Hid (lookQ Q id = (x.2, true)) := by show _ = _; unfold lookQ; rw [hx3]
    obtain ⟨v, ps, h⟩ := h
    obtain ⟨A, cp, rfl, hn1, hn2⟩ := h.shape
    have hpl := h.plen
    have hkp : k < ps.length := by
      have := (List.getElem?_eq_some_iff.1 hx1).1
      omega
    have hql := h.len
    obtain ⟨n0, hn0⟩ : ∃ n0, Q.length = n0 := ⟨_, rfl⟩
    have HC2 : Hid (∀ w', Below w.heap.size w w' → w'.cell? ⟨r, 2, none⟩ = some (.slice A n0 cp)) := fun w' hb => by rw [← hn0]; exact (h.later hb).cells.2.2.1
    have HPK : Hid (ps[k]?.map ItemV.key = some x) := by show _ = _; rw [← hx1, ← h.says, List.getElem?_map]
    have H := hide h
    rw [hk] at CA
    have hkn : k < n0 := by omega
    have hn5 : n0 ≤ 1000 := by omega
    clear hk h hx1 hx2 hx3 hn1 hn2 hpl hql
    go_enter Try.func23, Try.ntmps23
    go_wp2_with (fail)
    refine (CA.out _ ((Below.refl _ _).alloc (Nat.le_refl _) _)).mono ?_
    rw [show idxV (some k) = (k : Int) from rfl]
    rintro e w1 ⟨rfl, hb⟩
    have hlt : w.heap.size < w1.heap.size := Nat.lt_of_lt_of_le (by simp) hb.size
    have HZ : Hid (w1.heap[w.heap.size]? = some (.cells zcells 42 (0, 0))) := (hb.block _ (by simp)).trans (heap_alloc_new _ _)
    have HB : Hid (Below w.heap.size w w1) := ((Below.refl _ _).alloc (Nat.le_refl _) _).trans (hb.mono (by simp))
    clear hb
    obtain ⟨p, b, off, c', hp, hv, _, _, _, hr, hli⟩ := ((H.out.later HB.out).items).at_ hkp
    rw [H.out.plen, hn0] at hv
    obtain ⟨rfl, rfl⟩ : A = some ⟨b, off, none⟩ ∧ cp = c' := by injection hv with e1 _ e3; exact ⟨e1, e3⟩
    have HP : Hid (p.key = x) := by have h1 := HPK.out; rw [hp] at h1; exact Option.some.inj h1
    have HM : Hid (p ∈ ps) := List.mem_of_getElem? hp
    obtain ⟨pid, m, s, o, i⟩ := p
    have HR : Hid (w1.rangeAt b (off + k * 35 + 1) (m.cells s o i)) := range_tail hr
    obtain ⟨k1, k2, k3⟩ := hli.cell
    have c2 := HC2.out _ HB.out
    have hd : decide ((k : Int) < 0) = false := by simp
    clear hp hv hr hli
    go_wp2_with (first
      | (refine wpList_load_mid (by rfl) 42 _ (by rfl) b (off + k * 35 + 1) (by rfl) _ _ HR.out Try.underlying42 (by rfl) (by kernel_rfl) ?_)
      | (refine wpList_store_box (by rfl) 42 _ _ (by rfl) (w.heap.size) 0 ((m.cells s o i).toArray) (by rfl) (by rfl) 42 (zcells) HZ.out (by kernel_rfl) (by exact Nat.le_of_ble_eq_true rfl) (by exact m.one k1 k2 k3) ?_; intro w4 hb4 hg4; rw [put_zmsg] at hb4))
    refine bodyPost_ret (results_box2 Try.results23 _ _ (w.heap.size) 42 _ _ (by rfl) (hb4) Try.underlying42 (by rfl) (by kernel_rfl) _ (by rfl)) (by rfl) ?_
    rw [HL.out, ← HP.out]
    refine ⟨s, o, i, rfl, ?_, HB.out.grown hg4 (Nat.le_of_lt hlt) (fun k hk => by have := Option.some.inj hk; omega)⟩
    have hb1 : Below w.heap.size w w4 := HB.out.grown hg4 (Nat.le_of_lt hlt) (fun k hk => by have := Option.some.inj hk; omega)
    exact (H.out.items.2 _ HM.out).kept (Kept.of_below hb1 _)

/- The document's bag: Take. -/

def takeQ (Q : List (Int × MsgD)) (id : Int) : MsgD × Int := match qAt Q id with | none => (.zero, 8) | some m => (m, 0)
theorem pre_keptL (F : Nat → Prop) : Pre (fun a b => Kept F a b) := ⟨fun w => Kept.refl F w, fun h k => h.trans k⟩
theorem emp_grown {N g : Nat} {w w' : World} (hg : w.grownBy w' (Value.ownBlock (.slice (some ⟨g, 0, none⟩) 0 0))) (h : N ≤ g) : Kept (fun i => i < N) w w' :=
  Kept.of_grown hg fun q e hq => by
    have e2 : g = q := by simpa [Value.ownBlock] using e
    have h3 : q < N := hq
    omega
theorem items_to {k n c : Nat} (hk : k ≤ n) (hn : n ≤ c) (A : Option Addr) (w : World) :
    (Instr.slice 77 (.slice A n c) none (some (.int .i64 (k : Int))) none).run Try.prog w = .ok (.slice A k c) w := by
  have ht : Try.prog.underlying 77 = some (.slice (Try.prog.elem 77)) := by kernel_rfl
  obtain ⟨i0, hi, hz0, hz1, hz2⟩ := info_parts (show (Try.prog.info? (Try.prog.elem 77)).map (fun i => (i.zero, i.size, i.bytes)) = some (some (.agg zitem), 35, 312) from by kernel_rfl)
  have h1 := run_slice_h (P := Try.prog) w 77 A n c ht .i64 (k : Int) (by omega) (by omega)
  rw [h1]
  have hs : (sizeOf (Try.prog.elem 77)).run Try.prog w = .ok 35 w := by simp [sizeOf, typeInfo, hi, hz1]
  rw [hs]
  simp only [Result.andThen, sliced, Int.toNat_natCast, Nat.sub_zero]
  rcases A with _ | a
  · simp
  · simp [Addr.add]
theorem exec_to {op : Oper} {a : Act} {w : World} (x z : Operand) (ho : op.op = .slice 77 x none (some z) none) (A : Option Addr) (n c hi : Nat) (hx : a.eval x = .slice A n c) (hz : a.eval z = .int .i64 (hi : Int)) (h1 : hi ≤ n) (h2 : n ≤ c) :
    (execOp a.eval op).run Try.prog w = .ok (.value (.slice A hi c)) w := by
  have ht : Try.prog.underlying 77 = some (.slice (Try.prog.elem 77)) := by kernel_rfl
  unfold execOp
  simp only [ho, hx, hz, Option.map_some, Option.map_none, Sem.run_bind, Sem.run_pure]
  rw [run_sliceAt_slice _ _ _ _ _ _ ht, items_to h1 h2]
  rfl
theorem exec_from {op : Oper} {a : Act} {w : World} (x y : Operand) (ho : op.op = .slice 77 x (some y) none none) (A : Option Addr) (n c lo : Nat) (v : Value) (hv : sliced A lo n c 35 = v) (hx : a.eval x = .slice A n c) (hy : a.eval y = .int .i64 (lo : Int)) (h1 : lo ≤ n) :
    (execOp a.eval op).run Try.prog w = .ok (.value v) w := by
  rw [← hv]
  have ht : Try.prog.underlying 77 = some (.slice (Try.prog.elem 77)) := by kernel_rfl
  obtain ⟨i0, hi0, hz0, hz1, hz2⟩ := info_parts (show (Try.prog.info? (Try.prog.elem 77)).map (fun i => (i.zero, i.size, i.bytes)) = some (some (.agg zitem), 35, 312) from by kernel_rfl)
  have hr := run_slice_l (P := Try.prog) w 77 A n c ht .i64 (lo : Int) (by omega) (by omega)
  have hs : (sizeOf (Try.prog.elem 77)).run Try.prog w = .ok 35 w := by simp [sizeOf, typeInfo, hi0, hz1]
  rw [hs] at hr
  simp only [Result.andThen, Int.toNat_natCast] at hr
  unfold execOp
  simp only [ho, hx, hy, Option.map_some, Option.map_none, Sem.run_bind, Sem.run_pure]
  rw [run_sliceAt_slice _ _ _ _ _ _ ht, hr]
  rfl
/-- What Take of the document's tells and leaves. -/
def RTaken (F : Nat → Prop) (r : Nat) (most : Int) (last : Nat) (Q : List (Int × MsgD)) (id : Int) (w : World) (e : Ending) (w' : World) : Prop :=
  ∃ s o i, e = .returned (.tuple #[.agg ((takeQ Q id).1.cells s o i).toArray, .int .i64 (takeQ Q id).2]) ∧ Lists F w' (takeQ Q id).1 s o i ∧ RB F w' r most last (dropQ Q id) ∧ w.grownBy w' (some r)
set_option maxHeartbeats 8000000 in
set_option maxRecDepth 100000 in
theorem reftake_any {F : Nat → Prop} {r : Nat} {most : Int} {last : Nat} {Q : List (Int × MsgD)} (id : Int) (w : World) (h : RB F w r most last Q) (hrise : Rise Q) :
    Calls Try.prog 16 #[.pointer (some ⟨r, 0, none⟩), .int .i64 id] w (RTaken F r most last Q id w) := by
  have CA := hide (fun w' (hb : Below w.heap.size w w') => at_any id w' (h.later hb))
  rcases hk : idxQ Q id with _ | k
  · have HT : Hid (takeQ Q id = (.zero, 8)) := by show _ = _; unfold takeQ; rw [idx_no hk]
    have HD : Hid (dropQ Q id = Q) := drop_none fun x hx he => by
      have h1 := idx_no hk
      unfold qAt at h1
      have h2 : Q.find? (fun x => x.1 == id) = none := by simpa using h1
      have h3 := List.find?_eq_none.1 h2 x hx
      simp [he] at h3
    have H := hide h
    rw [hk] at CA
    clear hk h
    go_enter Try.func16, Try.ntmps16
    go_wp2_with (fail)
    refine (CA.out _ ((Below.refl _ _).alloc (Nat.le_refl _) _)).mono ?_
    rw [show idxV none = -1 from rfl]
    rintro e w1 ⟨rfl, hb⟩
    have hlt : w.heap.size < w1.heap.size := Nat.lt_of_lt_of_le (by simp) hb.size
    have HZ : Hid (w1.heap[w.heap.size]? = some (.cells zcells 42 (0, 0))) := (hb.block _ (by simp)).trans (heap_alloc_new _ _)
    have HB : Hid (Below w.heap.size w w1) := ((Below.refl _ _).alloc (Nat.le_refl _) _).trans (hb.mono (by simp))
    clear hb
    go_wp2_with (refine wpList_store_box (by rfl) 42 _ _ (by rfl) (w.heap.size) 0 (zcells) (by rfl) (by rfl) 42 (zcells) HZ.out (by kernel_rfl) (by exact Nat.le_of_ble_eq_true rfl) (by exact zcells_one) ?_; intro w4 hb4 hg4; rw [put_zero] at hb4)
    refine bodyPost_ret (results_box2 Try.results16 _ _ (w.heap.size) 42 _ _ (by rfl) (hb4) Try.underlying42 (by rfl) (by kernel_rfl) _ (by rfl)) (by rfl) ?_
    have B4 : Below w.heap.size w w4 := HB.out.grown hg4 (Nat.le_of_lt hlt) (fun k hk => by have := Option.some.inj hk; omega)
    unfold RTaken
    rw [HT.out, HD.out]
    exact ⟨_, _, _, rfl, zero_lists F w4, H.out.later B4, grown_later B4 _⟩
  · obtain ⟨x, hx1, hx2, hx3⟩ := idx_at hk
    have HT : Hid (takeQ Q id = (x.2, 0)) := by show _ = _; unfold takeQ; rw [hx3]
    have HD : Hid (dropQ Q id = Q.take k ++ Q.drop (k + 1)) := drop_idx hrise hk
    obtain ⟨v, ps, h⟩ := h
    obtain ⟨A, cp, rfl, hn1, hn2⟩ := h.shape
    have hpl := h.plen
    have hkp : k < ps.length := by
      have := (List.getElem?_eq_some_iff.1 hx1).1
      omega
    have hql := h.len
    obtain ⟨n0, hn0⟩ : ∃ n0, Q.length = n0 := ⟨_, rfl⟩
    rw [hn0] at hn1 hpl h
    have HPK : Hid (ps[k]?.map ItemV.key = some x) := by show _ = _; rw [← hx1, ← h.says, List.getElem?_map]
    have H := hide h
    rw [hk] at CA
    have hkn : k < n0 := by omega
    have hn5 : n0 ≤ 1000 := by omega
    have HPL := hide hpl
    clear hk h hx1 hx2 hx3 hn2 hpl hql hn0
    go_enter Try.func16, Try.ntmps16
    go_wp2_with (fail)
    refine (CA.out _ ((Below.refl _ _).alloc (Nat.le_refl _) _)).mono ?_
    rw [show idxV (some k) = (k : Int) from rfl]
    rintro e w1 ⟨rfl, hb⟩
    have hlt : w.heap.size < w1.heap.size := Nat.lt_of_lt_of_le (by simp) hb.size
    have HZ : Hid (w1.heap[w.heap.size]? = some (.cells zcells 42 (0, 0))) := (hb.block _ (by simp)).trans (heap_alloc_new _ _)
    have HB : Hid (Below w.heap.size w w1) := ((Below.refl _ _).alloc (Nat.le_refl _) _).trans (hb.mono (by simp))
    clear hb
    obtain ⟨p, b, off, c', hp, hv, _, _, _, hr, hli⟩ := ((H.out.later HB.out).items).at_ hkp
    rw [HPL.out] at hv
    obtain ⟨rfl, rfl⟩ : A = some ⟨b, off, none⟩ ∧ cp = c' := by injection hv with e1 _ e3; exact ⟨e1, e3⟩
    have HP : Hid (p.key = x) := by have h1 := HPK.out; rw [hp] at h1; exact Option.some.inj h1
    have HM : Hid (p ∈ ps) := List.mem_of_getElem? hp
    obtain ⟨pid, m, s, o, i⟩ := p
    have HR : Hid (w1.rangeAt b (off + k * 35 + 1) (m.cells s o i)) := range_tail hr
    obtain ⟨k1, k2, k3⟩ := hli.cell
    obtain ⟨_, _, c2, _, _⟩ := (H.out.later HB.out).cells
    have hd : decide ((k : Int) < 0) = false := by simp
    clear hp hv hr hli
    go_wp2_with (first
      | (refine wpList_load_mid (by rfl) 42 _ (by rfl) b (off + k * 35 + 1) (by rfl) _ _ HR.out Try.underlying42 (by rfl) (by kernel_rfl) ?_)
      | (refine wpList_store_box (by rfl) 42 _ _ (by rfl) (w1.heap.size) 0 ((m.cells s o i).toArray) (by rfl) (by rfl) 42 (zcells) (heap_alloc_new w1 _) (by kernel_rfl) (by exact Nat.le_of_ble_eq_true rfl) (by exact m.one k1 k2 k3) ?_; intro w2 hb2 hg2; rw [put_zmsg] at hb2))
    have HX2 := hide hb2
    have HB2 : Hid (Below w.heap.size w w2) := (HB.out.alloc (Nat.le_of_lt hlt) _).grown hg2 (by simp; omega) (fun k hk => by have := Option.some.inj hk; omega)
    have HZ2 : Hid (w2.heap[w.heap.size]? = some (.cells zcells 42 (0, 0))) := (hg2.block _ (by simp; omega) (by simp; omega)).trans ((heap_alloc_old _ _ hlt).trans HZ.out)
    have hlt2 : w1.heap.size < w2.heap.size := lt_of_block hb2
    clear hb2 hg2 c2
    obtain ⟨vs, hvs⟩ : ∃ vs, sliced (some ⟨b, off, none⟩) (k + 1) n0 cp 35 = vs := ⟨_, rfl⟩
    obtain ⟨qs, hqs⟩ : ∃ qs, qs = ps.take k := ⟨_, rfl⟩
    obtain ⟨rs, hrs⟩ : ∃ rs, rs = ps.drop (k + 1) := ⟨_, rfl⟩
    have HQ1 : Hid (∀ w', Below w.heap.size w w' → ItemsIn F w' (.slice (some ⟨b, off, none⟩) k cp) qs) := fun w' hb => by rw [hqs]; exact (H.out.later hb).items.first (by omega)
    have HQ2 : Hid (∀ w', Below w.heap.size w w' → ItemsIn F w' vs rs) := fun w' hb => by rw [hrs, ← hvs]; exact (H.out.later hb).items.tail (by omega)
    have HQL : Hid (qs.length = k) := by show _ = _; rw [hqs, List.length_take]; omega
    have HRL : Hid (rs.length + k + 1 = n0) := by have h1 := HPL.out; show _ = _; rw [hrs, List.length_drop]; omega
    have HQS := hide hqs
    have HRS := hide hrs
    have HVS := hide hvs
    clear hqs hrs hvs
    have hr : r < w.heap.size := H.out.lt
    have HW := hide (H.out.later HB2.out)
    have HN2 : Hid (w.heap.size ≤ w2.heap.size) := HB2.out.size
    have HB0 : Hid (Below w2.heap.size w2 w2.drew) := (Below.refl _ _).drew
    have hr2 : r < w2.heap.size := by have := HN2.out; omega
    have HCK : Hid (∀ w', Kept (fun i => i < w2.heap.size) w2 w' → w'.cell? ⟨r, 2, none⟩ = some (.slice (some ⟨b, off, none⟩) n0 cp)) := fun w' hk => (World.cell?_of_block (hk.2 r hr2 hr2)).trans HW.out.cells.2.2.1
    refine wp_region_V (fun a b => Kept (fun i => i < w2.heap.size) a b) (fun j => j == 19) (by kernel_rfl) ?_
    refine wpAnyV_take (pre_keptL (fun i => i < w2.heap.size)) (i := 0) (d := some 22) (v := ?vatk0) rfl rfl (by kernel_rfl) (by kernel_rfl) (by kernel_rfl) (by kernel_rfl) (by kernel_rfl) (fun _ _ _ h => h) (by rfl) ?yatk0 ?_
    case yatk0 => (intro w' hw'; go_simp; try (with_reducible rfl))
    simp only [Act.put]; try simp only [List.setIfInBounds_toArray]; try simp only [List.set_cons_zero, List.set_cons_succ]
    refine wpAnyV_take (pre_keptL (fun i => i < w2.heap.size)) (i := 2) (d := some 24) (v := ?vatk2) rfl rfl (by kernel_rfl) (by kernel_rfl) (by kernel_rfl) (by kernel_rfl) (by kernel_rfl) (fun _ _ _ h => h) (by rfl) ?yatk2 ?_
    case yatk2 => (intro w' hw'; go_simp; try (with_reducible rfl))
    simp only [Act.put]; try simp only [List.setIfInBounds_toArray]; try simp only [List.set_cons_zero, List.set_cons_succ]
    refine wpAnyV_take (pre_keptL (fun i => i < w2.heap.size)) (i := 3) (d := some 25) (v := ?vatk3) rfl rfl (by kernel_rfl) (by kernel_rfl) (by kernel_rfl) (by kernel_rfl) (by kernel_rfl) (fun _ _ _ h => h) (by rfl) ?yatk3 ?_
    case yatk3 => (intro w' hw'; go_simp; try (with_reducible rfl))
    simp only [Act.put]; try simp only [List.setIfInBounds_toArray]; try simp only [List.set_cons_zero, List.set_cons_succ]
    refine wpAnyV_take (pre_keptL (fun i => i < w2.heap.size)) (i := 4) (d := some 26) (v := ?vatk4) rfl rfl (by kernel_rfl) (by kernel_rfl) (by kernel_rfl) (by kernel_rfl) (by kernel_rfl) (fun _ _ _ h => h) (by rfl) ?yatk4 ?_
    case yatk4 => (intro w' hw'; go_simp; try (with_reducible rfl))
    simp only [Act.put]; try simp only [List.setIfInBounds_toArray]; try simp only [List.set_cons_zero, List.set_cons_succ]
    refine wpAnyV_take (pre_keptL (fun i => i < w2.heap.size)) (i := 5) (d := some 27) (v := .slice (some ⟨b, off, none⟩) n0 cp) rfl rfl (by kernel_rfl) (by kernel_rfl) (by kernel_rfl) (by kernel_rfl) (by kernel_rfl) (fun _ _ _ h => h) (by rfl) ?yatk5 ?_
    case yatk5 => (intro w' hw'; have d1 := HCK.out w' ((Kept.of_below HB0.out _).trans hw'); go_simp; try (with_reducible rfl))
    simp only [Act.put]; try simp only [List.setIfInBounds_toArray]; try simp only [List.set_cons_zero, List.set_cons_succ]
    refine wpAnyV_take (pre_keptL (fun i => i < w2.heap.size)) (i := 6) (d := some 28) (v := ?vatk6) rfl rfl (by kernel_rfl) (by kernel_rfl) (by kernel_rfl) (by kernel_rfl) (by kernel_rfl) (fun _ _ _ h => h) (by rfl) ?yatk6 ?_
    case yatk6 => (intro w' hw'; go_simp; try (with_reducible rfl))
    simp only [Act.put]; try simp only [List.setIfInBounds_toArray]; try simp only [List.set_cons_zero, List.set_cons_succ]
    refine wpAnyV_take (pre_keptL (fun i => i < w2.heap.size)) (i := 7) (d := some 29) (v := .slice (some ⟨b, off, none⟩) k cp) rfl rfl (by kernel_rfl) (by kernel_rfl) (by kernel_rfl) (by kernel_rfl) (by kernel_rfl) (fun _ _ _ h => h) (by rfl) ?yatk7 ?_
    case yatk7 => (intro w' hw'; exact exec_to _ _ (by rfl) (some ⟨b, off, none⟩) n0 cp k (by rfl) (by rfl) (by omega) hn1)
    simp only [Act.put]; try simp only [List.setIfInBounds_toArray]; try simp only [List.set_cons_zero, List.set_cons_succ]
    refine wpAnyV_take (pre_keptL (fun i => i < w2.heap.size)) (i := 9) (d := some 31) (v := ?vatk9) rfl rfl (by kernel_rfl) (by kernel_rfl) (by kernel_rfl) (by kernel_rfl) (by kernel_rfl) (fun _ _ _ h => h) (by rfl) ?yatk9 ?_
    case yatk9 => (intro w' hw'; go_simp; try (with_reducible rfl))
    simp only [Act.put]; try simp only [List.setIfInBounds_toArray]; try simp only [List.set_cons_zero, List.set_cons_succ]
    refine wpAnyV_take (pre_keptL (fun i => i < w2.heap.size)) (i := 10) (d := some 32) (v := ?vatk10) rfl rfl (by kernel_rfl) (by kernel_rfl) (by kernel_rfl) (by kernel_rfl) (by kernel_rfl) (fun _ _ _ h => h) (by rfl) ?yatk10 ?_
    case yatk10 => (intro w' hw'; go_simp; try (with_reducible rfl))
    simp only [Act.put]; try simp only [List.setIfInBounds_toArray]; try simp only [List.set_cons_zero, List.set_cons_succ]
    refine wpAnyV_take (pre_keptL (fun i => i < w2.heap.size)) (i := 11) (d := some 33) (v := ?vatk11) rfl rfl (by kernel_rfl) (by kernel_rfl) (by kernel_rfl) (by kernel_rfl) (by kernel_rfl) (fun _ _ _ h => h) (by rfl) ?yatk11 ?_
    case yatk11 => (intro w' hw'; go_simp; try (with_reducible rfl))
    simp only [Act.put]; try simp only [List.setIfInBounds_toArray]; try simp only [List.set_cons_zero, List.set_cons_succ]
    refine wpAnyV_take (pre_keptL (fun i => i < w2.heap.size)) (i := 12) (d := some 34) (v := .slice (some ⟨b, off, none⟩) n0 cp) rfl rfl (by kernel_rfl) (by kernel_rfl) (by kernel_rfl) (by kernel_rfl) (by kernel_rfl) (fun _ _ _ h => h) (by rfl) ?yatk12 ?_
    case yatk12 => (intro w' hw'; have d1 := HCK.out w' ((Kept.of_below HB0.out _).trans hw'); go_simp; try (with_reducible rfl))
    simp only [Act.put]; try simp only [List.setIfInBounds_toArray]; try simp only [List.set_cons_zero, List.set_cons_succ]
    refine wpAnyV_take (pre_keptL (fun i => i < w2.heap.size)) (i := 13) (d := some 35) (v := ?vatk13) rfl rfl (by kernel_rfl) (by kernel_rfl) (by kernel_rfl) (by kernel_rfl) (by kernel_rfl) (fun _ _ _ h => h) (by rfl) ?yatk13 ?_
    case yatk13 => (intro w' hw'; go_simp; try (with_reducible rfl))
    simp only [Act.put]; try simp only [List.setIfInBounds_toArray]; try simp only [List.set_cons_zero, List.set_cons_succ]
    refine wpAnyV_take (pre_keptL (fun i => i < w2.heap.size)) (i := 14) (d := some 36) (v := .int .i64 ((k + 1 : Nat) : Int)) rfl rfl (by kernel_rfl) (by kernel_rfl) (by kernel_rfl) (by kernel_rfl) (by kernel_rfl) (fun _ _ _ h => h) (by rfl) ?yatk14 ?_
    case yatk14 => (intro w' hw'; go_simp; rw [IntKind.wrap_i64]; omega)
    simp only [Act.put]; try simp only [List.setIfInBounds_toArray]; try simp only [List.set_cons_zero, List.set_cons_succ]
    refine wpAnyV_take (pre_keptL (fun i => i < w2.heap.size)) (i := 15) (d := some 37) (v := vs) rfl rfl (by kernel_rfl) (by kernel_rfl) (by kernel_rfl) (by kernel_rfl) (by kernel_rfl) (fun _ _ _ h => h) (by rfl) ?yatk15 ?_
    case yatk15 => (intro w' hw'; exact exec_from _ _ (by rfl) (some ⟨b, off, none⟩) n0 cp (k + 1) vs HVS.out (by rfl) (by rfl) (by omega))
    simp only [Act.put]; try simp only [List.setIfInBounds_toArray]; try simp only [List.set_cons_zero, List.set_cons_succ]
    refine wpAnyV_only (pre_keptL (fun i => i < w2.heap.size)) (i := 1) rfl (by kernel_rfl) (by rfl) fun K hK => ?_
    refine wp_empty (by rfl) ?_
    intro wa he
    have HE := hide he
    have HBa : Hid (Below w2.heap.size w2 wa) := HB0.out.trans he.2.1
    refine hK.out _ _ (Kept.of_below he.2.1 _) ?_
    clear he
    clear hK K
    try (simp only [Act.put]; try simp only [List.setIfInBounds_toArray]; try simp only [List.set_cons_zero, List.set_cons_succ])
    refine wpAnyV_only (pre_keptL (fun i => i < w2.heap.size)) (i := 8) rfl (by kernel_rfl) (by rfl) fun K hK => ?_
    refine wp_append_items (B := w2.heap.size) (qs := []) (rs := qs) (F := F) (G := F) _ _ (by rfl) (by rfl) HE.out.1 (by simp) (by rfl) (HQ1.out _ (HB2.out.trans (HBa.out.mono HN2.out))) (by have := HQL.out; simp; omega) HBa.out.size ?_
    intro ts6 A6 cp6 wb e6 ho6 hg6 hc6
    have HO6 := hide ho6
    have HBb : Hid (Below w2.heap.size w2 wb) := own_grown HBa.out HE.out.1 hg6
    have hk6 : Kept (fun i => i < w2.heap.size) wa wb := emp_grown hg6 (Nat.le_refl _)
    refine hK.out _ _ hk6 ?_
    clear ho6 hg6 hk6
    clear hK K
    try (simp only [Act.put]; try simp only [List.setIfInBounds_toArray]; try simp only [List.set_cons_zero, List.set_cons_succ])
    refine wpAnyV_only (pre_keptL (fun i => i < w2.heap.size)) (i := 16) rfl (by kernel_rfl) (by rfl) fun K hK => ?_
    refine wp_append_items (B := w2.heap.size) (qs := ts6) (rs := rs) (F := F) (G := F) _ _ (by rfl) (by rfl) HO6.out (fun p hp => (by rw [e6.out, List.nil_append] at hp; exact (HQ1.out _ (HB2.out.trans (HBb.out.mono HN2.out))).2 p hp)) (by rfl) (HQ2.out _ (HB2.out.trans (HBb.out.mono HN2.out))) (by have h1 := HQL.out; have h2 := HRL.out; rw [e6.out]; simp; omega) HBb.out.size ?_
    intro ts9 A9 cp9 wd e9 ho9 hg9 hc9
    have HO9 := hide ho9
    have HBd : Hid (Below w2.heap.size w2 wd) := own_grown HBb.out HO6.out hg9
    have hk9 : Kept (fun i => i < w2.heap.size) wb wd := Kept.of_grown hg9 (fun q e hq => by have h1 := (HO6.out.lt q e).1; have h2 : q < w2.heap.size := hq; omega)
    refine hK.out _ _ hk9 ?_
    clear ho9 hg9 hk9
    clear hK K
    try (simp only [Act.put]; try simp only [List.setIfInBounds_toArray]; try simp only [List.set_cons_zero, List.set_cons_succ])
    refine wpAnyV_take (pre_keptL (fun i => i < w2.heap.size)) (i := 17) (d := some 39) (v := .pointer (some ⟨r, 0, none⟩)) rfl rfl (by kernel_rfl) (by kernel_rfl) (by kernel_rfl) (by kernel_rfl) (by kernel_rfl) (fun _ _ _ h => h) (by rfl) ?yatk17 ?_
    case yatk17 => (intro w' hw'; go_simp; try (with_reducible rfl))
    simp only [Act.put]; try simp only [List.setIfInBounds_toArray]; try simp only [List.set_cons_zero, List.set_cons_succ]
    refine wpAnyV_take (pre_keptL (fun i => i < w2.heap.size)) (i := 18) (d := some 40) (v := ?vatk18) rfl rfl (by kernel_rfl) (by kernel_rfl) (by kernel_rfl) (by kernel_rfl) (by kernel_rfl) (fun _ _ _ h => h) (by rfl) ?yatk18 ?_
    case yatk18 => (intro w' hw'; go_simp; try (with_reducible rfl))
    simp only [Act.put]; try simp only [List.setIfInBounds_toArray]; try simp only [List.set_cons_zero, List.set_cons_succ]
    refine wpAnyV_write (i := 19) rfl rfl (by kernel_rfl) (by rfl) fun K hK => ?_
    have hcs := (HW.out.later HBd.out).cells
    have c2 := hcs.2.2.1
    have f2 := hcs.2.2.2.2
    clear hcs
    go_simp
    refine hK.out _ _ ?_
    clear c2 f2
    clear hK K
    try simp only [Act.put]
    refine wpAnyV_done (by kernel_rfl) ?_ _
    have hls : ∀ p ∈ ts9, Lists (fun i => F i ∧ i ≠ w.heap.size) wd p.m p.s p.o p.i := fun p hp => by
      rw [e9.out, e6.out, List.nil_append] at hp
      have hbw := HB2.out.trans (HBd.out.mono HN2.out)
      have hpp : p ∈ ps := by
        rcases List.mem_append.1 hp with hp | hp
        · rw [HQS.out] at hp; exact List.mem_of_mem_take hp
        · rw [HRS.out] at hp; exact List.mem_of_mem_drop hp
      exact ((H.out.items.2 p hpp).mono (fun i hi hf => ⟨hf, by omega⟩)).kept (Kept.of_below hbw _)
    have hit : ItemsIn (fun i => F i ∧ i ≠ w.heap.size) wd (.slice A9 ts9.length cp9) ts9 := own_items HO9.out (fun i hi => ⟨HW.out.new i hi, by have := hlt2; have := hlt; omega⟩) hls
    have hit2 := hit.kept (Kept.of_grown (grown_set wd r 2 (.slice A9 ts9.length cp9)) (fun g e hf => H.out.off (by rw [Option.some.inj e]; exact hf.1)))
    have hl9 : ts9.length ≤ 1000 := by have h1 := HQL.out; have h2 := HRL.out; rw [e9.out, e6.out, List.nil_append, List.length_append]; omega
    have hM9 : ts9.map ItemV.key = dropQ Q id := by rw [e9.out, e6.out, List.nil_append, List.map_append, HQS.out, HRS.out, List.map_take, List.map_drop, H.out.says, HD.out]
    obtain ⟨q1, q2⟩ := HW.out.put HBd.out (hit.mono (fun _ _ hi => hi.1)) hl9
    rw [hM9] at q1
    have HP1 := hide q1
    have HP2 := hide q2
    have hX4 := (q2.block w1.heap.size hlt2 (by simp; omega)).trans HX2.out
    have hZ4 := (q2.block w.heap.size (by omega) (by simp; omega)).trans HZ2.out
    clear q1 q2 hls hM9 hl9 hit
    obtain ⟨W5, hW5⟩ : ∃ W5, W5 = wd.setCell ⟨r, 2, none⟩ (.slice A9 ts9.length cp9) := ⟨_, rfl⟩
    rw [← hW5] at HP1 HP2 hX4 hZ4 hit2
    have HIT := hide hit2
    clear hit2
    rw [← hW5]
    have HX4 := hide hX4
    have HZ4 := hide hZ4
    clear hX4 hZ4 hW5
    go_wp2_with (first
      | (refine wpList_load_box (by rfl) 42 _ (by rfl) (w1.heap.size) 0 (by rfl) 42 _ HX4.out 34 _ Try.underlying42 (by rfl) (by kernel_rfl) (m.cells s o i) (by rfl) (by rfl) ?_)
      | (refine wpList_store_box (by rfl) 42 _ _ (by rfl) (w.heap.size) 0 ((m.cells s o i).toArray) (by rfl) (by rfl) 42 (zcells) HZ4.out (by kernel_rfl) (by exact Nat.le_of_ble_eq_true rfl) (by exact m.one k1 k2 k3) ?_; intro w6 hb6 hg6; rw [put_zmsg] at hb6))
    refine bodyPost_ret (results_box2 Try.results16 _ _ (w.heap.size) 42 _ _ (by rfl) (hb6) Try.underlying42 (by rfl) (by kernel_rfl) _ (by rfl)) (by rfl) ?_
    unfold RTaken
    rw [HT.out, ← HP.out]
    have hg46 : w.grownBy w6 (some r) := by
      have h5 : w.grownBy W5 (some r) := (grown_later HB2.out _).trans HP2.out
      exact ⟨hg6.os.trans h5.os, hg6.tape.trans h5.tape, hg6.output.trans h5.output, Nat.le_trans h5.size hg6.size, fun i hi hne => (hg6.block i (Nat.lt_of_lt_of_le hi h5.size) (by simp; omega)).trans (h5.block i hi hne)⟩
    refine ⟨s, o, i, rfl, ?_, ⟨_, _, ⟨HP1.out.says, (hg6.block r HP1.out.lt (by simp; omega)).trans HP1.out.cell, ?_, HP1.out.off, fun i hi => HP1.out.new i (Nat.le_trans hg6.size hi), HP1.out.len⟩⟩, hg46⟩
    · exact (H.out.items.2 _ HM.out).kept (Kept.of_grown hg46 (fun g e hf => H.out.off (by rw [Option.some.inj e]; exact hf)))
    · exact (HIT.out.kept (Kept.of_grown hg6 (fun g e hf => hf.2 (Option.some.inj e).symm))).mono (fun _ _ hi => hi.1)

/- The document's bag: Put. -/

/-- What Put says and leaves: the number, the error, the number given last, what is kept. -/
def putQ (most : Int) (last : Nat) (Q : List (Int × MsgD)) (m : MsgD) : Int × Int × Nat × List (Int × MsgD) :=
  if most ≤ (Q.length : Int) then (0, 7, last, Q) else ((last : Int) + 1, 0, last + 1, Q ++ [((last : Int) + 1, m)])
theorem own_lit {g q : Nat} (e : Value.ownBlock (.slice (some ⟨g, 0, none⟩) 0 0) = some q) : g = q := by simpa [Value.ownBlock] using e
theorem built_item (id : Int) (m : MsgD) (s o i : Value) : Try.prog.built 81 [(0, .int .i64 id), (1, .agg (m.cells s o i).toArray)] = some (ItemV.cells ⟨id, m, s, o, i⟩).toArray := by kernel_rfl
theorem exec_build_item {op : Oper} {a : Act} {w : World} (x y : Operand) (ho : op.op = .build 81 #[(0, x), (1, y)]) (id : Int) (m : MsgD) (s o i : Value) (hx : a.eval x = .int .i64 id) (hy : a.eval y = .agg (m.cells s o i).toArray) :
    (execOp a.eval op).run Try.prog w = .ok (.value (.agg (ItemV.cells ⟨id, m, s, o, i⟩).toArray)) w := by
  unfold execOp
  simp only [ho, hx, hy, List.map_toArray, List.map_cons, List.map_nil, Sem.run_bind, run_build w _ _ _ (built_item id m s o i), Result.andThen_ok]
  rfl
/-- A list of one item, in a new block. -/
theorem one_here {W : World} (w : World) (p : ItemV) (hs : Lists (· < W.heap.size) W p.m p.s p.o p.i) (hb : Below W.heap.size W w) :
    ItemsIn (fun j => j = w.heap.size ∨ j < W.heap.size) (w.alloc (.cells p.cells.toArray 81 (0, 0))) (.slice (some ⟨w.heap.size, 0, none⟩) 1 1) [p] := by
  refine ⟨?_, fun q hq => ?_⟩
  · have h := flat_one w 81 35 p.cells.toArray (by rfl) (fun u hu => item_one p hs.cell.1 hs.cell.2.1 hs.cell.2.2 u (by simpa using hu)) (fun j => j = w.heap.size ∨ j < W.heap.size) (.inl rfl)
    simpa [icells] using h
  · obtain rfl : q = p := by simpa using hq
    exact ((hs.kept (Kept.of_below hb _)).kept (Kept.of_below ((Below.refl _ _).alloc (Nat.le_refl _) _) _)).mono fun i _ hi => .inr hi
set_option maxHeartbeats 8000000 in
set_option maxRecDepth 100000 in
theorem refput_any {F : Nat → Prop} {r : Nat} {most : Int} {last : Nat} {Q : List (Int × MsgD)} (m : MsgD) (s o i : Value) (w : World) (h : RB F w r most last Q) (hm : Lists F w m s o i) (hlast : last < 1000000) (hlen : Q.length < 1000) :
    Calls Try.prog 14 #[.pointer (some ⟨r, 0, none⟩), .agg (m.cells s o i).toArray] w fun e w' => e = .returned (.tuple #[.int .i64 (putQ most last Q m).1, .int .i64 (putQ most last Q m).2.1]) ∧ RB F w' r most (putQ most last Q m).2.2.1 (putQ most last Q m).2.2.2 ∧ w.grownBy w' (some r) := by
  obtain ⟨i0, hi, hz0, hz1, hz2⟩ := info_parts Try.infoItem
  obtain ⟨v, ps, h⟩ := h
  obtain ⟨A, cp, rfl, hn1, hn2⟩ := h.shape
  have hpl := h.plen
  obtain ⟨n0, hn0⟩ : ∃ n0, Q.length = n0 := ⟨_, rfl⟩
  have hp : putQ most last Q m = if most ≤ (n0 : Int) then (0, 7, last, Q) else ((last : Int) + 1, 0, last + 1, Q ++ [((last : Int) + 1, m)]) := by unfold putQ; rw [hn0]
  have HPQ := hide hp
  rw [hn0] at h hn1 hpl hlen
  have HPL := hide hpl
  have H := hide h
  obtain ⟨W1, hW1⟩ : ∃ W1, W1 = w.alloc (.cells (m.cells s o i).toArray 42 (0, 0)) := ⟨_, rfl⟩
  have HB1 : Hid (Below w.heap.size w W1) := by rw [hW1]; exact (Below.refl _ _).alloc (Nat.le_refl _) _
  have HX1 : Hid (W1.heap[w.heap.size]? = some (.cells (m.cells s o i).toArray 42 (0, 0))) := by rw [hW1]; exact heap_alloc_new _ _
  have HH1 := hide (h.later HB1.out)
  obtain ⟨k0, k1, k2, k3, k4⟩ := HH1.out.cells
  have HWE := hide hW1
  have HM := hide hm
  clear hp h hn0 hpl hW1 hm hn2
  by_cases hf : most ≤ (n0 : Int)
  · have HR : Hid (putQ most last Q m = (0, 7, last, Q)) := by show _ = _; rw [HPQ.out, if_pos hf]
    have hd : decide (most ≤ (n0 : Int)) = true := by simpa using hf
    clear hf HPQ
    go_enter Try.func14, Try.ntmps14
    go_wp2
    rw [← HWE.out]
    go_quiet (fail)
    go_wp2
    go_ret2
    rw [HR.out]
    exact ⟨rfl, ⟨_, _, H.out.later (HB1.out.trans (below_drewN _ _ _))⟩, grown_later (HB1.out.trans (below_drewN _ _ _)) _⟩
  · have HR : Hid (putQ most last Q m = ((last : Int) + 1, 0, last + 1, Q ++ [((last : Int) + 1, m)])) := by show _ = _; rw [HPQ.out, if_neg hf]
    have hd : decide (most ≤ (n0 : Int)) = false := by simpa using hf
    clear hf HPQ
    go_enter Try.func14, Try.ntmps14
    go_wp2
    rw [← HWE.out]
    go_quiet (fail)
    go_wp2
    obtain ⟨W2, hW2⟩ : ∃ W2, W2 = W1.drewN nq := ⟨_, rfl⟩
    have HB2 : Hid (Below w.heap.size w W2) := by rw [hW2]; exact HB1.out.trans (below_drewN _ _ _)
    obtain ⟨q1, q2⟩ := H.out.count HB2.out (last + 1)
    obtain ⟨W, hW⟩ : ∃ W, W = W2.setCell ⟨r, 1, none⟩ (.int .i64 ((last : Int) + 1)) := ⟨_, rfl⟩
    rw [← hW2]
    rw [← hW]
    have e1 : (((last + 1 : Nat) : Nat) : Int) = (last : Int) + 1 := by omega
    rw [e1, ← hW] at q1 q2
    have HW := hide q1
    have HGW := hide q2
    have HX : Hid (W.heap[w.heap.size]? = some (.cells (m.cells s o i).toArray 42 (0, 0))) := by
      rw [hW, hW2]
      exact ((grown_set (W1.drewN nq) r 1 (.int .i64 ((last : Int) + 1))).block w.heap.size (lt_of_block HX1.out) (by have := H.out.lt; simp; omega)).trans HX1.out
    have HWX : Hid (w.heap.size < W.heap.size) := lt_of_block HX.out
    have HMF : Hid (Lists F W m s o i) := HM.out.kept (Kept.of_grown q2 (fun g e hg => H.out.off (by rw [Option.some.inj e]; exact hg)))
    have HS : Hid (Lists (· < W.heap.size) W m s o i) := HMF.out.mono fun j hj _ => hj
    have HPS : Hid (∀ w', Below W.heap.size W w' → ItemsIn F w' (.slice A n0 cp) ps) := fun w' hb => (HW.out.later hb).items
    have HB0 : Hid (Below W.heap.size W W.drew) := (Below.refl _ _).drew
    have hr : r < W.heap.size := HW.out.lt
    have HCK : Hid (∀ w', Kept (fun j => j < W.heap.size) W w' → w'.cell? ⟨r, 1, none⟩ = some (.int .i64 ((last : Int) + 1)) ∧ w'.cell? ⟨r, 2, none⟩ = some (.slice A n0 cp)) := fun w' hk => by
      obtain ⟨_, h1, h2, _, _⟩ := HW.out.cells
      exact ⟨(World.cell?_of_block (hk.2 r hr hr)).trans h1, (World.cell?_of_block (hk.2 r hr hr)).trans h2⟩
    clear q1 q2 hW2 hW k0 k1 k2 k3 k4
    refine wp_region_V (fun a b => Kept (fun j => j < W.heap.size) a b) (fun j => j == 17) (by kernel_rfl) ?_
    refine wpAnyV_take (pre_keptL (fun j => j < W.heap.size)) (i := 0) (d := some 23) (v := .pointer (some ⟨r, 0, none⟩)) rfl rfl (by kernel_rfl) (by kernel_rfl) (by kernel_rfl) (by kernel_rfl) (by kernel_rfl) (fun _ _ _ h => h) (by rfl) ?yapt0 ?_
    case yapt0 => (intro w' hw'; go_simp; try (with_reducible rfl))
    simp only [Act.put]; try simp only [List.setIfInBounds_toArray]; try simp only [List.set_cons_zero, List.set_cons_succ]
    refine wpAnyV_take (pre_keptL (fun j => j < W.heap.size)) (i := 2) (d := some 25) (v := ?vapt2) rfl rfl (by kernel_rfl) (by kernel_rfl) (by kernel_rfl) (by kernel_rfl) (by kernel_rfl) (fun _ _ _ h => h) (by rfl) ?yapt2 ?_
    case yapt2 => (intro w' hw'; go_simp; try (with_reducible rfl))
    simp only [Act.put]; try simp only [List.setIfInBounds_toArray]; try simp only [List.set_cons_zero, List.set_cons_succ]
    refine wpAnyV_take (pre_keptL (fun j => j < W.heap.size)) (i := 3) (d := some 26) (v := ?vapt3) rfl rfl (by kernel_rfl) (by kernel_rfl) (by kernel_rfl) (by kernel_rfl) (by kernel_rfl) (fun _ _ _ h => h) (by rfl) ?yapt3 ?_
    case yapt3 => (intro w' hw'; go_simp; try (with_reducible rfl))
    simp only [Act.put]; try simp only [List.setIfInBounds_toArray]; try simp only [List.set_cons_zero, List.set_cons_succ]
    refine wpAnyV_take (pre_keptL (fun j => j < W.heap.size)) (i := 4) (d := some 27) (v := ?vapt4) rfl rfl (by kernel_rfl) (by kernel_rfl) (by kernel_rfl) (by kernel_rfl) (by kernel_rfl) (fun _ _ _ h => h) (by rfl) ?yapt4 ?_
    case yapt4 => (intro w' hw'; go_simp; try (with_reducible rfl))
    simp only [Act.put]; try simp only [List.setIfInBounds_toArray]; try simp only [List.set_cons_zero, List.set_cons_succ]
    refine wpAnyV_take (pre_keptL (fun j => j < W.heap.size)) (i := 5) (d := some 28) (v := .slice A n0 cp) rfl rfl (by kernel_rfl) (by kernel_rfl) (by kernel_rfl) (by kernel_rfl) (by kernel_rfl) (fun _ _ _ h => h) (by rfl) ?yapt5 ?_
    case yapt5 => (intro w' hw'; have d1 := (HCK.out w' ((Kept.of_below HB0.out _).trans hw')).2; go_simp; try (with_reducible rfl))
    simp only [Act.put]; try simp only [List.setIfInBounds_toArray]; try simp only [List.set_cons_zero, List.set_cons_succ]
    refine wpAnyV_take (pre_keptL (fun j => j < W.heap.size)) (i := 7) (d := some 30) (v := ?vapt7) rfl rfl (by kernel_rfl) (by kernel_rfl) (by kernel_rfl) (by kernel_rfl) (by kernel_rfl) (fun _ _ _ h => h) (by rfl) ?yapt7 ?_
    case yapt7 => (intro w' hw'; go_simp; try (with_reducible rfl))
    simp only [Act.put]; try simp only [List.setIfInBounds_toArray]; try simp only [List.set_cons_zero, List.set_cons_succ]
    refine wpAnyV_take (pre_keptL (fun j => j < W.heap.size)) (i := 8) (d := some 31) (v := ?vapt8) rfl rfl (by kernel_rfl) (by kernel_rfl) (by kernel_rfl) (by kernel_rfl) (by kernel_rfl) (fun _ _ _ h => h) (by rfl) ?yapt8 ?_
    case yapt8 => (intro w' hw'; go_simp; try (with_reducible rfl))
    simp only [Act.put]; try simp only [List.setIfInBounds_toArray]; try simp only [List.set_cons_zero, List.set_cons_succ]
    refine wpAnyV_take (pre_keptL (fun j => j < W.heap.size)) (i := 9) (d := some 32) (v := ?vapt9) rfl rfl (by kernel_rfl) (by kernel_rfl) (by kernel_rfl) (by kernel_rfl) (by kernel_rfl) (fun _ _ _ h => h) (by rfl) ?yapt9 ?_
    case yapt9 => (intro w' hw'; go_simp; try (with_reducible rfl))
    simp only [Act.put]; try simp only [List.setIfInBounds_toArray]; try simp only [List.set_cons_zero, List.set_cons_succ]
    refine wpAnyV_take (pre_keptL (fun j => j < W.heap.size)) (i := 10) (d := some 33) (v := .int .i64 ((last : Int) + 1)) rfl rfl (by kernel_rfl) (by kernel_rfl) (by kernel_rfl) (by kernel_rfl) (by kernel_rfl) (fun _ _ _ h => h) (by rfl) ?yapt10 ?_
    case yapt10 => (intro w' hw'; have d1 := (HCK.out w' ((Kept.of_below HB0.out _).trans hw')).1; go_simp; try (with_reducible rfl))
    simp only [Act.put]; try simp only [List.setIfInBounds_toArray]; try simp only [List.set_cons_zero, List.set_cons_succ]
    refine wpAnyV_take (pre_keptL (fun j => j < W.heap.size)) (i := 11) (d := some 34) (v := .agg (m.cells s o i).toArray) rfl rfl (by kernel_rfl) (by kernel_rfl) (by kernel_rfl) (by kernel_rfl) (by kernel_rfl) (fun _ _ _ h => h) (by rfl) ?yapt11 ?_
    case yapt11 => (intro w' hw'; have hx7 := (((Kept.of_below HB0.out _).trans hw').2 w.heap.size HWX.out HWX.out).trans HX.out; exact exec_load_box 42 _ (by rfl) w.heap.size 0 (by rfl) 42 _ hx7 34 _ Try.underlying42 (by rfl) (by kernel_rfl) (m.cells s o i) (by rfl) (by rfl))
    simp only [Act.put]; try simp only [List.setIfInBounds_toArray]; try simp only [List.set_cons_zero, List.set_cons_succ]
    refine wpAnyV_take (pre_keptL (fun j => j < W.heap.size)) (i := 12) (d := some 35) (v := .agg ((⟨(last : Int) + 1, m, s, o, i⟩ : ItemV).cells).toArray) rfl rfl (by kernel_rfl) (by kernel_rfl) (by kernel_rfl) (by kernel_rfl) (by kernel_rfl) (fun _ _ _ h => h) (by rfl) ?yapt12 ?_
    case yapt12 => (intro w' hw'; exact exec_build_item _ _ (by rfl) ((last : Int) + 1) m s o i (by rfl) (by rfl))
    simp only [Act.put]; try simp only [List.setIfInBounds_toArray]; try simp only [List.set_cons_zero, List.set_cons_succ]
    refine wpAnyV_two (i := 1) (j := 13) rfl rfl (by kernel_rfl) (by rfl) (by rfl) (fun K hK => ?_) (fun K hK => ?_)
    · skip
      refine wp_empty (by rfl) ?_
      intro wa he
      have HBa : Hid (Below W.heap.size W wa) := HB0.out.trans (he.2.1.mono HB0.out.size)
      have HE : Hid (IRow wa W.heap.size (.slice (some ⟨W.drew.heap.size, 0, none⟩) 0 0) []) := irow_base he.1 HB0.out.size
      have HG : Hid (W.heap.size ≤ W.drew.heap.size) := HB0.out.size
      refine hK.out _ _ (Kept.of_below he.2.1 _) ?_
      clear he
      clear hK K
      try (simp only [Act.put]; try simp only [List.setIfInBounds_toArray]; try simp only [List.set_cons_zero, List.set_cons_succ])
      refine wpAnyV_two (i := 6) (j := 13) rfl rfl (by kernel_rfl) (by rfl) (by rfl) (fun K hK => ?_) (fun K hK => ?_)
      · skip
        refine wp_append_items (B := W.heap.size) (qs := []) (rs := ps) (F := F) (G := F) _ _ (by rfl) (by rfl) HE.out (by simp) (by rfl) (HPS.out _ HBa.out) (by have := HPL.out; simp; omega) HBa.out.size ?_
        intro ts6 A6 cp6 wc e6 ho6 hg6 hc6
        have HO := hide ho6
        have HBc : Hid (Below W.heap.size W wc) := own_grown HBa.out HE.out hg6
        have hk6 : Kept (fun j => j < W.heap.size) wa wc := emp_grown hg6 HG.out
        refine hK.out _ _ hk6 ?_
        clear ho6 hg6 hk6
        clear hK K
        try (simp only [Act.put]; try simp only [List.setIfInBounds_toArray]; try simp only [List.set_cons_zero, List.set_cons_succ])
        refine wpAnyV_only (pre_keptL (fun j => j < W.heap.size)) (i := 13) rfl (by kernel_rfl) (by rfl) fun K hK => ?_
        refine wp_buildSlice_one 77 81 _ (by rfl) i0 _ 35 Try.underlying77 hi hz0 hz1 (by decide) (by decide) ((⟨(last : Int) + 1, m, s, o, i⟩ : ItemV).cells).toArray (by rfl) (by rfl) ?_
        obtain ⟨wb, hwb⟩ : ∃ wb, wb = wc.alloc (.cells ((⟨(last : Int) + 1, m, s, o, i⟩ : ItemV).cells).toArray 81 (0, 0)) := ⟨_, rfl⟩
        have hbb : Below wc.heap.size wc wb := by rw [hwb]; exact (Below.refl _ _).alloc (Nat.le_refl _) _
        have HBb : Hid (Below W.heap.size W wb) := HBc.out.trans (hbb.mono HBc.out.size)
        obtain ⟨b9, hb9⟩ : ∃ b9, b9 = wc.heap.size := ⟨_, rfl⟩
        have F9 : Hid (ItemsIn (fun j => j = b9 ∨ j < W.heap.size) wb (.slice (some ⟨b9, 0, none⟩) 1 1) [(⟨(last : Int) + 1, m, s, o, i⟩ : ItemV)]) := by rw [hb9, hwb]; exact one_here wc (⟨(last : Int) + 1, m, s, o, i⟩ : ItemV) HS.out HBc.out
        have HB9 : Hid (b9 < wb.heap.size) := by rw [hb9, hwb]; show _ < _; simp
        have hl9 : wc.heap.size ≤ b9 := Nat.le_of_eq hb9.symm
        rw [← hb9]
        rw [← hwb]
        have HOb := hide (irow_kept HO.out (fun q hq => hbb.block q (irow_in HO.out q hq)))
        refine hK.out _ _ (Kept.of_below hbb _) ?_
        clear hbb hwb hb9 hl9
        clear hK K
        try (simp only [Act.put]; try simp only [List.setIfInBounds_toArray]; try simp only [List.set_cons_zero, List.set_cons_succ])
        refine wpAnyV_only (pre_keptL (fun j => j < W.heap.size)) (i := 14) rfl (by kernel_rfl) (by rfl) fun K hK => ?_
        refine wp_append_items (B := W.heap.size) (qs := ts6) (rs := [(⟨(last : Int) + 1, m, s, o, i⟩ : ItemV)]) (F := fun j => j = b9 ∨ j < W.heap.size) (G := F) _ _ (by rfl) (by rfl) HOb.out (fun p hp => (by rw [e6.out, List.nil_append] at hp; exact (HPS.out _ HBb.out).2 p hp)) (by rfl) F9.out (by have h1 := HPL.out; rw [e6.out]; simp; omega) HBb.out.size ?_
        intro ts9 A9 cp9 wd e9 ho9 hg9 hc9
        have HO9 := hide ho9
        have HBd : Hid (Below W.heap.size W wd) := own_grown HBb.out HOb.out hg9
        have hk9 : Kept (fun j => j < W.heap.size) wb wd := Kept.of_grown hg9 (fun q e hq => by have h1 := (HOb.out.lt q e).1; have h2 : q < W.heap.size := hq; omega)
        refine hK.out _ _ hk9 ?_
        clear ho9 hg9 hk9
        clear hK K
        try (simp only [Act.put]; try simp only [List.setIfInBounds_toArray]; try simp only [List.set_cons_zero, List.set_cons_succ])
        refine wpAnyV_take (pre_keptL (fun j => j < W.heap.size)) (i := 15) (d := some 38) (v := .pointer (some ⟨r, 0, none⟩)) rfl rfl (by kernel_rfl) (by kernel_rfl) (by kernel_rfl) (by kernel_rfl) (by kernel_rfl) (fun _ _ _ h => h) (by rfl) ?yaptxx15 ?_
        case yaptxx15 => (intro w' hw'; go_simp; try (with_reducible rfl))
        simp only [Act.put]; try simp only [List.setIfInBounds_toArray]; try simp only [List.set_cons_zero, List.set_cons_succ]
        refine wpAnyV_take (pre_keptL (fun j => j < W.heap.size)) (i := 16) (d := some 39) (v := ?vaptxx16) rfl rfl (by kernel_rfl) (by kernel_rfl) (by kernel_rfl) (by kernel_rfl) (by kernel_rfl) (fun _ _ _ h => h) (by rfl) ?yaptxx16 ?_
        case yaptxx16 => (intro w' hw'; go_simp; try (with_reducible rfl))
        simp only [Act.put]; try simp only [List.setIfInBounds_toArray]; try simp only [List.set_cons_zero, List.set_cons_succ]
        refine wpAnyV_write (i := 17) rfl rfl (by kernel_rfl) (by rfl) fun K hK => ?_
        have hcs := (HW.out.later HBd.out).cells
        have c2 := hcs.2.2.1
        have f2 := hcs.2.2.2.2
        clear hcs
        go_simp
        refine hK.out _ _ ?_
        clear c2 f2
        clear hK K
        try simp only [Act.put]
        refine wpAnyV_done (by kernel_rfl) ?_ _
        have hls : ∀ p ∈ ts9, Lists F wd p.m p.s p.o p.i := fun p hp => by
          rw [e9.out, e6.out, List.nil_append] at hp
          rcases List.mem_append.1 hp with hp | hp
          · exact (HPS.out _ HBd.out).2 p hp
          · obtain rfl : p = (⟨(last : Int) + 1, m, s, o, i⟩ : ItemV) := by simpa using hp
            exact HMF.out.kept (Kept.of_below HBd.out _)
        have hl9 : ts9.length = n0 + 1 := by rw [e9.out, e6.out, List.nil_append, List.length_append, HPL.out]; rfl
        have hM9 : ts9.map ItemV.key = Q ++ [((last : Int) + 1, m)] := by rw [e9.out, e6.out, List.nil_append, List.map_append, HW.out.says]; rfl
        obtain ⟨q1, q2⟩ := HW.out.put HBd.out (own_items HO9.out HW.out.new hls) (by rw [hl9]; omega)
        rw [hM9] at q1
        have HQ1 := hide q1
        have HQ2 := hide q2
        obtain ⟨_, k1c, _, _, _⟩ := q1.cells
        clear q1 q2 hls hM9 hl9
        go_wp2
        go_ret2
        rw [HR.out]
        exact ⟨rfl, ⟨_, _, HQ1.out⟩, HGW.out.trans HQ2.out⟩
      · skip
        refine wp_buildSlice_one 77 81 _ (by rfl) i0 _ 35 Try.underlying77 hi hz0 hz1 (by decide) (by decide) ((⟨(last : Int) + 1, m, s, o, i⟩ : ItemV).cells).toArray (by rfl) (by rfl) ?_
        obtain ⟨wb, hwb⟩ : ∃ wb, wb = wa.alloc (.cells ((⟨(last : Int) + 1, m, s, o, i⟩ : ItemV).cells).toArray 81 (0, 0)) := ⟨_, rfl⟩
        have hbb : Below wa.heap.size wa wb := by rw [hwb]; exact (Below.refl _ _).alloc (Nat.le_refl _) _
        have HBb : Hid (Below W.heap.size W wb) := HBa.out.trans (hbb.mono HBa.out.size)
        obtain ⟨b9, hb9⟩ : ∃ b9, b9 = wa.heap.size := ⟨_, rfl⟩
        have F9 : Hid (ItemsIn (fun j => j = b9 ∨ j < W.heap.size) wb (.slice (some ⟨b9, 0, none⟩) 1 1) [(⟨(last : Int) + 1, m, s, o, i⟩ : ItemV)]) := by rw [hb9, hwb]; exact one_here wa (⟨(last : Int) + 1, m, s, o, i⟩ : ItemV) HS.out HBa.out
        have HB9 : Hid (b9 < wb.heap.size) := by rw [hb9, hwb]; show _ < _; simp
        have hl9 : wa.heap.size ≤ b9 := Nat.le_of_eq hb9.symm
        rw [← hb9]
        rw [← hwb]
        have HEb := hide (irow_kept HE.out (fun q hq => hbb.block q (irow_in HE.out q hq)))
        have HNE : Hid (b9 ≠ W.drew.heap.size) := (by have h1 : W.drew.heap.size < wa.heap.size := irow_in HE.out _ rfl; show _ ≠ _; omega)
        refine hK.out _ _ (Kept.of_below hbb _) ?_
        clear hbb hwb hb9 hl9
        clear hK K
        try (simp only [Act.put]; try simp only [List.setIfInBounds_toArray]; try simp only [List.set_cons_zero, List.set_cons_succ])
        refine wpAnyV_only (pre_keptL (fun j => j < W.heap.size)) (i := 6) rfl (by kernel_rfl) (by rfl) fun K hK => ?_
        refine wp_append_items (B := W.heap.size) (qs := []) (rs := ps) (F := F) (G := F) _ _ (by rfl) (by rfl) HEb.out (by simp) (by rfl) (HPS.out _ HBb.out) (by have := HPL.out; simp; omega) HBb.out.size ?_
        intro ts6 A6 cp6 wc e6 ho6 hg6 hc6
        have HO := hide ho6
        have HBc : Hid (Below W.heap.size W wc) := own_grown HBb.out HEb.out hg6
        have hk6 : Kept (fun j => j < W.heap.size) wb wc := emp_grown hg6 HG.out
        have F9c : Hid (ItemsIn (fun j => j = b9 ∨ j < W.heap.size) wc (.slice (some ⟨b9, 0, none⟩) 1 1) [(⟨(last : Int) + 1, m, s, o, i⟩ : ItemV)]) := F9.out.kept (Kept.of_grown hg6 (fun q e hq => by
          have e2 := own_lit e
          have h1 := HNE.out
          have h2 := HG.out
          rcases hq with hq | hq
          · exact h1 (hq.symm.trans e2.symm)
          · omega))
        refine hK.out _ _ hk6 ?_
        clear ho6 hg6 hk6
        clear hK K
        try (simp only [Act.put]; try simp only [List.setIfInBounds_toArray]; try simp only [List.set_cons_zero, List.set_cons_succ])
        refine wpAnyV_only (pre_keptL (fun j => j < W.heap.size)) (i := 14) rfl (by kernel_rfl) (by rfl) fun K hK => ?_
        refine wp_append_items (B := W.heap.size) (qs := ts6) (rs := [(⟨(last : Int) + 1, m, s, o, i⟩ : ItemV)]) (F := fun j => j = b9 ∨ j < W.heap.size) (G := F) _ _ (by rfl) (by rfl) HO.out (fun p hp => (by rw [e6.out, List.nil_append] at hp; exact (HPS.out _ HBc.out).2 p hp)) (by rfl) F9c.out (by have h1 := HPL.out; rw [e6.out]; simp; omega) HBc.out.size ?_
        intro ts9 A9 cp9 wd e9 ho9 hg9 hc9
        have HO9 := hide ho9
        have HBd : Hid (Below W.heap.size W wd) := own_grown HBc.out HO.out hg9
        have hk9 : Kept (fun j => j < W.heap.size) wc wd := Kept.of_grown hg9 (fun q e hq => by have h1 := (HO.out.lt q e).1; have h2 : q < W.heap.size := hq; omega)
        refine hK.out _ _ hk9 ?_
        clear ho9 hg9 hk9
        clear hK K
        try (simp only [Act.put]; try simp only [List.setIfInBounds_toArray]; try simp only [List.set_cons_zero, List.set_cons_succ])
        refine wpAnyV_take (pre_keptL (fun j => j < W.heap.size)) (i := 15) (d := some 38) (v := .pointer (some ⟨r, 0, none⟩)) rfl rfl (by kernel_rfl) (by kernel_rfl) (by kernel_rfl) (by kernel_rfl) (by kernel_rfl) (fun _ _ _ h => h) (by rfl) ?yaptxy15 ?_
        case yaptxy15 => (intro w' hw'; go_simp; try (with_reducible rfl))
        simp only [Act.put]; try simp only [List.setIfInBounds_toArray]; try simp only [List.set_cons_zero, List.set_cons_succ]
        refine wpAnyV_take (pre_keptL (fun j => j < W.heap.size)) (i := 16) (d := some 39) (v := ?vaptxy16) rfl rfl (by kernel_rfl) (by kernel_rfl) (by kernel_rfl) (by kernel_rfl) (by kernel_rfl) (fun _ _ _ h => h) (by rfl) ?yaptxy16 ?_
        case yaptxy16 => (intro w' hw'; go_simp; try (with_reducible rfl))
        simp only [Act.put]; try simp only [List.setIfInBounds_toArray]; try simp only [List.set_cons_zero, List.set_cons_succ]
        refine wpAnyV_write (i := 17) rfl rfl (by kernel_rfl) (by rfl) fun K hK => ?_
        have hcs := (HW.out.later HBd.out).cells
        have c2 := hcs.2.2.1
        have f2 := hcs.2.2.2.2
        clear hcs
        go_simp
        refine hK.out _ _ ?_
        clear c2 f2
        clear hK K
        try simp only [Act.put]
        refine wpAnyV_done (by kernel_rfl) ?_ _
        have hls : ∀ p ∈ ts9, Lists F wd p.m p.s p.o p.i := fun p hp => by
          rw [e9.out, e6.out, List.nil_append] at hp
          rcases List.mem_append.1 hp with hp | hp
          · exact (HPS.out _ HBd.out).2 p hp
          · obtain rfl : p = (⟨(last : Int) + 1, m, s, o, i⟩ : ItemV) := by simpa using hp
            exact HMF.out.kept (Kept.of_below HBd.out _)
        have hl9 : ts9.length = n0 + 1 := by rw [e9.out, e6.out, List.nil_append, List.length_append, HPL.out]; rfl
        have hM9 : ts9.map ItemV.key = Q ++ [((last : Int) + 1, m)] := by rw [e9.out, e6.out, List.nil_append, List.map_append, HW.out.says]; rfl
        obtain ⟨q1, q2⟩ := HW.out.put HBd.out (own_items HO9.out HW.out.new hls) (by rw [hl9]; omega)
        rw [hM9] at q1
        have HQ1 := hide q1
        have HQ2 := hide q2
        obtain ⟨_, k1c, _, _, _⟩ := q1.cells
        clear q1 q2 hls hM9 hl9
        go_wp2
        go_ret2
        rw [HR.out]
        exact ⟨rfl, ⟨_, _, HQ1.out⟩, HGW.out.trans HQ2.out⟩
    · skip
      refine wp_buildSlice_one 77 81 _ (by rfl) i0 _ 35 Try.underlying77 hi hz0 hz1 (by decide) (by decide) ((⟨(last : Int) + 1, m, s, o, i⟩ : ItemV).cells).toArray (by rfl) (by rfl) ?_
      obtain ⟨wb, hwb⟩ : ∃ wb, wb = W.drew.alloc (.cells ((⟨(last : Int) + 1, m, s, o, i⟩ : ItemV).cells).toArray 81 (0, 0)) := ⟨_, rfl⟩
      have hbb : Below W.drew.heap.size W.drew wb := by rw [hwb]; exact (Below.refl _ _).alloc (Nat.le_refl _) _
      have HBb : Hid (Below W.heap.size W wb) := HB0.out.trans (hbb.mono HB0.out.size)
      obtain ⟨b9, hb9⟩ : ∃ b9, b9 = W.drew.heap.size := ⟨_, rfl⟩
      have F9 : Hid (ItemsIn (fun j => j = b9 ∨ j < W.heap.size) wb (.slice (some ⟨b9, 0, none⟩) 1 1) [(⟨(last : Int) + 1, m, s, o, i⟩ : ItemV)]) := by rw [hb9, hwb]; exact one_here W.drew (⟨(last : Int) + 1, m, s, o, i⟩ : ItemV) HS.out HB0.out
      have HB9 : Hid (b9 < wb.heap.size) := by rw [hb9, hwb]; show _ < _; simp
      have hl9 : W.drew.heap.size ≤ b9 := Nat.le_of_eq hb9.symm
      rw [← hb9]
      rw [← hwb]
      refine hK.out _ _ (Kept.of_below hbb _) ?_
      clear hbb hwb hb9 hl9
      clear hK K
      try (simp only [Act.put]; try simp only [List.setIfInBounds_toArray]; try simp only [List.set_cons_zero, List.set_cons_succ])
      refine wpAnyV_only (pre_keptL (fun j => j < W.heap.size)) (i := 1) rfl (by kernel_rfl) (by rfl) fun K hK => ?_
      refine wp_empty (by rfl) ?_
      intro wa he
      have HBa : Hid (Below W.heap.size W wa) := HBb.out.trans (he.2.1.mono HBb.out.size)
      have HE : Hid (IRow wa W.heap.size (.slice (some ⟨wb.heap.size, 0, none⟩) 0 0) []) := irow_base he.1 HBb.out.size
      have HG : Hid (W.heap.size ≤ wb.heap.size) := HBb.out.size
      have F9a : Hid (ItemsIn (fun j => j = b9 ∨ j < W.heap.size) wa (.slice (some ⟨b9, 0, none⟩) 1 1) [(⟨(last : Int) + 1, m, s, o, i⟩ : ItemV)]) := F9.out.kept (Kept.of_below he.2.1 _)
      have HNE : Hid (b9 ≠ wb.heap.size) := (by have := HB9.out; show _ ≠ _; omega)
      refine hK.out _ _ (Kept.of_below he.2.1 _) ?_
      clear he
      clear hK K
      try (simp only [Act.put]; try simp only [List.setIfInBounds_toArray]; try simp only [List.set_cons_zero, List.set_cons_succ])
      refine wpAnyV_only (pre_keptL (fun j => j < W.heap.size)) (i := 6) rfl (by kernel_rfl) (by rfl) fun K hK => ?_
      refine wp_append_items (B := W.heap.size) (qs := []) (rs := ps) (F := F) (G := F) _ _ (by rfl) (by rfl) HE.out (by simp) (by rfl) (HPS.out _ HBa.out) (by have := HPL.out; simp; omega) HBa.out.size ?_
      intro ts6 A6 cp6 wc e6 ho6 hg6 hc6
      have HO := hide ho6
      have HBc : Hid (Below W.heap.size W wc) := own_grown HBa.out HE.out hg6
      have hk6 : Kept (fun j => j < W.heap.size) wa wc := emp_grown hg6 HG.out
      have F9c : Hid (ItemsIn (fun j => j = b9 ∨ j < W.heap.size) wc (.slice (some ⟨b9, 0, none⟩) 1 1) [(⟨(last : Int) + 1, m, s, o, i⟩ : ItemV)]) := F9a.out.kept (Kept.of_grown hg6 (fun q e hq => by
        have e2 := own_lit e
        have h1 := HNE.out
        have h2 := HG.out
        rcases hq with hq | hq
        · exact h1 (hq.symm.trans e2.symm)
        · omega))
      refine hK.out _ _ hk6 ?_
      clear ho6 hg6 hk6
      clear hK K
      try (simp only [Act.put]; try simp only [List.setIfInBounds_toArray]; try simp only [List.set_cons_zero, List.set_cons_succ])
      refine wpAnyV_only (pre_keptL (fun j => j < W.heap.size)) (i := 14) rfl (by kernel_rfl) (by rfl) fun K hK => ?_
      refine wp_append_items (B := W.heap.size) (qs := ts6) (rs := [(⟨(last : Int) + 1, m, s, o, i⟩ : ItemV)]) (F := fun j => j = b9 ∨ j < W.heap.size) (G := F) _ _ (by rfl) (by rfl) HO.out (fun p hp => (by rw [e6.out, List.nil_append] at hp; exact (HPS.out _ HBc.out).2 p hp)) (by rfl) F9c.out (by have h1 := HPL.out; rw [e6.out]; simp; omega) HBc.out.size ?_
      intro ts9 A9 cp9 wd e9 ho9 hg9 hc9
      have HO9 := hide ho9
      have HBd : Hid (Below W.heap.size W wd) := own_grown HBc.out HO.out hg9
      have hk9 : Kept (fun j => j < W.heap.size) wc wd := Kept.of_grown hg9 (fun q e hq => by have h1 := (HO.out.lt q e).1; have h2 : q < W.heap.size := hq; omega)
      refine hK.out _ _ hk9 ?_
      clear ho9 hg9 hk9
      clear hK K
      try (simp only [Act.put]; try simp only [List.setIfInBounds_toArray]; try simp only [List.set_cons_zero, List.set_cons_succ])
      refine wpAnyV_take (pre_keptL (fun j => j < W.heap.size)) (i := 15) (d := some 38) (v := .pointer (some ⟨r, 0, none⟩)) rfl rfl (by kernel_rfl) (by kernel_rfl) (by kernel_rfl) (by kernel_rfl) (by kernel_rfl) (fun _ _ _ h => h) (by rfl) ?yapty15 ?_
      case yapty15 => (intro w' hw'; go_simp; try (with_reducible rfl))
      simp only [Act.put]; try simp only [List.setIfInBounds_toArray]; try simp only [List.set_cons_zero, List.set_cons_succ]
      refine wpAnyV_take (pre_keptL (fun j => j < W.heap.size)) (i := 16) (d := some 39) (v := ?vapty16) rfl rfl (by kernel_rfl) (by kernel_rfl) (by kernel_rfl) (by kernel_rfl) (by kernel_rfl) (fun _ _ _ h => h) (by rfl) ?yapty16 ?_
      case yapty16 => (intro w' hw'; go_simp; try (with_reducible rfl))
      simp only [Act.put]; try simp only [List.setIfInBounds_toArray]; try simp only [List.set_cons_zero, List.set_cons_succ]
      refine wpAnyV_write (i := 17) rfl rfl (by kernel_rfl) (by rfl) fun K hK => ?_
      have hcs := (HW.out.later HBd.out).cells
      have c2 := hcs.2.2.1
      have f2 := hcs.2.2.2.2
      clear hcs
      go_simp
      refine hK.out _ _ ?_
      clear c2 f2
      clear hK K
      try simp only [Act.put]
      refine wpAnyV_done (by kernel_rfl) ?_ _
      have hls : ∀ p ∈ ts9, Lists F wd p.m p.s p.o p.i := fun p hp => by
        rw [e9.out, e6.out, List.nil_append] at hp
        rcases List.mem_append.1 hp with hp | hp
        · exact (HPS.out _ HBd.out).2 p hp
        · obtain rfl : p = (⟨(last : Int) + 1, m, s, o, i⟩ : ItemV) := by simpa using hp
          exact HMF.out.kept (Kept.of_below HBd.out _)
      have hl9 : ts9.length = n0 + 1 := by rw [e9.out, e6.out, List.nil_append, List.length_append, HPL.out]; rfl
      have hM9 : ts9.map ItemV.key = Q ++ [((last : Int) + 1, m)] := by rw [e9.out, e6.out, List.nil_append, List.map_append, HW.out.says]; rfl
      obtain ⟨q1, q2⟩ := HW.out.put HBd.out (own_items HO9.out HW.out.new hls) (by rw [hl9]; omega)
      rw [hM9] at q1
      have HQ1 := hide q1
      have HQ2 := hide q2
      obtain ⟨_, k1c, _, _, _⟩ := q1.cells
      clear q1 q2 hls hM9 hl9
      go_wp2
      go_ret2
      rw [HR.out]
      exact ⟨rfl, ⟨_, _, HQ1.out⟩, HGW.out.trans HQ2.out⟩

/- The document's bag: Ids, To, Twice, Clear. -/

def idsQ (Q : List (Int × MsgD)) : List Int := Q.map (·.1)
def toQ (Q : List (Int × MsgD)) (place : Int) : List Int := idsQ (Q.filter fun x => x.2.dst == place)
theorem ids_snoc {Q : List (Int × MsgD)} {k : Nat} {x : Int × MsgD} (h : Q[k]? = some x) : idsQ (Q.take (k + 1)) = idsQ (Q.take k) ++ [x.1] := by
  rw [List.take_add_one, h]
  simp [idsQ]
theorem to_yes_snoc {Q : List (Int × MsgD)} {k : Nat} {x : Int × MsgD} {place : Int} (h : Q[k]? = some x) (hx : x.2.dst = place) : toQ (Q.take (k + 1)) place = toQ (Q.take k) place ++ [x.1] := by
  rw [List.take_add_one, h]
  simp [toQ, idsQ, List.filter_append, hx]
theorem to_no_snoc {Q : List (Int × MsgD)} {k : Nat} {x : Int × MsgD} {place : Int} (h : Q[k]? = some x) (hx : ¬ x.2.dst = place) : toQ (Q.take (k + 1)) place = toQ (Q.take k) place := by
  rw [List.take_add_one, h]
  simp [toQ, idsQ, List.filter_append, hx]
theorem to_le (Q : List (Int × MsgD)) (place : Int) (k : Nat) : (toQ (Q.take k) place).length ≤ k := by
  have h1 := List.length_filter_le (fun x : Int × MsgD => x.2.dst == place) (Q.take k)
  have h2 : (Q.take k).length ≤ k := by rw [List.length_take]; omega
  simp only [toQ, idsQ, List.length_map]
  omega
theorem ids_sub {Q : List (Int × MsgD)} {k : Nat} {x : Int} (h : x ∈ idsQ (Q.take k)) : x ∈ idsQ Q := by
  obtain ⟨y, hy, rfl⟩ := List.mem_map.1 h
  exact List.mem_map.2 ⟨y, List.mem_of_mem_take hy, rfl⟩
theorem to_sub {Q : List (Int × MsgD)} {k : Nat} {place : Int} {x : Int} (h : x ∈ toQ (Q.take k) place) : x ∈ idsQ Q := by
  obtain ⟨y, hy, rfl⟩ := List.mem_map.1 h
  exact List.mem_map.2 ⟨y, List.mem_of_mem_take (List.mem_filter.1 hy).1, rfl⟩
theorem own_none {w : World} {b e k : Nat} : w.ownsRow b e k (.slice none 0 0) 0 [] := ⟨by simp, .inl ⟨rfl, rfl⟩⟩
theorem int_lit (w : World) (a : Int) (h1 : -9223372036854775808 ≤ a) (h2 : a < 9223372036854775808) : IHolds (w.alloc (.cells #[.int .i64 a] 3 (0, 0))) (w.heap.size + 1) (some ⟨w.heap.size, 0, none⟩) 1 [a] :=
  ⟨rfl, fun x hx => by
    obtain rfl : x = a := by simpa using hx
    exact ⟨h1, h2⟩, fun _ => ⟨w.heap.size, 0, rfl, by omega, fun i hi => by
    rw [Nat.zero_add, cell_of_row _ _ _ _ _ _ (heap_alloc_new w _)]
    match i, hi with
    | 0, _ => rfl⟩⟩
theorem irow_same {w w' : World} {B e k n : Nat} {v : Value} {xs : List Value} (h : w.ownsRow B e k v n xs) (hk : ∀ q, v.ownBlock = some q → w'.heap[q]? = w.heap[q]?) : w'.ownsRow B e k v n xs := by
  refine ⟨h.1, ?_⟩
  rcases h.2 with h0 | ⟨g, cap, cur, hv, h1, h2, h3⟩
  · exact .inl h0
  · exact .inr ⟨g, cap, cur, hv, h1, (hk g (by rw [hv]; rfl)).trans h2, h3⟩
set_option maxHeartbeats 4000000 in
set_option maxRecDepth 100000 in
theorem refids_any {F : Nat → Prop} {r : Nat} {most : Int} {last : Nat} {Q : List (Int × MsgD)} (w : World) (h : RB F w r most last Q) (hfit : Fit (idsQ Q)) :
    Calls Try.prog 26 #[.pointer (some ⟨r, 0, none⟩)] w (NewInts w (idsQ Q)) := by
  obtain ⟨j0, hj, hy0, hy1, hy2⟩ := info_parts Try.infoI64
  have HJ := hide hj
  have HY0 := hide hy0
  have HY1 := hide hy1
  have HY2 := hide hy2
  obtain ⟨v, ps, h⟩ := h
  obtain ⟨A, cp, rfl, hn1, hn2⟩ := h.shape
  have hpl := h.plen
  have hql := h.len
  have hsay := h.says
  obtain ⟨_, _, c2, _, _⟩ := h.cells
  rw [← hpl] at c2 h
  have H := hide h
  have HS := hide hsay
  have HFIT := hide hfit
  have hps : ps.length ≤ 1000 := by omega
  have HPL := hide hpl
  clear h hsay hn1 hn2 hpl hql hfit hj hy0 hy1 hy2
  go_enter Try.func26, Try.ntmps26
  go_wp2
  go_loopw [3, 11] (fun t j wr => ∃ k m7 : Nat, ∃ A7 c7, k ≤ ps.length ∧ m7 ≤ k ∧ j = .int .i64 (k : Int) ∧ t = .slice A7 m7 c7 ∧ (idsQ (Q.take k)).length = m7 ∧ wr.ownsRow w.heap.size 3 1 t m7 (ivs (idsQ (Q.take k))) ∧ Below w.heap.size w wr) (fun _ j _ => ps.length - (Go.RowKit.intOf j).toNat)
  case atStart => exact ⟨0, 0, none, 0, by omega, by omega, rfl, rfl, by simp [idsQ], by simpa [idsQ, ivs] using own_none, Below.refl _ _⟩
  case round =>
    obtain ⟨k, m7, A7, c7, hk, hmk, rfl, rfl, hml, ho, hb⟩ := hrel
    have HB := hide hb
    have HO := hide ho
    have HML := hide hml
    clear hb ho hml
    by_cases hkn : k < ps.length
    · obtain ⟨p, b, off, c', hx, hv, _, _, _, hr, hli⟩ := ((H.out.later HB.out).items).at_ hkn
      obtain ⟨rfl, rfl⟩ : A = some ⟨b, off, none⟩ ∧ cp = c' := by injection hv with e1 _ e3; exact ⟨e1, e3⟩
      have HR := hide hr
      have HQ : Hid (Q[k]? = some p.key) := by
        show _ = _
        rw [← HS.out, List.getElem?_map, hx]
        rfl
      have HZ : Hid ((wr.alloc (.cells zitem 81 (0, 0))).heap[wr.heap.size]? = some (.cells zitem 81 (0, 0))) := heap_alloc_new _ _
      obtain ⟨k1, k2, k3⟩ := hli.cell
      obtain ⟨pid, hpid⟩ : ∃ x, x = p.id := ⟨_, rfl⟩
      obtain ⟨pd, hpd⟩ : ∃ x, x = p.m.dst := ⟨_, rfl⟩
      have HI := hide hpid
      have HD := hide hpd
      have HF : Hid (-9223372036854775808 ≤ pid ∧ pid < 9223372036854775808) := HFIT.out pid (List.mem_map.2 ⟨p.key, List.mem_of_getElem? HQ.out, hpid.symm⟩)
      clear hx hv hr hli hpid hpd
      have HSN := hide (ids_snoc HQ.out)
      go_wp2_with (first
        | (refine wpList_load_mid (by rfl) 81 _ (by rfl) b (off + k * 35) (by rfl) _ _ HR.out Try.underlying81 (by rfl) (by kernel_rfl) ?_)
        | (refine wpList_store_box (by rfl) 81 _ _ (by rfl) (wr.heap.size) 0 (p.cells.toArray) (by rfl) (by rfl) 81 (zitem) (HZ.out) (by kernel_rfl) (by exact Nat.le_of_ble_eq_true rfl) (by exact item_one p k1 k2 k3) ?_; intro w2 hb2 hg2; rw [put_item] at hb2; have f0 := box_at hb2 0 (.int .i64 p.id) (by rfl); have f3 := box_at hb2 3 (.int .i64 p.m.dst) (by rfl); rw [← HI.out] at f0; rw [← HD.out] at f3; have B2 : Below wr.heap.size wr w2 := ((Below.refl _ _).alloc (Nat.le_refl _) _).grown hg2 (by simp) (fun k hk => by have := Option.some.inj hk; omega); have LB2 : Hid (Below w.heap.size w w2) := HB.out.trans (B2.mono HB.out.size); have HO2 : Hid ((w2.alloc (.cells #[.int .i64 pid] 3 (0, 0))).ownsRow w.heap.size 3 1 (.slice A7 m7 c7) m7 (ivs (idsQ (Q.take k)))) := (irow_same HO.out (fun q hq => B2.block q (HO.out.lt q hq).2)).alloc _; have HLOW : Hid (w.heap.size ≤ (w2.alloc (.cells #[.int .i64 pid] 3 (0, 0))).heap.size) := (by have h1 := LB2.out.size; show _ ≤ _; simp; omega); clear B2)
        | (at_builtin; refine wpList_append_ints _ rfl (.tmp 15) (.tmp 18) 40 rfl w.heap.size 3 j0 (.int .i64 0) Try.underlying40 HJ.out HY0.out HY1.out HY2.out rfl (.slice A7 m7 c7) m7 (ivs (idsQ (Q.take k))) rfl HO2.out _ (some ⟨w2.heap.size, 0, none⟩) 1 1 [pid] rfl (int_lit w2 pid HF.out.1 HF.out.2) (by omega) (by exact HLOW.out) ?_))
      intro v5 w5 o5 g5
      have o6 : w5.ownsRow w.heap.size 3 1 v5 (m7 + 1) (ivs (idsQ (Q.take (k + 1)))) := by rw [HSN.out, ivs_append, show p.key.1 = pid from HI.out.symm]; exact o5
      obtain ⟨A5, c5, rfl, _, _, _⟩ := IHolds.of_own o6 (fun x hx => HFIT.out x (ids_sub hx))
      have O6 := hide o6
      have B5 : Hid (Below w.heap.size w w5) := (LB2.out.alloc LB2.out.size _).grown g5.1 HLOW.out (fun k hk => (HO2.out.lt k hk).1)
      clear o5 g5 o6 hb2 hg2 f0 f3
      go_wp2
      go_roundw
      case rel => exact ⟨k + 1, m7 + 1, A5, c5, by omega, by omega, by go_num, rfl, by rw [HSN.out, List.length_append, HML.out]; rfl, O6.out, B5.out⟩
      case measure => simp [Go.RowKit.intOf]; omega
    · obtain rfl : k = ps.length := by omega
      have hf : decide (ps.length < ps.length) = false := by simp
      have HTK : Hid (idsQ (Q.take ps.length) = idsQ Q) := by show _ = _; rw [List.take_of_length_le (by rw [HPL.out]; exact Nat.le_refl _)]
      obtain ⟨A', c', hv', h1, _, h3⟩ := IHolds.of_own HO.out (fun x hx => HFIT.out x (ids_sub hx))
      have HR : Hid (NewInts w (idsQ Q) (.returned (.slice A7 m7 c7)) wr) := by
        obtain ⟨rfl, rfl⟩ : A7 = A' ∧ c7 = c' := by injection hv' with e1 _ e3; exact ⟨e1, e3⟩
        have ho := HO.out
        rw [HTK.out] at ho h3
        exact ⟨A7, m7, c7, rfl, ho, h3, h1, HB.out⟩
      clear h1 h3 hv'
      go_wp2
      go_ret
      exact HR.out
set_option maxHeartbeats 4000000 in
set_option maxRecDepth 100000 in
theorem refto_any {F : Nat → Prop} {r : Nat} {most : Int} {last : Nat} {Q : List (Int × MsgD)} (place : Int) (w : World) (h : RB F w r most last Q) (hfit : Fit (idsQ Q)) :
    Calls Try.prog 28 #[.pointer (some ⟨r, 0, none⟩), .int .i64 place] w (NewInts w (toQ Q place)) := by
  obtain ⟨j0, hj, hy0, hy1, hy2⟩ := info_parts Try.infoI64
  have HJ := hide hj
  have HY0 := hide hy0
  have HY1 := hide hy1
  have HY2 := hide hy2
  obtain ⟨v, ps, h⟩ := h
  obtain ⟨A, cp, rfl, hn1, hn2⟩ := h.shape
  have hpl := h.plen
  have hql := h.len
  have hsay := h.says
  obtain ⟨_, _, c2, _, _⟩ := h.cells
  rw [← hpl] at c2 h
  have H := hide h
  have HS := hide hsay
  have HFIT := hide hfit
  have hps : ps.length ≤ 1000 := by omega
  have HPL := hide hpl
  clear h hsay hn1 hn2 hpl hql hfit hj hy0 hy1 hy2
  go_enter Try.func28, Try.ntmps28
  go_wp2
  go_loopw [5, 13] (fun t j wr => ∃ k m7 : Nat, ∃ A7 c7, k ≤ ps.length ∧ m7 ≤ k ∧ j = .int .i64 (k : Int) ∧ t = .slice A7 m7 c7 ∧ (toQ (Q.take k) place).length = m7 ∧ wr.ownsRow w.heap.size 3 1 t m7 (ivs (toQ (Q.take k) place)) ∧ Below w.heap.size w wr) (fun _ j _ => ps.length - (Go.RowKit.intOf j).toNat)
  case atStart => exact ⟨0, 0, none, 0, by omega, by omega, rfl, rfl, by simp [toQ, idsQ], by simpa [toQ, idsQ, ivs] using own_none, Below.refl _ _⟩
  case round =>
    obtain ⟨k, m7, A7, c7, hk, hmk, rfl, rfl, hml, ho, hb⟩ := hrel
    have HB := hide hb
    have HO := hide ho
    have HML := hide hml
    clear hb ho hml
    by_cases hkn : k < ps.length
    · obtain ⟨p, b, off, c', hx, hv, _, _, _, hr, hli⟩ := ((H.out.later HB.out).items).at_ hkn
      obtain ⟨rfl, rfl⟩ : A = some ⟨b, off, none⟩ ∧ cp = c' := by injection hv with e1 _ e3; exact ⟨e1, e3⟩
      have HR := hide hr
      have HQ : Hid (Q[k]? = some p.key) := by
        show _ = _
        rw [← HS.out, List.getElem?_map, hx]
        rfl
      have HZ : Hid ((wr.alloc (.cells zitem 81 (0, 0))).heap[wr.heap.size]? = some (.cells zitem 81 (0, 0))) := heap_alloc_new _ _
      obtain ⟨k1, k2, k3⟩ := hli.cell
      obtain ⟨pid, hpid⟩ : ∃ x, x = p.id := ⟨_, rfl⟩
      obtain ⟨pd, hpd⟩ : ∃ x, x = p.m.dst := ⟨_, rfl⟩
      have HI := hide hpid
      have HD := hide hpd
      have HF : Hid (-9223372036854775808 ≤ pid ∧ pid < 9223372036854775808) := HFIT.out pid (List.mem_map.2 ⟨p.key, List.mem_of_getElem? HQ.out, hpid.symm⟩)
      clear hx hv hr hli hpid hpd
      by_cases he : pd = place
      · have ht : (pd == place) = true := by simpa using he
        have HSN := hide (to_yes_snoc HQ.out (HD.out.symm.trans he))
        clear he
        go_wp2_with (first
          | (refine wpList_load_mid (by rfl) 81 _ (by rfl) b (off + k * 35) (by rfl) _ _ HR.out Try.underlying81 (by rfl) (by kernel_rfl) ?_)
          | (refine wpList_store_box (by rfl) 81 _ _ (by rfl) (wr.heap.size) 0 (p.cells.toArray) (by rfl) (by rfl) 81 (zitem) (HZ.out) (by kernel_rfl) (by exact Nat.le_of_ble_eq_true rfl) (by exact item_one p k1 k2 k3) ?_; intro w2 hb2 hg2; rw [put_item] at hb2; have f0 := box_at hb2 0 (.int .i64 p.id) (by rfl); have f3 := box_at hb2 3 (.int .i64 p.m.dst) (by rfl); rw [← HI.out] at f0; rw [← HD.out] at f3; have B2 : Below wr.heap.size wr w2 := ((Below.refl _ _).alloc (Nat.le_refl _) _).grown hg2 (by simp) (fun k hk => by have := Option.some.inj hk; omega); have LB2 : Hid (Below w.heap.size w w2) := HB.out.trans (B2.mono HB.out.size); have HO2 : Hid ((w2.alloc (.cells #[.int .i64 pid] 3 (0, 0))).ownsRow w.heap.size 3 1 (.slice A7 m7 c7) m7 (ivs (toQ (Q.take k) place))) := (irow_same HO.out (fun q hq => B2.block q (HO.out.lt q hq).2)).alloc _; have HLOW : Hid (w.heap.size ≤ (w2.alloc (.cells #[.int .i64 pid] 3 (0, 0))).heap.size) := (by have h1 := LB2.out.size; show _ ≤ _; simp; omega); clear B2)
          | (at_builtin; refine wpList_append_ints _ rfl (.tmp 22) (.tmp 25) 40 rfl w.heap.size 3 j0 (.int .i64 0) Try.underlying40 HJ.out HY0.out HY1.out HY2.out rfl (.slice A7 m7 c7) m7 (ivs (toQ (Q.take k) place)) rfl HO2.out _ (some ⟨w2.heap.size, 0, none⟩) 1 1 [pid] rfl (int_lit w2 pid HF.out.1 HF.out.2) (by omega) (by exact HLOW.out) ?_))
        intro v5 w5 o5 g5
        have o6 : w5.ownsRow w.heap.size 3 1 v5 (m7 + 1) (ivs (toQ (Q.take (k + 1)) place)) := by rw [HSN.out, ivs_append, show p.key.1 = pid from HI.out.symm]; exact o5
        obtain ⟨A5, c5, rfl, _, _, _⟩ := IHolds.of_own o6 (fun x hx => HFIT.out x (to_sub hx))
        have O6 := hide o6
        have B5 : Hid (Below w.heap.size w w5) := (LB2.out.alloc LB2.out.size _).grown g5.1 HLOW.out (fun k hk => (HO2.out.lt k hk).1)
        clear o5 g5 o6 hb2 hg2 f0 f3
        go_wp2
        go_roundw
        case rel => exact ⟨k + 1, m7 + 1, A5, c5, by omega, by omega, by go_num, rfl, by rw [HSN.out, List.length_append, HML.out]; rfl, O6.out, B5.out⟩
        case measure => simp [Go.RowKit.intOf]; omega
      · have ht : (pd == place) = false := by simpa using he
        have HSN := hide (to_no_snoc (place := place) HQ.out (fun e => he (HD.out.trans e)))
        clear he
        go_wp2_with (first
          | (refine wpList_load_mid (by rfl) 81 _ (by rfl) b (off + k * 35) (by rfl) _ _ HR.out Try.underlying81 (by rfl) (by kernel_rfl) ?_)
          | (refine wpList_store_box (by rfl) 81 _ _ (by rfl) (wr.heap.size) 0 (p.cells.toArray) (by rfl) (by rfl) 81 (zitem) (HZ.out) (by kernel_rfl) (by exact Nat.le_of_ble_eq_true rfl) (by exact item_one p k1 k2 k3) ?_; intro w2 hb2 hg2; rw [put_item] at hb2; have f0 := box_at hb2 0 (.int .i64 p.id) (by rfl); have f3 := box_at hb2 3 (.int .i64 p.m.dst) (by rfl); rw [← HI.out] at f0; rw [← HD.out] at f3))
        have B2 : Below wr.heap.size wr w2 := ((Below.refl _ _).alloc (Nat.le_refl _) _).grown hg2 (by simp) (fun k hk => by have := Option.some.inj hk; omega)
        have O2 : Hid (w2.ownsRow w.heap.size 3 1 (.slice A7 m7 c7) m7 (ivs (toQ (Q.take (k + 1)) place))) := by rw [HSN.out]; exact irow_same HO.out (fun q hq => B2.block q (HO.out.lt q hq).2)
        have LB2 : Hid (Below w.heap.size w w2) := HB.out.trans (B2.mono HB.out.size)
        clear hb2 hg2 f0 f3 B2
        go_roundw
        case rel => exact ⟨k + 1, m7, A7, c7, by omega, by omega, by go_num, rfl, by rw [HSN.out, HML.out], O2.out, LB2.out⟩
        case measure => simp [Go.RowKit.intOf]; omega
    · obtain rfl : k = ps.length := by omega
      have hf : decide (ps.length < ps.length) = false := by simp
      have HTK : Hid (toQ (Q.take ps.length) place = toQ Q place) := by show _ = _; rw [List.take_of_length_le (by rw [HPL.out]; exact Nat.le_refl _)]
      obtain ⟨A', c', hv', h1, _, h3⟩ := IHolds.of_own HO.out (fun x hx => HFIT.out x (to_sub hx))
      have HR : Hid (NewInts w (toQ Q place) (.returned (.slice A7 m7 c7)) wr) := by
        obtain ⟨rfl, rfl⟩ : A7 = A' ∧ c7 = c' := by injection hv' with e1 _ e3; exact ⟨e1, e3⟩
        have ho := HO.out
        rw [HTK.out] at ho h3
        exact ⟨A7, m7, c7, rfl, ho, h3, h1, HB.out⟩
      clear h1 h3 hv'
      go_wp2
      go_ret
      exact HR.out

/- The document's bag: Twice, Clear. -/

def twiceQ (most : Int) (last : Nat) (Q : List (Int × MsgD)) (id : Int) : Int × Int × Nat × List (Int × MsgD) :=
  match qAt Q id with | none => (0, 8, last, Q) | some m => putQ most last Q m
/-- What a call of the document's bag leaves. -/
def LeftQ (F : Nat → Prop) (r : Nat) (most : Int) (x : Int × Int × Nat × List (Int × MsgD)) (w : World) (e : Ending) (w' : World) : Prop :=
  e = .returned (.tuple #[.int .i64 x.1, .int .i64 x.2.1]) ∧ RB F w' r most x.2.2.1 x.2.2.2 ∧ w.grownBy w' (some r)
set_option maxHeartbeats 2000000 in
set_option maxRecDepth 100000 in
theorem reftwice_any {F : Nat → Prop} {r : Nat} {most : Int} {last : Nat} {Q : List (Int × MsgD)} (id : Int) (w : World) (h : RB F w r most last Q) (hlast : last < 1000000) (hlen : Q.length < 1000) :
    Calls Try.prog 19 #[.pointer (some ⟨r, 0, none⟩), .int .i64 id] w (LeftQ F r most (twiceQ most last Q id) w) := by
  have CL := hide (reflook_any id w h)
  have H := hide h
  rcases hq : qAt Q id with _ | m
  · have HT : Hid (twiceQ most last Q id = (0, 8, last, Q)) := by show _ = _; unfold twiceQ; rw [hq]
    have hl : lookQ Q id = (.zero, false) := by unfold lookQ; rw [hq]
    rw [hl] at CL
    clear hq hl h
    go_enter Try.func19, Try.ntmps19
    go_wp2_with (fail)
    refine CL.out.mono ?_
    rintro e w1 ⟨s, o, i, rfl, hli, hb⟩
    have HB := hide hb
    obtain ⟨k1, k2, k3⟩ := hli.cell
    clear hb hli
    go_wp2_with (refine wpList_store_box (by rfl) 42 _ _ (by rfl) (w1.heap.size) 0 ((MsgD.zero.cells s o i).toArray) (by rfl) (by rfl) 42 (zcells) (heap_alloc_new w1 _) (by kernel_rfl) (by exact Nat.le_of_ble_eq_true rfl) (by exact MsgD.zero.one k1 k2 k3) ?_; intro w4 hb4 hg4)
    go_ret2
    have B4 : Below w.heap.size w w4 := (HB.out.alloc HB.out.size _).grown hg4 (Nat.le_trans HB.out.size (by simp)) (fun k hk => by have := Option.some.inj hk; have := HB.out.size; omega)
    rw [HT.out]
    exact ⟨rfl, H.out.later B4, grown_later B4 _⟩
  · have HT : Hid (twiceQ most last Q id = putQ most last Q m) := by show _ = _; unfold twiceQ; rw [hq]
    have hl : lookQ Q id = (m, true) := by unfold lookQ; rw [hq]
    rw [hl] at CL
    clear hq hl h
    go_enter Try.func19, Try.ntmps19
    go_wp2_with (fail)
    refine CL.out.mono ?_
    rintro e w1 ⟨s, o, i, rfl, hli, hb⟩
    have HB := hide hb
    have HLI := hide hli
    obtain ⟨k1, k2, k3⟩ := hli.cell
    clear hb hli
    go_wp2_with (first
      | (refine wpList_store_box (by rfl) 42 _ _ (by rfl) (w1.heap.size) 0 ((m.cells s o i).toArray) (by rfl) (by rfl) 42 (zcells) (heap_alloc_new w1 _) (by kernel_rfl) (by exact Nat.le_of_ble_eq_true rfl) (by exact m.one k1 k2 k3) ?_; intro w4 hb4 hg4; rw [put_zmsg] at hb4)
      | (refine wpList_load_box (by rfl) 42 _ (by rfl) (w1.heap.size) 0 (by rfl) 42 _ hb4 34 _ Try.underlying42 (by rfl) (by kernel_rfl) (m.cells s o i) (by rfl) (by rfl) ?_))
    have B14 : Below w1.heap.size w1 w4 := ((Below.refl _ _).alloc (Nat.le_refl _) _).grown hg4 (by simp) (fun k hk => by have := Option.some.inj hk; omega)
    have B4 : Hid (Below w.heap.size w w4) := HB.out.trans (B14.mono HB.out.size)
    have HLI4 := hide (HLI.out.kept (Kept.of_below B14 _))
    clear hb4 hg4 B14
    refine (refput_any m s o i w4 (H.out.later B4.out) HLI4.out hlast hlen).mono ?_
    rintro e w5 ⟨rfl, hr5, hg5⟩
    have HR5 := hide hr5
    have HG5 := hide hg5
    clear hr5 hg5
    go_wp2
    go_ret2
    rw [HT.out]
    exact ⟨rfl, HR5.out, (grown_later B4.out _).trans HG5.out⟩

/-- Without these numbers, one behind the other. -/
def dropsQ (Q : List (Int × MsgD)) (l : List Int) : List (Int × MsgD) := l.foldl dropQ Q
def clearQ (Q : List (Int × MsgD)) (place : Int) : List (Int × MsgD) := Q.filter fun x => !(x.2.dst == place)
theorem dropsQ_eq : ∀ (l : List Int) (Q : List (Int × MsgD)), dropsQ Q l = Q.filter fun x => !(l.contains x.1)
  | [], Q => by
    show Q = _
    exact (List.filter_eq_self.2 fun _ _ => by simp).symm
  | a :: l, Q => by
    have h := dropsQ_eq l (dropQ Q a)
    unfold dropsQ at h ⊢
    rw [List.foldl_cons, h]
    unfold dropQ
    rw [List.filter_filter]
    congr 1
    funext x
    rw [List.contains_cons, Bool.not_or, Bool.and_comm]
theorem rise_one : ∀ {Q : List (Int × MsgD)}, Rise Q → ∀ {x y : Int × MsgD}, x ∈ Q → y ∈ Q → x.1 = y.1 → x = y
  | [], _, _, _, h, _, _ => by cases h
  | z :: r, hr, x, y, hx, hy, e => by
    have hp := List.pairwise_cons.1 hr
    rcases List.mem_cons.1 hx with h1 | h1 <;> rcases List.mem_cons.1 hy with h2 | h2
    · rw [h1, h2]
    · have := hp.1 y h2; rw [h1] at e; omega
    · have := hp.1 x h1; rw [h2] at e; omega
    · exact rise_one hp.2 h1 h2 e
theorem drops_to {Q : List (Int × MsgD)} (h : Rise Q) (place : Int) : dropsQ Q (toQ Q place) = clearQ Q place := by
  rw [dropsQ_eq]
  unfold clearQ
  apply List.filter_congr
  intro x hx
  congr 1
  rw [Bool.eq_iff_iff, List.contains_iff_mem]
  constructor
  · intro hm
    obtain ⟨y, hy, e⟩ := List.mem_map.1 hm
    obtain ⟨hy1, hy2⟩ := List.mem_filter.1 hy
    rw [rise_one h hx hy1 e.symm]
    exact hy2
  · intro hd
    exact List.mem_map.2 ⟨x, List.mem_filter.2 ⟨hx, hd⟩, rfl⟩
theorem rise_drops {Q : List (Int × MsgD)} (h : Rise Q) (l : List Int) : Rise (dropsQ Q l) := by
  rw [dropsQ_eq]
  exact h.sublist List.filter_sublist
theorem drops_snoc (Q : List (Int × MsgD)) {l : List Int} {j : Nat} (hj : j < l.length) : dropsQ Q (l.take (j + 1)) = dropQ (dropsQ Q (l.take j)) (l.getD j 0) := by
  have e : l.take (j + 1) = l.take j ++ [l.getD j 0] := by
    rw [List.take_succ_eq_append_getElem hj]
    simp [List.getD, hj]
  unfold dropsQ
  rw [e, List.foldl_append]
  rfl
set_option maxHeartbeats 2000000 in
set_option maxRecDepth 100000 in
theorem refclear_any {F : Nat → Prop} {r : Nat} {most : Int} {last : Nat} {Q : List (Int × MsgD)} (place : Int) (w : World) (h : RB F w r most last Q) (hfit : Fit (idsQ Q)) (hr : Rise Q) :
    Calls Try.prog 21 #[.pointer (some ⟨r, 0, none⟩), .int .i64 place] w fun e w' => e = .returned (.int .i64 ((toQ Q place).length : Int)) ∧ RB F w' r most last (clearQ Q place) ∧ w.grownBy w' (some r) := by
  have CT := hide (refto_any place w h hfit)
  have CK := hide (fun (w' : World) (Q' : List (Int × MsgD)) (id : Int) (h' : RB F w' r most last Q') (hr' : Rise Q') => reftake_any id w' h' hr')
  have H := hide h
  have HR := hide hr
  have hrl := h.lt
  have htl : (toQ Q place).length ≤ 1000 := by
    have h1 := to_le Q place Q.length
    rw [List.take_length] at h1
    exact Nat.le_trans h1 h.len
  obtain ⟨l, hl⟩ : ∃ l, l = toQ Q place := ⟨_, rfl⟩
  have HE : Hid (dropsQ Q l = clearQ Q place) := by show _ = _; rw [hl]; exact drops_to hr place
  have HFL : Hid (Fit l) := by
    rw [hl]
    intro x hx
    obtain ⟨y, hy, rfl⟩ := List.mem_map.1 hx
    exact hfit _ (List.mem_map.2 ⟨y, (List.mem_filter.1 hy).1, rfl⟩)
  have HLE := hide hl
  rw [← hl] at CT htl
  clear h hr hl hfit
  go_enter Try.func21, Try.ntmps21
  go_wp2_with (fail)
  refine CT.out.mono ?_
  rintro e w1 ⟨A, n, c, rfl, hown, hi, _, hb⟩
  obtain rfl : l.length = n := hi.1
  have HO := hide hown
  have HB := hide hb
  have H1 := hide (H.out.later hb)
  clear hown hi hb
  go_wp2
  go_loopw [13] (fun t wr => ∃ j : Nat, j ≤ l.length ∧ t = .int .i64 (j : Int) ∧ RB F wr r most last (dropsQ Q (l.take j)) ∧ w1.grownBy wr (some r)) (fun t _ => l.length - (Go.RowKit.intOf t).toNat)
  case atStart => exact ⟨0, by omega, rfl, H1.out, World.grownBy.refl _ _⟩
  case round =>
    obtain ⟨j, hj, rfl, hrb, hg⟩ := hrel
    have HRB := hide hrb
    have HG := hide hg
    clear hrb hg
    by_cases hjl : j < l.length
    · have ho2 := HO.out.kept HG.out (.inr fun e => by have := (HO.out.lt r e).1; omega)
      obtain ⟨g, c', hv, hgw, hgl, hn, _⟩ := iown_at ho2 (by omega)
      obtain ⟨rfl, rfl⟩ : A = some ⟨g, 0, none⟩ ∧ c = c' := by injection hv with e1 _ e3; exact ⟨e1, e3⟩
      have c0 := iown_cell ho2 hjl
      have HSN := hide (drops_snoc Q hjl)
      obtain ⟨id, hid⟩ : ∃ id, id = l.getD j 0 := ⟨_, rfl⟩
      rw [← hid] at c0 HSN
      have C := hide (CK.out wr _ id HRB.out (rise_drops HR.out _))
      clear ho2 hv hid
      go_wp2_with (fail)
      refine C.out.mono ?_
      rintro e w2 ⟨s, o, i, rfl, _, hrb2, hg2⟩
      have HRB2 := hide hrb2
      have HG2 := hide hg2
      clear hrb2 hg2
      go_wp2
      go_roundw
      case rel => exact ⟨j + 1, by omega, by go_num, by rw [HSN.out]; exact HRB2.out, HG.out.trans HG2.out⟩
      case measure => simp [Go.RowKit.intOf]; omega
    · obtain rfl : j = l.length := by omega
      have hf : decide (l.length < l.length) = false := by simp
      have HF : Hid (RB F wr r most last (clearQ Q place)) := by have h1 := HRB.out; rw [List.take_length, HE.out] at h1; exact h1
      go_wp2
      go_ret
      exact ⟨ret_int (by rw [HLE.out]), HF.out, (grown_later HB.out _).trans HG.out⟩
end Go.Proofs.Ytaimnhlpdkpobaa
