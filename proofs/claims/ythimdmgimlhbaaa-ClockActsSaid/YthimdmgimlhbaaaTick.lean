/- Tick of package clock. -/
import Derived.Test.YthimdmgimlhbaaaTickK
namespace Go.Proofs.Ythimdmgimlhbaaa
open Go.RowKit Go.Maps

def slen : Value → Nat
  | .slice _ n _ => n
  | _ => 0
theorem ints_lit (w : World) (T : TypeId) (a : Int) (h1 : -9223372036854775808 ≤ a) (h2 : a < 9223372036854775808) : IHolds (w.alloc (.cells #[.int .i64 a] T (0, 0))) (w.heap.size + 1) (some ⟨w.heap.size, 0, none⟩) 1 [a] :=
  ⟨rfl, fun x hx => by
    obtain rfl : x = a := by simpa using hx
    exact ⟨h1, h2⟩, fun _ => ⟨w.heap.size, 0, rfl, by omega, fun i hi => by
    rw [Nat.zero_add, cell_of_row _ _ _ _ _ _ (heap_alloc_new w _)]
    match i, hi with
    | 0, _ => rfl⟩⟩

/-- Where the loop of Tick stands. -/
structure Ticking (S : Nat → Prop) (w wr : World) (c k b base cnt : Nat) (now1 : Int) (L Lj : List (Int × Int)) (ns : List Int) (v : Value) : Prop where
  clock : ClockAt S wr c k b base cnt now1 Lj
  own : wr.ownsRow w.heap.size 3 1 v ns.length (ivs ns)
  turned : Turned S w wr
  due : ns ++ namesT (dueT Lj now1) = namesT (dueT L now1)
  rest : restT Lj now1 = restT L now1
  fit : ∀ p ∈ L, T64 p

/-- What Tick hands back: the names of those whose time is over, in new memory, and the clock without them. -/
def TickTo (S : Nat → Prop) (w : World) (c k b base cnt : Nat) (now : Int) (L : List (Int × Int)) (e : Ending) (w' : World) : Prop :=
  ∃ A n cp, e = .returned (.slice A n cp) ∧ w'.ownsRow w.heap.size 3 1 (.slice A n cp) n (ivs (namesT (dueT L (now + 1)))) ∧ IHolds w' w'.heap.size A n (namesT (dueT L (now + 1))) ∧ n ≤ cp ∧
    ClockAt S w' c k b base cnt (now + 1) (restT L (now + 1)) ∧ Turned S w w'

section
variable {S : Nat → Prop} {c k b base cnt : Nat} {now : Int} {L : List (Int × Int)}
theorem Ticking.over {w wr w' : World} {Lj : List (Int × Int)} {ns : List Int} {v : Value} (h : Ticking S w wr c k b base cnt (now + 1) L Lj ns v) (hb : Below wr.heap.size wr w') (hn : ∀ q ∈ Lj, now + 1 < q.1) :
    TickTo S w c k b base cnt now L (.returned v) w' := by
  obtain ⟨d1, d2⟩ := due_none hn
  have h1 := h.due
  rw [d1] at h1
  have h2 := h.rest
  rw [d2] at h2
  have e1 : ns = namesT (dueT L (now + 1)) := by simpa [namesT] using h1
  have hfit : Fit ns := by
    rw [e1]
    exact names_fit fun p hp => h.fit p (List.mem_filter.1 hp).1
  have ho := own_below h.own hb
  obtain ⟨A, cp, hv, h3, _, h4⟩ := IHolds.of_own ho hfit
  subst hv
  rw [e1] at ho h4 h3
  refine ⟨A, _, cp, by rw [e1], ho, h4, h3, ?_, h.turned.trans (Turned.of_below hb S)⟩
  rw [← h2]
  exact h.clock.later hb
theorem HeapAt.first {w : World} {now1 mp hv : Value} {hs : List (Int × Int)} (h : HeapAt w base k now1 mp hv hs) (hpos : 0 < hs.length) :
    ∃ g cp p, hv = .slice (some ⟨g, 0, none⟩) hs.length cp ∧ hs.length ≤ cp ∧ cp ≤ maxLen ∧ p ∈ hs ∧ (∀ q ∈ hs, tkey p ≤ tkey q) ∧ w.cell? ⟨g, 0, none⟩ = some (.int .i64 p.1) ∧ w.cell? ⟨g, 1, none⟩ = some (.int .i64 p.2) := by
  obtain ⟨g, cp, rfl, _, _, h1, h2⟩ := own_place h.own hpos
  have hr : TRow w base g hs.length cp hs := h.own
  have hg := hr.range (i := 0) hpos
  refine ⟨g, cp, hs.getD 0 (0, 0), rfl, h1, h2, ?_, fun q hq => ?_, hg 0 _ rfl, hg 1 _ rfl⟩
  · rw [List.getD_eq_getElem?_getD, List.getElem?_eq_getElem hpos]
    exact List.getElem_mem hpos
  · obtain ⟨i, hi, rfl⟩ := List.getElem_of_mem hq
    have := h.heap.least hi
    unfold kf at this
    rw [List.getD_eq_getElem?_getD (i := i), List.getElem?_eq_getElem hi] at this
    exact this
theorem Ticking.step {w wr w3 w5 : World} {Lj : List (Int × Int)} {ns : List Int} {v v5 : Value} {p : Int × Int} (h : Ticking S w wr c k b base cnt (now + 1) L Lj ns v) (hS : ∀ i, S i → i < w.heap.size)
    (hp : p ∈ Lj) (hd : p.1 ≤ now + 1) (hmin : ∀ q ∈ Lj, tkey p ≤ tkey q) (hc : ClockAt S w3 c k b base cnt (now + 1) (delT Lj p.2)) (ht : Turned S wr w3)
    (ho : w5.ownsRow w.heap.size 3 1 v5 (ns.length + 1) (ivs ns ++ ivs [p.2])) (hg : (w3.alloc (.cells #[.int .i64 p.2] 3 (0, 0))).grownBy w5 v.ownBlock) :
    Ticking S w w5 c k b base cnt (now + 1) L (delT Lj p.2) (ns ++ [p.2]) v5 := by
  obtain ⟨s1, s2⟩ := due_step h.clock.rise h.clock.t64 (fun q hq => (h.clock.ends q hq).1) hp hd hmin
  have hv : ∀ q, v.ownBlock = some q → w.heap.size ≤ q := fun q e => (h.own.lt q e).1
  have h4 := hc.later ((Below.refl w3.heap.size w3).alloc (Nat.le_refl _) (.cells #[.int .i64 p.2] 3 (0, 0)))
  have T4 : Turned S wr (w3.alloc (.cells #[.int .i64 p.2] 3 (0, 0))) := ht.trans (Turned.of_below ((Below.refl w3.heap.size w3).alloc (Nat.le_refl _) _) S)
  refine ⟨h4.kept (Kept.of_grown hg fun g e hs => ?_), ?_, ?_, ?_, s2.trans h.rest, h.fit⟩
  · have := hv g e
    have := hS g hs
    omega
  · rw [ivs_append, List.length_append]
    exact ho
  · refine h.turned.trans ?_ |>.onto (T := fun i => w.heap.size ≤ i) (Turned.of_grown hg fun g e => hv g e) fun i hi => .inr hi
    exact T4
  · rw [← h.due, s1]
    simp [namesT]
theorem ClockAt.ticked {w : World} (h : ClockAt S w c k b base cnt now L) (hlt : ∀ p ∈ L, now < p.1) (hnow : now < 1000000) :
    ClockAt S (w.setCell ⟨k, 0, none⟩ (.int .i64 (now + 1))) c k b base cnt (now + 1) L ∧ Turned S w (w.setCell ⟨k, 0, none⟩ (.int .i64 (now + 1))) := by
  obtain ⟨hv, hs, hh, hp, hq⟩ := h.heap
  have hT : Turned (fun i => i = k) w (w.setCell ⟨k, 0, none⟩ (.int .i64 (now + 1))) := Turned.of_grown (grown_set w k 0 _) fun g e => (Option.some.inj e).symm
  have hne := h.ne
  refine ⟨⟨(hT.block c h.klt.1 hne.1).trans h.cell, ?_, ⟨hv, hs, ⟨heap_setCell_same w k 0 _ _ _ hh.cell, hh.kb, Nat.le_trans hh.bw hT.size, ?_, hh.heap, hh.t64, hh.len⟩, hp, hq⟩, h.rise, h.inn, h.lt, hne, ?_, fun p hp' => ?_, h.len⟩, hT.mono fun i hi => by subst hi; exact h.inn.2.1⟩
  · obtain ⟨es, clock, hb, rest⟩ := h.map
    exact ⟨es, clock, (hT.block b (lt_of_block hb) hne.2.1).trans hb, rest⟩
  · refine ⟨hh.own.1, ?_⟩
    rcases hh.own.2 with h0 | ⟨g, cap, cur, e, h1, h2, h3⟩
    · exact .inl h0
    · exact .inr ⟨g, cap, cur, e, h1, (hT.block g (lt_of_block h2) (by have := hh.kb; omega)).trans h2, h3⟩
  · have := h.time
    omega
  · have := hlt p hp'
    have := h.ends p hp'
    omega

set_option maxHeartbeats 2000000 in
set_option maxRecDepth 100000 in
theorem tick_yes (w : World) (h : ClockAt S w c k b base cnt now L) (hS : ∀ i, S i → i < w.heap.size) (hlt : ∀ p ∈ L, now < p.1) (hnow : now < 1000000) :
    Calls Try.prog 12 #[.pointer (some ⟨c, 0, none⟩)] w (TickTo S w c k b base cnt now L) := by
  obtain ⟨i0, hi, hz0, hz1, hz2⟩ := info_parts Try.infoI64
  have HI := hide hi
  have HZ0 := hide hz0
  have HZ1 := hide hz1
  have HZ2 := hide hz2
  have C := hide (made_yes w h)
  have HT := hide (h.ticked hlt hnow)
  have HFIT := hide h.t64
  have HSS := hide hS
  obtain ⟨ht0, ht1⟩ := h.time
  have hlen := h.len
  obtain ⟨c0, k0, k1, kf⟩ := h.cells
  have hwr : IntKind.i64.wrap (now + 1) = now + 1 := IntWalk.i64_in _ (by omega)
  clear h hlt hi hz0 hz1 hz2 hS
  go_enter Try.func12, Try.ntmps12
  go_wp2_with (fail)
  refine C.out.mono ?_
  rintro e w1 ⟨rfl, rfl⟩
  go_wp2
  obtain ⟨w1, hw1⟩ : ∃ w1, w1 = w.setCell ⟨k, 0, none⟩ (.int .i64 (now + 1)) := ⟨_, rfl⟩
  rw [← hw1] at HT ⊢
  clear hw1 c0 k0 k1 kf hwr C
  go_loopw [3] (fun v wr => ∃ A n cp ns Lj, v = .slice A n cp ∧ n = ns.length ∧ Ticking S w wr c k b base cnt (now + 1) L Lj ns (.slice A n cp)) (fun v _ => L.length - slen v)
  case atStart => exact ⟨none, 0, 0, [], L, rfl, rfl, HT.out.1, World.ownsRow_nil _ _ _ _, HT.out.2, rfl, rfl, HFIT.out⟩
  case round =>
    obtain ⟨A, n, cp, ns, Lj, rfl, hn, htk⟩ := hrel
    have HTK := hide htk
    have HN := hide hn
    have hns : n + (dueT Lj (now + 1)).length = (dueT L (now + 1)).length := by
      have := congrArg List.length htk.due
      simp [namesT] at this
      omega
    have hdl : (dueT L (now + 1)).length ≤ L.length := List.length_filter_le _ _
    obtain ⟨c0, k0, k1, kf⟩ := htk.clock.cells
    obtain ⟨hv, hs, hh, hp, hq⟩ := htk.clock.heap
    have k2 := cell_of_row wr k 2 _ _ _ hh.cell
    simp only [List.getElem?_toArray, List.getElem?_cons_zero, List.getElem?_cons_succ] at k2
    have HP := hide hp
    by_cases hpos : 0 < hs.length
    · obtain ⟨g, cq, p, rfl, hc1, hc2, hmem, hmin, g0, g1⟩ := hh.first hpos
      obtain ⟨m, hm⟩ : ∃ m, m = hs.length := ⟨_, rfl⟩
      rw [← hm] at k2 hc1 hpos
      unfold maxLen at hc2
      have hpm : (0 : Int) < (m : Int) := by omega
      have HMEM := hide (hp.mem_iff.1 hmem)
      have HMIN : Hid (∀ q ∈ Lj, tkey p ≤ tkey q) := fun q hq => hmin q (hp.mem_iff.2 hq)
      have ht64 := htk.clock.t64 p HMEM.out
      obtain ⟨⟨t1, t2⟩, t3, t4⟩ := ht64
      have hdue : p.1 ≤ now + 1 → 0 < (dueT Lj (now + 1)).length := fun hd => List.length_pos_of_mem (List.mem_filter.2 ⟨HMEM.out, by simpa using hd⟩)
      obtain ⟨e1, nm⟩ := p
      simp only at g0 g1 t1 t2 t3 t4 hdue
      have HDUE := hide hdue
      clear htk hn hh hp hq hm hmem hmin hdue
      by_cases hd : e1 ≤ now + 1
      · have hroom : n + 1 ≤ L.length := by
          have := HDUE.out hd
          omega
        have HD := hide hd
        go_wp2
        go_quiet (fail)
        go_wp2_with (fail)
        have hcl : ClockAt S (wr.drewN nq) c k b base cnt (now + 1) Lj := HTK.out.clock.kept (Kept.drewN _ _ _)
        refine (stop_yes nm _ hcl t3 t4).mono ?_
        clear hcl
        rintro e w3 ⟨rfl, hc3, ht3⟩
        have HC3 := hide hc3
        have HT3 : Hid (Turned S wr w3) := (Turned.drewN S wr nq).trans ht3
        have HO : Hid ((w3.alloc (.cells #[.int .i64 nm] 3 (0, 0))).ownsRow w.heap.size 3 1 (.slice A n cp) n (ivs ns)) := by
          have h1 : w3.ownsRow w.heap.size 3 1 (.slice A n cp) ns.length (ivs ns) := by
            refine ⟨HTK.out.own.1, ?_⟩
            rcases HTK.out.own.2 with h0 | ⟨g', cap, cur, e', a1, a2, a3⟩
            · exact .inl h0
            · exact .inr ⟨g', cap, cur, e', a1, (HT3.out.block g' (lt_of_block a2) (fun hs' => by have := HSS.out g' hs'; omega)).trans a2, a3⟩
          rw [← HN.out] at h1
          exact h1.alloc _
        have HLOW : Hid (w.heap.size ≤ (w3.alloc (.cells #[.int .i64 nm] 3 (0, 0))).heap.size) := by
          have h1 := HTK.out.turned.size
          have h2 := HT3.out.size
          show _ ≤ _
          simp
          omega
        clear hc3 ht3 c0 k0 k1 kf k2 g0 g1
        go_wp2_with (at_builtin; refine wpList_append_ints _ rfl (.tmp 60) (.tmp 62) 33 rfl w.heap.size 3 i0 (.int .i64 0) Try.underlying33 HI.out HZ0.out HZ1.out HZ2.out rfl (.slice A n cp) n (ivs ns) rfl HO.out _ (some ⟨w3.heap.size, 0, none⟩) 1 1 [nm] rfl (ints_lit w3 3 nm t3 t4) (by omega) (by exact HLOW.out) ?_; intro v5 w5 o5 g5)
        have HS5 : Hid (Ticking S w w5 c k b base cnt (now + 1) L (delT Lj nm) (ns ++ [nm]) v5) := HTK.out.step (p := (e1, nm)) HSS.out HMEM.out HD.out HMIN.out HC3.out HT3.out (by rw [← HN.out]; exact o5) g5.1
        obtain ⟨A5, c5, hv5, _, _, _⟩ := IHolds.of_own HS5.out.own (by
          have hfit : Fit (namesT L) := names_fit HFIT.out
          have hd5 := HS5.out.due
          intro x hx
          have hx2 : x ∈ namesT (dueT L (now + 1)) := by
            rw [← hd5]
            exact List.mem_append_left _ hx
          obtain ⟨q, hq, rfl⟩ := List.mem_map.1 hx2
          exact (HFIT.out q (List.mem_filter.1 hq).1).2)
        subst hv5
        clear o5 g5 HO
        go_wp2
        go_roundw
        case rel => exact ⟨A5, _, c5, ns ++ [nm], delT Lj nm, rfl, by simp, HS5.out⟩
        case measure => have := HN.out; simp [slen]; omega
      · have hd' : now + 1 < e1 := by omega
        have HD : Hid (∀ q ∈ Lj, now + 1 < q.1) := fun q hq => by
          have h1 := HMIN.out q hq
          have h2 := HTK.out.clock.t64 q hq
          have h3 := HTK.out.clock.t64 _ HMEM.out
          by_cases h4 : q.1 ≤ now + 1
          · have := (tkey_lt h2 h3).2 (.inl (by simp only; omega))
            omega
          · omega
        clear hd
        go_wp2
        go_quiet (fail)
        go_wp2
        go_ret
        exact HTK.out.over (below_drewN _ _ _) HD.out
    · have hnil : hs = [] := List.eq_nil_of_length_eq_zero (by omega)
      have hl : Lj = [] := by
        have := HP.out.length_eq
        rw [hnil] at this
        exact List.eq_nil_of_length_eq_zero this.symm
      have HD : Hid (∀ q ∈ Lj, now + 1 < q.1) := by
        show ∀ q ∈ Lj, now + 1 < q.1
        rw [hl]
        simp
      have hvs : ∃ A' c', hv = .slice A' 0 c' := by
        rcases hh.own.2 with ⟨e, _⟩ | ⟨g, cap, cur, e, _⟩
        · exact ⟨none, 0, e⟩
        · rw [hnil] at e
          exact ⟨_, cap, e⟩
      obtain ⟨A', c', rfl⟩ := hvs
      clear htk hn hh hp hq hpos hnil hl
      go_wp2
      go_quiet (fail)
      go_wp2
      go_ret
      exact HTK.out.over (below_drewN _ _ _) HD.out
end
end Go.Proofs.Ythimdmgimlhbaaa
