/- The document's examples of table. -/
import Derived.Test.YtmakibpbodfchaaTabF
import Derived.Test.YtmakibpbodfchaaTabR
namespace Go.Proofs.Ytmakibpbodfchaa
open Go.RowKit

/-- What lies in a new block may be written: nothing that was there has turned. -/
theorem below_new {a b : World} {o : Obj} (hg : (a.alloc o).grownBy b (some a.heap.size)) : Below a.heap.size a b :=
  ((Below.refl _ _).alloc (Nat.le_refl _) _).grown hg (by simp) (fun k hk => by have := Option.some.inj hk; omega)
/-- A table of the call's own. -/
def Own (w0 w : World) (g : Nat) (T : Tab) : Prop := w0.heap.size ≤ g ∧ TabAt w g T ∧ Below w0.heap.size w0 w
section
variable {w0 w w' : World} {g : Nat} {T T' : Tab}
theorem Own.at_ (h : Own w0 w g T) : TabAt w g T := h.2.1
theorem Own.later (h : Own w0 w g T) (hb : Below w.heap.size w w') : Own w0 w' g T := ⟨h.1, h.2.1.later hb, h.2.2.trans (hb.mono h.2.2.size)⟩
theorem Own.turned (h : Own w0 w g T) (ht : TabAt w' g T') (hg : w.grownBy w' (some g)) : Own w0 w' g T' :=
  ⟨h.1, ht, h.2.2.grown hg h.2.2.size (fun k hk => by have := Option.some.inj hk; have := h.1; omega)⟩
theorem Own.drewN (h : Own w0 w g T) (n : Nat) : Own w0 (w.drewN n) g T := h.later (below_drewN _ _ _)
/-- The calls, as the laws need them. -/
theorem own_ask (h : Own w0 w g T) (c r : Int) : Calls Try.prog 16 #[.pointer (some ⟨g, 0, none⟩), .int .i64 c, .int .i64 r] w fun e w' => e = .returned (.tuple #[.int .i64 (askT T c r).1, (askT T c r).2.val]) ∧ Own w0 w' g T ∧ Below w.heap.size w w' :=
  (ask_any c r w h.at_).mono fun _ _ ⟨he, hb⟩ => ⟨he, h.later hb, hb⟩
theorem own_start (h : Own w0 w g T) (c r : Int) : Calls Try.prog 10 #[.pointer (some ⟨g, 0, none⟩), .int .i64 c, .int .i64 r] w fun e w' => e = .returned (.int .i64 (startT T c r).1) ∧ Own w0 w' g (startT T c r).2 ∧ w.grownBy w' (some g) :=
  (start_any c r w h.at_).mono fun _ _ ⟨he, ht, hg⟩ => ⟨he, h.turned ht hg, hg⟩
theorem own_finish (h : Own w0 w g T) (c r : Int) (x : Rep) : Calls Try.prog 12 #[.pointer (some ⟨g, 0, none⟩), .int .i64 c, .int .i64 r, x.val] w fun e w' => e = .returned (.int .i64 (finishT T c r x).1) ∧ Own w0 w' g (finishT T c r x).2 ∧ w.grownBy w' (some g) :=
  (finish_any c r x w h.at_).mono fun _ _ ⟨he, ht, hg⟩ => ⟨he, h.turned ht hg, hg⟩
theorem own_forget (h : Own w0 w g T) : Calls Try.prog 14 #[.pointer (some ⟨g, 0, none⟩)] w fun e w' => e = .returned (.tuple #[]) ∧ Own w0 w' g T.forgotten ∧ w.grownBy w' (some g) :=
  (forget_any w h.at_).mono fun _ _ ⟨he, ht, hg⟩ => ⟨he, h.turned ht hg, hg⟩
theorem own_last (h : Own w0 w g T) (c : Int) : Calls Try.prog 18 #[.pointer (some ⟨g, 0, none⟩), .int .i64 c] w fun e w' => e = .returned (.int .i64 (T.of c).last) ∧ Own w0 w' g T ∧ Below w.heap.size w w' :=
  (last_any c w (of_any c w h.at_)).mono fun _ _ ⟨he, hb⟩ => ⟨he, h.later hb, hb⟩
theorem own_done (h : Own w0 w g T) (c : Int) : Calls Try.prog 20 #[.pointer (some ⟨g, 0, none⟩), .int .i64 c] w fun e w' => e = .returned (.int .i64 (T.of c).done) ∧ Own w0 w' g T ∧ Below w.heap.size w w' :=
  (done_any c w (of_any c w h.at_)).mono fun _ _ ⟨he, hb⟩ => ⟨he, h.later hb, hb⟩
theorem own_new (w0 w : World) (hb : Below w0.heap.size w0 w) : Calls Try.prog 9 #[] w fun e w' => ∃ g, e = .returned (.pointer (some ⟨g, 0, none⟩)) ∧ Own w0 w' g .zero ∧ w.heap.size ≤ g ∧ Below w.heap.size w w' :=
  (make_any w).mono fun _ _ ⟨g, he, hg, ht, hb'⟩ => ⟨g, he, ⟨Nat.le_trans hb.size hg, ht, hb.trans (hb'.mono hb.size)⟩, hg, hb'⟩
end

def r9 : Rep := ⟨0, 9, 0, 0⟩
def lt1 : Tab := (startT .zero 1 5).2
def lt2 : Tab := (finishT lt1 1 5 r9).2
def lt3 : Tab := (startT lt2 1 7).2
def lt4 : Tab := (finishT lt3 1 6 .zero).2
theorem le1 : (startT .zero 1 5).1 = 0 := by decide +kernel
theorem le2 : (askT lt1 1 5) = (2, .zero) := by decide +kernel
theorem le3 : (finishT lt1 1 5 r9).1 = 0 := by decide +kernel
theorem le4 : (askT lt2 1 5) = (3, r9) := by decide +kernel
theorem le5 : (askT lt2 1 4) = (4, .zero) := by decide +kernel
theorem le6 : (startT lt2 1 7).1 = 0 := by decide +kernel
theorem le7 : (finishT lt3 1 6 .zero).1 = 0 := by decide +kernel
theorem le8 : (askT lt4 1 7) = (2, .zero) := by decide +kernel

set_option maxHeartbeats 2000000 in
set_option maxRecDepth 100000 in
theorem lives_any (w : World) : Calls Try.prog 8 #[] w fun e w' => e = .returned (.bool true) ∧ Below w.heap.size w w' := by
  go_enter Try.func8, Try.ntmps8
  go_wp2_with (fail)
  refine (own_new w w (Below.refl _ _)).mono ?_
  rintro e w1 ⟨g, rfl, o1, _, _⟩
  have O1 := hide o1
  clear o1
  go_wp2_with (fail)
  refine (own_start O1.out 1 5).mono ?_
  rw [le1]
  rintro e w2 ⟨rfl, o2, _⟩
  have O2 : Hid (Own w w2 g lt1) := o2
  clear o2
  go_wp2_with (fail)
  refine (own_ask O2.out 1 5).mono ?_
  rw [le2]
  rintro e w3 ⟨rfl, o3, _⟩
  have O3 := hide o3
  clear o3
  go_wp2_with (refine wpList_store_rep (m := .zero) (by rfl) _ _ (by rfl) (by rfl) (RepAt.new w3) (by rfl) ?_; intro w4 hx hg; have O4 := hide (O3.out.later (below_new hg)); clear hx hg)
  refine (own_finish O4.out 1 5 r9).mono ?_
  rw [le3]
  rintro e w5 ⟨rfl, o5, _⟩
  have O5 : Hid (Own w w5 g lt2) := o5
  clear o5
  go_wp2_with (fail)
  refine (own_ask O5.out 1 5).mono ?_
  rw [le4]
  rintro e w6 ⟨rfl, o6, _⟩
  have O6 := hide o6
  clear o6
  go_wp2_with (refine wpList_store_rep (m := r9) (by rfl) _ _ (by rfl) (by rfl) (RepAt.new w6) (by rfl) ?_; intro w7 hx hg; have O7 := hide (O6.out.later (below_new hg)); have X7 := hide hx; clear hx hg)
  refine (own_ask O7.out 1 4).mono ?_
  rw [le5]
  rintro e w8 ⟨rfl, o8, hb8⟩
  have O8 := hide o8
  have X8 := hide (X7.out.later hb8)
  clear o8 hb8
  go_wp2_with (refine wpList_store_rep (m := .zero) (by rfl) _ _ (by rfl) (by rfl) (RepAt.new w8) (by rfl) ?_; intro w9 hx hg; have O9 := hide (O8.out.later (below_new hg)); have X9 := hide (X8.out.later (below_new hg)); clear hx hg)
  refine (own_start O9.out 1 7).mono ?_
  rw [le6]
  rintro e w10 ⟨rfl, o10, hg⟩
  have HQ : Hid (w6.heap.size ≠ g) := by
    have := O6.out.at_.lt
    show _ ≠ _
    omega
  have X10 := hide (X9.out.other hg (fun e => HQ.out (Option.some.inj e)))
  have O10 : Hid (Own w w10 g lt3) := o10
  clear o10 hg
  go_wp2_with (fail)
  refine (own_finish O10.out 1 6 .zero).mono ?_
  rw [le7]
  rintro e w11 ⟨rfl, o11, hg⟩
  have X11 := hide (X10.out.other hg (fun e => HQ.out (Option.some.inj e)))
  have O11 : Hid (Own w w11 g lt4) := o11
  clear o11 hg
  go_wp2_with (fail)
  refine (own_ask O11.out 1 7).mono ?_
  rw [le8]
  rintro e w12 ⟨rfl, o12, hb12⟩
  have O12 := hide o12
  have X12 := hide (X11.out.later hb12)
  clear o12 hb12
  go_wp2_with (refine wpList_store_rep (m := .zero) (by rfl) _ _ (by rfl) (by rfl) (RepAt.new w12) (by rfl) ?_; intro w13 hx hg; have O13 := hide (O12.out.later (below_new hg)); have x13 : w13.cell? ⟨w6.heap.size, 1, none⟩ = some (.int .i64 9) := (X12.out.later (below_new hg)).cell1; clear hx hg)
  go_ret
  exact ⟨rfl, O13.out.2.2⟩
end Go.Proofs.Ytmakibpbodfchaa
