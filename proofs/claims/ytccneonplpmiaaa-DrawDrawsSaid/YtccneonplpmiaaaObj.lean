/- A draw in memory: a block of its key and its count; New, next, Nonce, Below, Count, the code's and the document's. -/
import Derived.Test.YtccneonplpmiaaaStir
import Derived.Test.YtccneonplpmiaaaKeep
import Derived.Test.YtccneonplpmiaaaOrder
import Derived.OneCell
import Derived.Deep.QuietTactic
import Derived.BigQuiet
namespace Go.Proofs.Ytccneonplpmiaaa
open Go.RowKit

/-- The block g holds a draw: its key and how many were drawn. -/
def DrawAt (T : TypeId) (w : World) (g k c : Nat) : Prop := w.heap[g]? = some (.cells #[.int .u32 (k : Int), .int .i64 (c : Int)] T (0, 0))

section
variable {T : TypeId} {w w' : World} {g k c : Nat}
theorem DrawAt.lt (h : DrawAt T w g k c) : g < w.heap.size := lt_of_block h
theorem DrawAt.cell0 (h : DrawAt T w g k c) : w.cell? ⟨g, 0, none⟩ = some (.int .u32 (k : Int)) := by
  have h' : w.heap[g]? = _ := h
  simp [World.cell?, h']
theorem DrawAt.cell1 (h : DrawAt T w g k c) : w.cell? ⟨g, 1, none⟩ = some (.int .i64 (c : Int)) := by
  have h' : w.heap[g]? = _ := h
  simp [World.cell?, h']
theorem DrawAt.free1 (h : DrawAt T w g k c) : w.frozen? ⟨g, 1, none⟩ = false := by
  have h' : w.heap[g]? = _ := h
  simp [World.frozen?, h']
theorem DrawAt.drawn (h : DrawAt T w g k c) (n : Nat) : DrawAt T (w.setCell ⟨g, 1, none⟩ (.int .i64 (n : Int))) g k n := by
  have hlt := h.lt
  have h' : w.heap[g] = .cells #[.int .u32 (k : Int), .int .i64 (c : Int)] T (0, 0) := by
    have h2 : w.heap[g]? = some (.cells #[.int .u32 (k : Int), .int .i64 (c : Int)] T (0, 0)) := h
    simpa [Array.getElem?_eq_getElem hlt] using h2
  show (w.heap.modify g _)[g]? = _
  rw [Array.getElem?_eq_getElem (by simpa using hlt), Array.getElem_modify_self, h']
  rfl
theorem DrawAt.kept (h : DrawAt T w g k c) (hk : w'.heap[g]? = w.heap[g]?) : DrawAt T w' g k c := by
  show w'.heap[g]? = _
  rw [hk]
  exact h
theorem DrawAt.below {B : Nat} (h : DrawAt T w g k c) (hb : Below B w w') (hg : g < B) : DrawAt T w' g k c := h.kept (hb.block g hg)
theorem DrawAt.later (h : DrawAt T w g k c) (hb : Later w w') : DrawAt T w' g k c := h.below hb h.lt
theorem DrawAt.other {r : Option Nat} (h : DrawAt T w g k c) (hg : w.grownBy w' r) (hr : some g ≠ r) : DrawAt T w' g k c := h.kept (hg.block g h.lt hr)
end

/-- From w to w': nothing but block g has turned. -/
theorem grown_set (w : World) (g o : Nat) (v : Value) : w.grownBy (w.setCell ⟨g, o, none⟩ v) (some g) :=
  ⟨rfl, rfl, rfl, by simp [World.setCell], fun i hi hne => Below.heap_setCell _ _ _ _ (fun e => hne (by rw [e]))⟩
theorem grown_trans {a b c : World} {r : Option Nat} (h : a.grownBy b r) (k : b.grownBy c r) : a.grownBy c r :=
  ⟨k.os.trans h.os, k.tape.trans h.tape, k.output.trans h.output, Nat.le_trans h.size k.size, fun i hi hne => (k.block i (Nat.lt_of_lt_of_le hi h.size) hne).trans (h.block i hi hne)⟩
theorem grown_later {a b : World} (h : Later a b) (r : Option Nat) : a.grownBy b r := ⟨h.os, h.tape, h.output, h.size, fun i hi _ => h.block i hi⟩
theorem grown_drewN (w : World) (r : Option Nat) (n : Nat) : w.grownBy (w.drewN n) r := ⟨rfl, rfl, rfl, Nat.le_refl _, fun _ _ _ => rfl⟩
theorem below_grown {a b : World} {B g : Nat} (h : a.grownBy b (some g)) (hB : B ≤ g) (hs : B ≤ a.heap.size) : Below B a b := (Below.refl _ _).grown h hs (fun k hk => by
  have := Option.some.inj hk
  omega)

/-- The number behind the c-th one, and the key of a seed. -/
def raw (k c : Nat) : Nat := mix ((c + 1) % 4294967296 ^^^ k)
def keyOf (S : Nat) : Nat := mix (S % 4294967296) ^^^ (S / 4294967296)
theorem raw_lt (k c : Nat) : raw k c < 4294967296 := mix_lt _
theorem keyOf_lt {S : Nat} (h : S < 18446744073709551616) : keyOf S < 4294967296 := xor_lt (mix_lt _) (by omega)

/-- What New hands back: a new block, of the seed's key. -/
def NewDraw (T : TypeId) (w : World) (S : Nat) (e : Ending) (w' : World) : Prop :=
  ∃ g, e = .returned (.pointer (some ⟨g, 0, none⟩)) ∧ w.heap.size ≤ g ∧ DrawAt T w' g (keyOf S) 0 ∧ Later w w'
theorem newDraw_alloc (T : TypeId) (w : World) (S : Nat) (v : Value) (hv : v = .int .u32 ((keyOf S : Nat) : Int)) : NewDraw T w S (.returned (.pointer (some ⟨w.heap.size, 0, none⟩))) (w.alloc (.cells #[v, .int .i64 0] T (0, 0))) :=
  ⟨w.heap.size, rfl, Nat.le_refl _, by subst hv; exact heap_alloc_new _ _, (Below.refl _ _).alloc (Nat.le_refl _) _⟩

set_option maxHeartbeats 400000 in
theorem new_any (S : Nat) (w : World) (hS : S < 18446744073709551616) :
    Calls Try.prog 14 #[.int .u64 S] w (NewDraw 43 w S) := by
  obtain ⟨a, ha⟩ : ∃ a, a = S % 4294967296 := ⟨_, rfl⟩
  have e1 : (S : Int) % 4294967296 = (a : Int) := by rw [ha]; omega
  obtain ⟨b, hb⟩ : ∃ b, b = S / 4294967296 := ⟨_, rfl⟩
  have e2 : (S : Int) / 4294967296 = (b : Int) := by rw [hb]; omega
  have lb : b < 4294967296 := by omega
  have la : a < 4294967296 := by omega
  have e3 := u32_xor_nat (mix a) b (mix_lt _) lb
  have c1 := fun w => mix_any a w la
  have H : Hid (mix a ^^^ b = keyOf S) := by rw [ha, hb]; rfl
  obtain ⟨d, hd⟩ : ∃ d, d = mix a := ⟨_, rfl⟩
  have ld : d < 4294967296 := by rw [hd]; exact mix_lt _
  rw [← hd] at e3 c1 H
  have C1 := hide c1
  have HS := hide hS
  clear ha hb hd c1 hS
  go_enter Try.func14, Try.ntmps14
  go_wp2_with (fail)
  refine (C1.out _).mono ?_
  rintro e w1 ⟨rfl, rfl⟩
  go_wp2
  go_ret
  exact newDraw_alloc _ w S _ (by rw [H.out])

set_option maxHeartbeats 400000 in
theorem refnew_any (S : Nat) (w : World) (hS : S < 18446744073709551616) :
    Calls Try.prog 15 #[.int .u64 S] w (NewDraw 35 w S) := by
  obtain ⟨a, ha⟩ : ∃ a, a = S % 4294967296 := ⟨_, rfl⟩
  have e1 : (S : Int) % 4294967296 = (a : Int) := by rw [ha]; omega
  obtain ⟨b, hb⟩ : ∃ b, b = S / 4294967296 := ⟨_, rfl⟩
  have e2 : (S : Int) / 4294967296 = (b : Int) := by rw [hb]; omega
  have lb : b < 4294967296 := by omega
  have la : a < 4294967296 := by omega
  have e3 := u32_xor_nat (mix a) b (mix_lt _) lb
  have c1 := fun w => refmix_any a w la
  have H : Hid (mix a ^^^ b = keyOf S) := by rw [ha, hb]; rfl
  obtain ⟨d, hd⟩ : ∃ d, d = mix a := ⟨_, rfl⟩
  have ld : d < 4294967296 := by rw [hd]; exact mix_lt _
  rw [← hd] at e3 c1 H
  have C1 := hide c1
  have HS := hide hS
  clear ha hb hd c1 hS
  go_enter Try.func15, Try.ntmps15
  go_wp2_with (fail)
  refine (C1.out _).mono ?_
  rintro e w1 ⟨rfl, rfl⟩
  go_wp2
  go_ret
  exact newDraw_alloc _ w S _ (by rw [H.out])

/-- What a call that draws does: the count is one more, and no other block has turned. -/
def Drawn (T : TypeId) (w : World) (g k c : Nat) (v : Value) (e : Ending) (w' : World) : Prop :=
  e = .returned v ∧ DrawAt T w' g k (c + 1) ∧ w.grownBy w' (some g)

set_option maxHeartbeats 400000 in
theorem next_any (g k c : Nat) (w : World) (hd : DrawAt 43 w g k c) (hk : k < 4294967296) (hc : c < 1099511627776) :
    Calls Try.prog 29 #[.pointer (some ⟨g, 0, none⟩)] w (Drawn 43 w g k c (.int .u32 ((raw k c : Nat) : Int))) := by
  have f1 := hd.cell1
  have f2 := hd.free1
  obtain ⟨a, ha⟩ : ∃ a, a = (c + 1) % 4294967296 := ⟨_, rfl⟩
  have la : a < 4294967296 := by omega
  have e1 : ((c : Int) + 1) % 4294967296 = (a : Int) := by rw [ha]; omega
  have e2 := u32_xor_nat a k la hk
  have H : Hid (mix (a ^^^ k) = raw k c) := by rw [ha]; rfl
  obtain ⟨x, hx⟩ : ∃ x, x = a ^^^ k := ⟨_, rfl⟩
  have lx : x < 4294967296 := by rw [hx]; exact xor_lt la hk
  rw [← hx] at e2 H
  have c1 : ∀ w : World, Calls Try.prog 9 #[.int .u32 (x : Int)] w fun e w' => e = .returned (.int .u32 ((mix x : Nat) : Int)) ∧ w' = w := fun w => (mix_any x w lx).mono fun _ _ ⟨h1, h2⟩ => ⟨h1, h2.symm⟩
  have lm : mix x < 4294967296 := mix_lt _
  obtain ⟨m, hm⟩ : ∃ m, m = mix x := ⟨_, rfl⟩
  rw [← hm] at H c1 lm
  have C1 := hide c1
  have HD := hide hd
  clear ha hx c1 hd hm
  go_enter Try.func29, Try.ntmps29
  go_wp2
  obtain ⟨w2, hw2⟩ : ∃ w2, w2 = w.setCell ⟨g, 1, none⟩ (.int .i64 ((c : Int) + 1)) := ⟨_, rfl⟩
  rw [← hw2]
  have hd2 : DrawAt 43 w2 g k (c + 1) := by rw [hw2]; exact HD.out.drawn (c + 1)
  have hg2 : w.grownBy w2 (some g) := by rw [hw2]; exact grown_set _ _ _ _
  have f3 := hd2.cell0
  have f4 : w2.cell? ⟨g, 1, none⟩ = some (.int .i64 ((c : Int) + 1)) := hd2.cell1
  have HD2 := hide hd2
  have HG2 := hide hg2
  clear f1 f2 hw2 hd2 hg2
  go_quiet ((go_at_call 9; exact Calls.quiet_of_same (C1.out _)))
  go_wp2
  go_ret
  exact ⟨by rw [← H.out]; rfl, HD2.out.kept rfl, grown_trans HG2.out (grown_drewN _ _ _)⟩

set_option maxHeartbeats 400000 in
theorem refnonce_any (g k c : Nat) (w : World) (hd : DrawAt 35 w g k c) (hk : k < 4294967296) (hc : c < 1099511627776) :
    Calls Try.prog 17 #[.pointer (some ⟨g, 0, none⟩)] w (Drawn 35 w g k c (.int .i64 (((raw k c : Nat) : Int) + 1))) := by
  have f1 := hd.cell1
  have f2 := hd.free1
  obtain ⟨a, ha⟩ : ∃ a, a = (c + 1) % 4294967296 := ⟨_, rfl⟩
  have la : a < 4294967296 := by omega
  have e1 : ((c : Int) + 1) % 4294967296 = (a : Int) := by rw [ha]; omega
  have e2 := u32_xor_nat a k la hk
  have H : Hid (mix (a ^^^ k) = raw k c) := by rw [ha]; rfl
  obtain ⟨x, hx⟩ : ∃ x, x = a ^^^ k := ⟨_, rfl⟩
  have lx : x < 4294967296 := by rw [hx]; exact xor_lt la hk
  rw [← hx] at e2 H
  have c1 : ∀ w : World, Calls Try.prog 10 #[.int .u32 (x : Int)] w fun e w' => e = .returned (.int .u32 ((mix x : Nat) : Int)) ∧ w' = w := fun w => (refmix_any x w lx).mono fun _ _ ⟨h1, h2⟩ => ⟨h1, h2.symm⟩
  have lm : mix x < 4294967296 := mix_lt _
  obtain ⟨m, hm⟩ : ∃ m, m = mix x := ⟨_, rfl⟩
  rw [← hm] at H c1 lm
  have C1 := hide c1
  have HD := hide hd
  clear ha hx c1 hd hm
  go_enter Try.func17, Try.ntmps17
  go_wp2
  obtain ⟨w2, hw2⟩ : ∃ w2, w2 = w.setCell ⟨g, 1, none⟩ (.int .i64 ((c : Int) + 1)) := ⟨_, rfl⟩
  rw [← hw2]
  have hd2 : DrawAt 35 w2 g k (c + 1) := by rw [hw2]; exact HD.out.drawn (c + 1)
  have hg2 : w.grownBy w2 (some g) := by rw [hw2]; exact grown_set _ _ _ _
  have f3 := hd2.cell0
  have f4 : w2.cell? ⟨g, 1, none⟩ = some (.int .i64 ((c : Int) + 1)) := hd2.cell1
  have HD2 := hide hd2
  have HG2 := hide hg2
  clear f1 f2 hw2 hd2 hg2
  go_quiet ((go_at_call 10; exact Calls.quiet_of_same (C1.out _)))
  go_wp2
  go_ret
  exact ⟨by rw [← H.out]; rfl, HD2.out.kept rfl, grown_trans HG2.out (grown_drewN _ _ _)⟩

theorem made_any (g : Nat) (w : World) :
    Calls Try.prog 28 #[.pointer (some ⟨g, 0, none⟩)] w fun e w' => e = .returned (.pointer (some ⟨g, 0, none⟩)) ∧ w = w' := by
  go_enter Try.func28, Try.ntmps28
  go_wp2
  go_ret
  exact ⟨rfl, rfl⟩

set_option maxHeartbeats 400000 in
theorem nonce_any (g k c : Nat) (w : World) (hd : DrawAt 43 w g k c) (hk : k < 4294967296) (hc : c < 1099511627776) :
    Calls Try.prog 16 #[.pointer (some ⟨g, 0, none⟩)] w (Drawn 43 w g k c (.int .i64 (((raw k c : Nat) : Int) + 1))) := by
  have C1 := hide (next_any g k c w hd hk hc)
  have lr := raw_lt k c
  clear hd hk hc
  obtain ⟨r, hr⟩ : ∃ r, r = raw k c := ⟨_, rfl⟩
  rw [← hr] at C1 lr
  rw [← hr]
  clear hr
  go_enter Try.func16, Try.ntmps16
  go_wp2_with (fail)
  refine (made_any _ _).mono ?_
  rintro e w1 ⟨rfl, rfl⟩
  go_wp2_with (fail)
  refine C1.out.mono ?_
  rintro e w1 ⟨rfl, h1, h2⟩
  go_wp2
  go_ret
  exact ⟨rfl, h1, h2⟩

set_option maxHeartbeats 400000 in
theorem below_yes (g k c : Nat) (n : Int) (w : World) (hd : DrawAt 43 w g k c) (hk : k < 4294967296) (hc : c < 1099511627776) (hn : 1 ≤ n) (hn2 : n < 9223372036854775808) :
    Calls Try.prog 18 #[.pointer (some ⟨g, 0, none⟩), .int .i64 n] w (Drawn 43 w g k c (.int .i64 (((raw k c : Nat) : Int) % n))) := by
  have C1 := hide (next_any g k c w hd hk hc)
  have lr := raw_lt k c
  clear hd hk hc
  obtain ⟨r, hr⟩ : ∃ r, r = raw k c := ⟨_, rfl⟩
  rw [← hr] at C1 lr
  rw [← hr]
  clear hr
  go_enter Try.func18, Try.ntmps18
  go_wp2_with (fail)
  refine (made_any _ _).mono ?_
  rintro e w1 ⟨rfl, rfl⟩
  go_wp2_with (fail)
  refine C1.out.mono ?_
  rintro e w1 ⟨rfl, h1, h2⟩
  go_wp2
  go_ret
  exact ⟨rfl, h1, h2⟩

set_option maxHeartbeats 400000 in
theorem refbelow_yes (g k c : Nat) (n : Int) (w : World) (hd : DrawAt 35 w g k c) (hk : k < 4294967296) (hc : c < 1099511627776) (hn : 1 ≤ n) (hn2 : n < 9223372036854775808) :
    Calls Try.prog 19 #[.pointer (some ⟨g, 0, none⟩), .int .i64 n] w (Drawn 35 w g k c (.int .i64 (((raw k c : Nat) : Int) % n))) := by
  have C1 := hide (refnonce_any g k c w hd hk hc)
  have lr := raw_lt k c
  clear hd hk hc
  obtain ⟨r, hr⟩ : ∃ r, r = raw k c := ⟨_, rfl⟩
  rw [← hr] at C1 lr
  rw [← hr]
  clear hr
  go_enter Try.func19, Try.ntmps19
  go_wp2_with (fail)
  refine C1.out.mono ?_
  rintro e w1 ⟨rfl, h1, h2⟩
  go_wp2
  go_ret
  exact ⟨ret_int (by simp), h1, h2⟩

theorem below_no (g : Nat) (n : Int) (w : World) (hn : ¬ 1 ≤ n) :
    Calls Try.prog 18 #[.pointer (some ⟨g, 0, none⟩), .int .i64 n] w fun e w' => e = .returned (.int .i64 0) ∧ w = w' := by
  have h : n < 1 := by omega
  clear hn
  go_enter Try.func18, Try.ntmps18
  go_wp2
  go_ret
  exact ⟨rfl, rfl⟩

theorem refbelow_no (g : Nat) (n : Int) (w : World) (hn : ¬ 1 ≤ n) :
    Calls Try.prog 19 #[.pointer (some ⟨g, 0, none⟩), .int .i64 n] w fun e w' => e = .returned (.int .i64 0) ∧ w = w' := by
  have h : n < 1 := by omega
  clear hn
  go_enter Try.func19, Try.ntmps19
  go_wp2
  go_ret
  exact ⟨rfl, rfl⟩

theorem count_any (g k c : Nat) (w : World) (hd : DrawAt 43 w g k c) :
    Calls Try.prog 20 #[.pointer (some ⟨g, 0, none⟩)] w fun e w' => e = .returned (.int .i64 (c : Int)) ∧ w = w' := by
  have f1 := hd.cell1
  clear hd
  go_enter Try.func20, Try.ntmps20
  go_wp2_with (fail)
  refine (made_any _ _).mono ?_
  rintro e w1 ⟨rfl, rfl⟩
  go_wp2
  go_ret
  exact ⟨rfl, rfl⟩
end Go.Proofs.Ytccneonplpmiaaa
