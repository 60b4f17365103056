/- The law droverlaw12.LexerNumbers is true at every two numbers and every text: a number is told by its digits, up to a million, and what stands behind begins another token. -/
import Derived.Test.YtjnpclpjdlimaaaBaseL1
import Derived.Test.YtjnpclpjdlimaaaBaseL2
import Derived.Test.YtjnpclpjdlimaaaRows
import Derived.ProofKit
import Derived.OpenShut
import Derived.ShutString
import Derived.ChangeOld
/- LexerTokens: tokens, errors, names and texts are the document's. -/
namespace Go.Proofs.Ytjnpclpjdlimaaa
open Go.RowKit

theorem mk_append (x y : List UInt8) : (⟨x.toArray⟩ ++ ⟨y.toArray⟩ : ByteArray) = ⟨(x ++ y).toArray⟩ := by
  apply ByteArray.ext
  simp
theorem mk_size (x : List UInt8) : (⟨x.toArray⟩ : ByteArray).size = x.length := by simp [ByteArray.size]

section
variable {w : World}
set_option maxHeartbeats 4000000 in
set_option maxRecDepth 100000 in
theorem reftext_any {F : Nat → Prop} {A : Option Addr} {n cap : Nat} {ts : List Tok} (h : RToksAt F w (.slice A n cap) ts) (hn : n = ts.length) (hlen : (textF ts).length ≤ 100000) (hn2 : n ≤ 100000) :
    Calls Try.prog 16 #[.slice A n cap] w fun e w' => e = .returned (.string ⟨(textF ts).toArray⟩) ∧ Later w w' := by
  have H := hide h
  have HN := hide hn
  have HLN := hide hlen
  have L0 := hide (Later.refl w)
  clear h hn hlen
  go_enter Try.func16, Try.ntmps16
  go_wp2_with (fail)
  go_loopw [3, 8] (fun v3 v wr => ∃ i : Nat, v = .int .i64 (i : Int) ∧ i ≤ n ∧ v3 = .string ⟨(textF (ts.take i)).toArray⟩ ∧ Later w wr) (fun _ v _ => n - (intOf v).toNat)
  case atStart => exact ⟨0, rfl, by omega, rfl, L0.out⟩
  case round =>
    obtain ⟨i, rfl, hi, rfl, hbel⟩ := hrel
    have HBL := hide hbel
    clear hbel
    by_cases hlt : i < n
    · obtain ⟨b, off, t, rfl, hnc, ht, _, hbl, hrow⟩ := (H.out.later HBL.out).at_ hlt
      obtain ⟨c0, c1, c2, c3⟩ := rrange4 hrow
      have htk := text_take ts i t ht
      have hle := text_len_take ts (i + 1)
      have hle2 := text_len_take ts i
      have hln := HLN.out
      obtain ⟨x, hx⟩ : ∃ x, textF (ts.take i) = x := ⟨_, rfl⟩
      rw [hx] at htk hle2 ⊢
      have L1 : Hid (∀ o : Obj, Later w (wr.alloc o)) := fun o => HBL.out.alloc (Below.size HBL.out) _
      clear hrow ht hx
      by_cases hi0 : 0 < i
      · have hi0' : (0 : Int) < (i : Int) := by omega
        rw [if_pos hi0] at htk
        have hl4 := congrArg List.length htk
        simp only [List.length_append, List.length_cons, List.length_nil] at hl4
        have HTK := hide htk
        have z1 : (⟨x.toArray⟩ : ByteArray).size + (⟨#[32]⟩ : ByteArray).size ≤ 9223372036854775807 := by
          rw [mk_size]
          show _ + 1 ≤ _
          omega
        have z2 : (⟨(x ++ [32]).toArray⟩ : ByteArray).size + (⟨t.s.toArray⟩ : ByteArray).size ≤ 9223372036854775807 := by
          rw [mk_size, mk_size]
          simp only [List.length_append, List.length_cons, List.length_nil]
          omega
        have m1 : (⟨x.toArray⟩ ++ ⟨#[32]⟩ : ByteArray) = ⟨(x ++ [32]).toArray⟩ := mk_append x [32]
        have m2 := mk_append (x ++ [32]) t.s
        clear htk hle hle2 hln hl4
        go_wp2_with (fail)
        go_roundw
        case rel => exact ⟨i + 1, by go_num, by omega, by rw [HTK.out]; simp, L1.out _⟩
        case measure => simp [intOf]; omega
      · have hi0' : ¬ (0 : Int) < (i : Int) := by omega
        rw [if_neg hi0] at htk
        have hl4 := congrArg List.length htk
        simp only [List.length_append] at hl4
        have HTK := hide htk
        have z2 : (⟨x.toArray⟩ : ByteArray).size + (⟨t.s.toArray⟩ : ByteArray).size ≤ 9223372036854775807 := by
          rw [mk_size, mk_size]
          omega
        have m2 := mk_append x t.s
        clear htk hle hle2 hln hl4
        go_wp2_with (fail)
        go_roundw
        case rel => exact ⟨i + 1, by go_num, by omega, by rw [HTK.out], L1.out _⟩
        case measure => simp [intOf]; omega
    · have hie : i = n := by omega
      subst hie
      have hft : textF (ts.take i) = textF ts := by rw [HN.out, List.take_length]
      rw [hft]
      go_wp2_with (fail)
      go_ret
      exact ⟨rfl, HBL.out⟩

set_option maxHeartbeats 4000000 in
set_option maxRecDepth 100000 in
theorem law_tokens (s : ByteArray) (hs : s.size ≤ 9223372036854775807) : Calls Try.prog 3 #[.string s] w fun e w' => e = .returned (.bool true) ∧ Later w w' := by
  have CL := fun w' : World => hide (lives_any (w := w'))
  by_cases h1 : 3000 < s.size
  · have hb1 : (3000 : Int) < (s.size : Int) := by omega
    go_enter Try.func3, Try.ntmps3
    go_wp2_with (fail)
    refine (CL _).out.mono ?_
    rintro e w1 ⟨rfl, hl1⟩
    go_wp2_with (fail)
    go_ret
    exact ⟨rfl, hl1⟩
  · have hb1 : ¬ (3000 : Int) < (s.size : Int) := by omega
    have C1 := hide (tokens_any (w := w) s hs)
    have C2 := fun w' : World => hide (reftokens_any (w := w') s (by omega))
    have CN := fun w' : World => hide (name_any (w := w') s)
    have CR := fun w' : World => hide (refName_any (w := w') s)
    obtain ⟨L, hL⟩ : ∃ L, L = s.data.toList := ⟨_, rfl⟩
    simp only [← hL] at C1 C2 CN CR
    clear hL hs h1
    go_enter Try.func3, Try.ntmps3
    go_wp2_with (fail)
    refine C1.out.mono ?_
    rintro e w1 ⟨v1, rfl, hr1, hl1⟩
    have L1 := hide hl1
    have R1 := hide hr1
    clear hr1 hl1 C1
    go_wp2_with (fail)
    refine (C2 _).out.mono ?_
    rintro e w2 ⟨v2, rfl, hr2, hl2⟩
    obtain ⟨ts, hts⟩ : ∃ ts, (answer L).1 = ts := ⟨_, rfl⟩
    have hlong : ts.length ≤ 400 ∧ (textF ts).length ≤ 800 := by
      rw [← hts]
      rcases answer_cases L with ⟨_, ha⟩ | ⟨_, p, _, ha⟩ | ⟨h4, _, ha⟩
      · rw [ha]; simp [textF]
      · rw [ha]; simp [textF]
      · rw [ha]
        have h2 := toks_long L 0
        have h3 := text_long (toks L 0).1
        simp only
        omega
    have r1 := R1.out
    rw [hts] at r1 hr2
    obtain ⟨k, hk⟩ : ∃ k, (answer L).2.1 = k := ⟨_, rfl⟩
    obtain ⟨f, hf⟩ : ∃ f, (answer L).2.2 = f := ⟨_, rfl⟩
    have hf12 : f ≤ 12 := by
      rw [← hf]
      rcases answer_cases L with ⟨_, ha⟩ | ⟨_, p, _, ha⟩ | ⟨_, _, ha⟩ <;> rw [ha] <;> simp
    rw [hk, hf]
    obtain ⟨A1, c1, rfl, _, _⟩ := r1.flat.shape
    obtain ⟨A2, c2, rfl, _, _⟩ := ToksAt.shape (F := fun i => w1.heap.size ≤ i) (w := w2) (v := v2) (ts := ts) hr2.flat
    have F1 := hide (r1.flat.later hl2)
    have F2 := hide hr2.flat
    have L2 := hide (L1.out.trans hl2)
    obtain ⟨n, hn⟩ : ∃ n, n = ts.length := ⟨_, rfl⟩
    rw [← hn] at F1 F2 ⊢
    have HN := hide hn
    have HLO := hide (show n ≤ 400 ∧ (textF ts).length ≤ 800 by omega)
    have CP := hide (plain_any F1.out hn (by omega))
    clear hr2 hl2 C2 r1 R1 hts hk hf hlong hn
    go_wp2_with (fail)
    refine CP.out.mono ?_
    rintro e w3 ⟨v3, rfl, hr3, hl3⟩
    have G3 := hide hr3.flat
    obtain ⟨A3, c3, rfl, _, _⟩ := ToksAt.shape (F := fun i => w2.heap.size ≤ i) (w := w3) (v := v3) (ts := ts) G3.out
    rw [← HN.out] at G3 ⊢
    have F13 := hide (F1.out.later hl3)
    have F23 := hide (RToksAt.later F2.out hl3)
    have L3 := hide (L2.out.trans hl3)
    have CS := hide (same_any (w := w3) true G3.out F23.out HN.out HN.out (sameL_refl true ts) (by have := HLO.out; omega))
    clear hr3 hl3 CP
    go_wp2_with (fail)
    refine CS.out.mono ?_
    rintro e w4 ⟨rfl, hl4⟩
    have F14 := hide (F13.out.later hl4)
    have F24 := hide (RToksAt.later F23.out hl4)
    have L4 := hide (L3.out.trans hl4)
    clear hl4 CS
    go_wp2_with (fail)
    refine (CN _).out.mono ?_
    rintro e w5 ⟨rfl, hl5⟩
    have F15 := hide (F14.out.later hl5)
    have F25 := hide (RToksAt.later F24.out hl5)
    have L5 := hide (L4.out.trans hl5)
    clear hl5 CN
    go_wp2_with (fail)
    refine (CR _).out.mono ?_
    rintro e w6 ⟨rfl, hl6⟩
    have F16 := hide (F15.out.later hl6)
    have F26 := hide (RToksAt.later F25.out hl6)
    have L6 := hide (L5.out.trans hl6)
    have CT := hide (text_any (w := w6) F16.out HN.out (by have := HLO.out; omega) (by have := HLO.out; omega))
    have hnn : (nameF L == nameF L) = true := by simp
    clear hl6 CR
    go_wp2_with (fail)
    refine CT.out.mono ?_
    rintro e w7 ⟨rfl, hl7⟩
    have F27 := hide (RToksAt.later F26.out hl7)
    have L7 := hide (L6.out.trans hl7)
    have CT2 := hide (reftext_any (w := w7) F27.out HN.out (by have := HLO.out; omega) (by have := HLO.out; omega))
    clear hl7 CT
    go_wp2_with (fail)
    refine CT2.out.mono ?_
    rintro e w8 ⟨rfl, hl8⟩
    have L8 := hide (L7.out.trans hl8)
    have hee : ((⟨(textF ts).toArray⟩ : ByteArray).toList == (⟨(textF ts).toArray⟩ : ByteArray).toList) = true := by simp
    clear hl8 CT2
    go_wp2_with (fail)
    refine (CL _).out.mono ?_
    rintro e w9 ⟨rfl, hl9⟩
    go_wp2_with (fail)
    go_ret
    exact ⟨rfl, L8.out.trans hl9⟩
end
end Go.Proofs.Ytjnpclpjdlimaaa
/- LexerNumbers: a number is told by its digits. -/
namespace Go.Proofs.Ytjnpclpjdlimaaa
open Go.RowKit

/-- The digits of a number, ahead of others. -/
def digs : Nat → List UInt8 → Nat → List UInt8
  | 0, d, _ => d
  | f + 1, d, v => if v < 10 then UInt8.ofNat (48 + v % 10) :: d else digs f (UInt8.ofNat (48 + v % 10) :: d) (v / 10)
theorem digit_val (v : Nat) : (UInt8.ofNat (48 + v % 10)).toNat = 48 + v % 10 := by
  simp
  omega
theorem digs_digit : ∀ (f : Nat) (d : List UInt8) (v : Nat), (∀ c ∈ d, digitB c.toNat = true) → ∀ c ∈ digs f d v, digitB c.toNat = true
  | 0, _, _, h => h
  | f + 1, d, v, h => by
    have h2 : ∀ c ∈ UInt8.ofNat (48 + v % 10) :: d, digitB c.toNat = true := fun c hc => by
      rcases List.mem_cons.1 hc with rfl | hc
      · rw [digit_val]
        simp [digitB]
        omega
      · exact h c hc
    unfold digs
    split
    · exact h2
    · exact digs_digit f _ _ h2
theorem digs_len : ∀ (f : Nat) (d : List UInt8) (v : Nat), (digs f d v).length ≤ f + d.length
  | 0, d, v => by simp [digs]
  | f + 1, d, v => by
    unfold digs
    split
    · simp; omega
    · have := digs_len f (UInt8.ofNat (48 + v % 10) :: d) (v / 10)
      simp only [List.length_cons] at this
      omega
theorem digs_ne (f : Nat) (d : List UInt8) (v : Nat) (h : d ≠ []) : digs f d v ≠ [] := by
  induction f generalizing d v with
  | zero => exact h
  | succ f ih =>
    unfold digs
    split
    · simp
    · exact ih _ _ (by simp)
/-- All that the digits say, without a bound. -/
def full (l : List UInt8) (n : Nat) : Nat := l.foldl (fun n c => 10 * n + (c.toNat - 48)) n
theorem digs_full : ∀ (f v : Nat) (d : List UInt8), v < 10 ^ f → full (digs f d v) 0 = full d v
  | 0, v, d, h => by simp at h; subst h; rfl
  | f + 1, v, d, h => by
    unfold digs
    split
    · rename_i h10
      show full d (10 * 0 + ((UInt8.ofNat (48 + v % 10)).toNat - 48)) = full d v
      rw [digit_val]
      congr 1
      omega
    · rw [digs_full f (v / 10) _ (by rw [Nat.pow_succ] at h; omega)]
      show full d (10 * (v / 10) + ((UInt8.ofNat (48 + v % 10)).toNat - 48)) = full d v
      rw [digit_val]
      congr 1
      omega
theorem val_full : ∀ (l : List UInt8) (n : Nat), l.foldl (fun n c => min 1000000 (10 * n + (c.toNat - 48))) (min n 1000000) = min (full l n) 1000000
  | [], n => rfl
  | c :: l, n => by
    rw [List.foldl_cons]
    have e : min 1000000 (10 * min n 1000000 + (c.toNat - 48)) = min (10 * n + (c.toNat - 48)) 1000000 := by omega
    rw [e, val_full l]
    rfl
theorem full_zeros : ∀ (j : Nat) (l : List UInt8), full (List.replicate j 48 ++ l) 0 = full l 0
  | 0, _ => rfl
  | j + 1, l => full_zeros j l
/-- A number with noughts ahead of it. -/
theorem number_val (j k : Nat) (h : k < 10 ^ 7) : valF (List.replicate j 48 ++ digs 7 [] k) = min k 1000000 := by
  have e := val_full (List.replicate j 48 ++ digs 7 [] k) 0
  rw [full_zeros, digs_full 7 k [] h] at e
  exact e
theorem number_step {ds r : List UInt8} (hne : ds ≠ []) (hd : ∀ c ∈ ds, digitB c.toNat = true) (hr : ∀ c t, r = c :: t → digitB c.toNat = false) (a : Nat) :
    toks (ds ++ r) a = ahead [⟨2, ds, valF ds, a⟩] (toks r (a + ds.length)) := by
  cases ds with
  | nil => exact absurd rfl hne
  | cons b m =>
    have hb := hd b (by simp)
    have hk : kindB b.toNat = 2 := by
      have : ∀ c : Fin 256, digitB c.1 = true → kindB c.1 = 2 := by decide +kernel
      exact this ⟨b.toNat, b.toNat_lt⟩ hb
    exact tok_step (t := ⟨2, b :: m, valF (b :: m), 0⟩) ⟨b, m, rfl, hk, by simp, by simp, fun c hc => by simpa [goB] using hd c (by simp [hc]), by simp⟩ r a (fun c u e => by simpa [goB] using hr c u e)

end Go.Proofs.Ytjnpclpjdlimaaa
/- A long chain of '&&' over fields of two structs, one conjunct at a time: the frame is known by four of its slots alone. -/
namespace Go.Proofs.Ytjnpclpjdlimaaa
open Go.RowKit

/-- The frame: two addresses in slots 2 and 3, and what holds so far in slot k. -/
structure Fr (X Y : Value) (k : Nat) (c : Bool) (n : Nat) (a : Act) : Prop where
  x : a.tmps[2]? = some X
  y : a.tmps[3]? = some Y
  c : a.tmps[k]? = some (.bool c)
  n : a.tmps.size = n
  d : a.defers = []
theorem put_tmps (a : Act) (d : Nat) (v : Value) (i : Nat) : (a.put (some d) v).tmps[i]? = if d = i then (if i < a.tmps.size then some v else none) else a.tmps[i]? := by
  show (a.tmps.setIfInBounds d v)[i]? = _
  rw [Array.getElem?_setIfInBounds]
  by_cases h : d = i
  · subst h
    simp
  · simp [h]
theorem put_same (a : Act) (d : Nat) (v : Value) (h : d < a.tmps.size) : (a.put (some d) v).tmps[d]? = some v := by rw [put_tmps, if_pos rfl, if_pos h]
theorem put_other (a : Act) (d : Nat) (v : Value) (i : Nat) (h : d ≠ i) : (a.put (some d) v).tmps[i]? = a.tmps[i]? := by rw [put_tmps, if_neg h]
theorem put_size (a : Act) (d : Nat) (v : Value) : (a.put (some d) v).tmps.size = a.tmps.size := by simp [Act.put]
theorem eval_of {a : Act} {i : Nat} {v : Value} (h : a.tmps[i]? = some v) : a.eval (.tmp i) = v := by
  show a.tmps.getD i undef = v
  rw [Array.getD_eq_getD_getElem?, h]
  rfl
/-- The same without a word of what holds so far. -/
structure Fr0 (X Y : Value) (n : Nat) (a : Act) : Prop where
  x : a.tmps[2]? = some X
  y : a.tmps[3]? = some Y
  n : a.tmps.size = n
  d : a.defers = []
section
variable {X Y : Value} {k n : Nat} {c : Bool} {a : Act}
theorem Fr0.put (h : Fr0 X Y n a) (d : Nat) (v : Value) (h2 : d ≠ 2) (h3 : d ≠ 3) : Fr0 X Y n (a.put (some d) v) := ⟨(put_other a d v 2 h2).trans h.x, (put_other a d v 3 h3).trans h.y, (put_size a d v).trans h.n, h.d⟩
theorem Fr.put (h : Fr X Y k c n a) (d : Nat) (v : Value) (h2 : d ≠ 2) (h3 : d ≠ 3) (hk : d ≠ k) : Fr X Y k c n (a.put (some d) v) :=
  ⟨(put_other a d v 2 h2).trans h.x, (put_other a d v 3 h3).trans h.y, (put_other a d v k hk).trans h.c, (put_size a d v).trans h.n, h.d⟩
variable {P : Program} {ops : Array Oper} {Q : Exit → Act → World → Prop} {rest : List Oper} {w : World}
theorem wpList_val {o : Oper} {d : Nat} {v : Value} {w' : World} (hd : o.dst = some d) (hw : Region.wanted o (yielded ops a.tmps) = true) (hx : (execOp a.eval o).run P w = .ok (.value v) w')
    (h : wpList P ops Q rest (a.put (some d) v) w') : wpList P ops Q (o :: rest) a w := by
  refine wpList_step fun K hK => ?_
  rw [if_pos hw]
  unfold Oper.wp
  rw [hx, Oper.upon_value, hd]
  exact hK _ _ h
theorem want_true {o : Oper} {j : Nat} {k : Nat} (hg : o.guard = some (j, true)) (hj : (ops[j]?).bind (·.dst) = some k) (hk : a.tmps[k]? = some (.bool true)) : Region.wanted o (yielded ops a.tmps) = true := by
  unfold Region.wanted yielded
  rw [hg]
  simp only [hj, Option.bind_some, hk]
  rfl
theorem want_false {o : Oper} {j : Nat} {k : Nat} (hg : o.guard = some (j, true)) (hj : (ops[j]?).bind (·.dst) = some k) (hk : a.tmps[k]? = some (.bool false)) : Region.wanted o (yielded ops a.tmps) = false := by
  unfold Region.wanted yielded
  rw [hg]
  simp only [hj, Option.bind_some, hk]
  rfl
theorem want_none {o : Oper} (hg : o.guard = none) : Region.wanted o (yielded ops a.tmps) = true := by
  unfold Region.wanted
  rw [hg]
theorem skip_one {o : Oper} {j d : Nat} (h : Fr X Y k false n a) (hj : (ops[j]?).bind (·.dst) = some k) (hd : o.dst = some d) (hg : o.guard = some (j, true)) (h2 : d ≠ 2) (h3 : d ≠ 3) (hk : d ≠ k)
    (next : ∀ a', Fr X Y k false n a' → wpList P ops Q rest a' w) : wpList P ops Q (o :: rest) a w := by
  refine wpList_skip (want_false hg hj h.c) ?_
  rw [hd]
  exact next _ (h.put d undef h2 h3 hk)

/-- One conjunct: the operations at slots s to s + 4 are wanted just if all holds so far; then the pick, then a move. -/
theorem conj {q : Bool} {s : Nat} {W : World → Prop} (j t : Nat) (h : Fr X Y k c n a) (hj : (ops[j]?).bind (·.dst) = some k) (hs : k < s) (hs3 : 3 < s) (hn : s + 6 ≤ n) (ht : 3 < t) (htn : t < n) (hW : W w)
    {o1 o2 o3 o4 o5 o6 o7 : Oper} {px py vx vy : Value}
    (g1 : o1.dst = some s ∧ o1.guard = some (j, true)) (g2 : o2.dst = some (s + 1) ∧ o2.guard = some (j, true)) (g3 : o3.dst = some (s + 2) ∧ o3.guard = some (j, true)) (g4 : o4.dst = some (s + 3) ∧ o4.guard = some (j, true)) (g5 : o5.dst = some (s + 4) ∧ o5.guard = some (j, true))
    (g6 : o6.op = .pick (.tmp k) (.tmp (s + 4)) (.const (.bool false)) ∧ o6.dst = some (s + 5) ∧ o6.guard = none) (g7 : (o7.op = .move (.tmp (s + 5)) ∨ o7.op = .assign (.tmp (s + 5))) ∧ o7.dst = some t ∧ o7.guard = none)
    (e1 : ∀ a' : Act, a'.tmps[2]? = some X → (execOp a'.eval o1).run P w = .ok (.value px) w)
    (e2 : ∀ a' : Act, a'.tmps[s]? = some px → (execOp a'.eval o2).run P w = .ok (.value vx) w)
    (e3 : ∀ a' : Act, a'.tmps[3]? = some Y → (execOp a'.eval o3).run P w = .ok (.value py) w)
    (e4 : ∀ a' : Act, a'.tmps[(s + 2)]? = some py → (execOp a'.eval o4).run P w = .ok (.value vy) w)
    (e5 : ∀ (a' : Act) (r : List Oper), a'.tmps[(s + 1)]? = some vx → a'.tmps[(s + 3)]? = some vy → Region.wanted o5 (yielded ops a'.tmps) = true → (∀ w', W w' → wpList P ops Q r (a'.put (some (s + 4)) (.bool q)) w') → wpList P ops Q (o5 :: r) a' w)
    (next : ∀ a' w', Fr X Y t (c && q) n a' → W w' → wpList P ops Q rest a' w') : wpList P ops Q (o1 :: o2 :: o3 :: o4 :: o5 :: o6 :: o7 :: rest) a w := by
  have last : ∀ (a' : Act) (w' : World) (b : Bool), Fr X Y k c n a' → (c = true → a'.tmps[s + 4]? = some (.bool q)) → W w' → wpList P ops Q (o6 :: o7 :: rest) a' w' := by
    intro a' w' b h' hq hw'
    refine wpList_val (w' := w') (v := .bool (c && q)) g6.2.1 (want_none g6.2.2) ?_ ?_
    · unfold execOp
      simp only [g6.1, eval_of h'.c]
      cases c with
      | false => rfl
      | true =>
        simp only [eval_of (hq rfl)]
        rfl
    · refine wpList_val (w' := w') (v := .bool (c && q)) g7.2.1 (want_none g7.2.2) ?_ ?_
      · unfold execOp
        rcases g7.1 with g | g <;> (simp only [g, eval_of (put_same a' (s + 5) (.bool (c && q)) (by have := h'.n; omega))]; rfl)
      · have h5 := h'.put (s + 5) (.bool (c && q)) (by omega) (by omega) (by omega)
        exact next _ _ ⟨(put_other _ t _ 2 (by omega)).trans h5.x, (put_other _ t _ 3 (by omega)).trans h5.y, put_same _ _ _ (by have := h5.n; omega), (put_size _ _ _).trans h5.n, h5.d⟩ hw'
  cases c with
  | false =>
    refine skip_one h hj g1.1 g1.2 (by omega) (by omega) (by omega) fun a1 h1 => ?_
    refine skip_one h1 hj g2.1 g2.2 (by omega) (by omega) (by omega) fun a2 h2 => ?_
    refine skip_one h2 hj g3.1 g3.2 (by omega) (by omega) (by omega) fun a3 h3 => ?_
    refine skip_one h3 hj g4.1 g4.2 (by omega) (by omega) (by omega) fun a4 h4 => ?_
    refine skip_one h4 hj g5.1 g5.2 (by omega) (by omega) (by omega) fun a5 h5 => ?_
    exact last a5 w false h5 (fun h => by cases h) hW
  | true =>
    have sz := h.n
    refine wpList_val g1.1 (want_true g1.2 hj h.c) (e1 a h.x) ?_
    have h1 := h.put s px (by omega) (by omega) (by omega)
    have t1 : (a.put (some s) px).tmps[s]? = some px := put_same a s px (by omega)
    refine wpList_val g2.1 (want_true g2.2 hj h1.c) (e2 _ t1) ?_
    have h2 := h1.put (s + 1) vx (by omega) (by omega) (by omega)
    have t2 := put_same (a.put (some s) px) (s + 1) vx (by have := h1.n; omega)
    refine wpList_val g3.1 (want_true g3.2 hj h2.c) (e3 _ h2.y) ?_
    have h3 := h2.put (s + 2) py (by omega) (by omega) (by omega)
    have t3 := put_same ((a.put (some s) px).put (some (s + 1)) vx) (s + 2) py (by have := h2.n; omega)
    have t2' := (put_other ((a.put (some s) px).put (some (s + 1)) vx) (s + 2) py (s + 1) (by omega)).trans t2
    refine wpList_val g4.1 (want_true g4.2 hj h3.c) (e4 _ t3) ?_
    have h4 := h3.put (s + 3) vy (by omega) (by omega) (by omega)
    have t4 := put_same (((a.put (some s) px).put (some (s + 1)) vx).put (some (s + 2)) py) (s + 3) vy (by have := h3.n; omega)
    have t2'' := (put_other (((a.put (some s) px).put (some (s + 1)) vx).put (some (s + 2)) py) (s + 3) vy (s + 1) (by omega)).trans t2'
    refine e5 _ _ t2'' t4 (want_true g5.2 hj h4.c) fun w' hw' => ?_
    have h5 := h4.put (s + 4) (.bool q) (by omega) (by omega) (by omega)
    exact last _ w' true h5 (fun _ => put_same _ _ _ (by have := h4.n; omega)) hw'
/-- One conjunct over fields of fields: the operations at slots s to s + 6 are wanted just if all holds so far; then the pick, then a move. -/
theorem conj2 {q : Bool} {s : Nat} {W : World → Prop} (j t : Nat) (h : Fr X Y k c n a) (hj : (ops[j]?).bind (·.dst) = some k) (hs : k < s) (hs3 : 3 < s) (hn : s + 8 ≤ n) (ht : 3 < t) (htn : t < n) (hW : W w)
    {o1 o1' o2 o3 o3' o4 o5 o6 o7 : Oper} {px px' py py' vx vy : Value}
    (g1 : o1.dst = some s ∧ o1.guard = some (j, true)) (g1' : o1'.dst = some (s + 1) ∧ o1'.guard = some (j, true)) (g2 : o2.dst = some (s + 2) ∧ o2.guard = some (j, true)) (g3 : o3.dst = some (s + 3) ∧ o3.guard = some (j, true)) (g3' : o3'.dst = some (s + 4) ∧ o3'.guard = some (j, true)) (g4 : o4.dst = some (s + 5) ∧ o4.guard = some (j, true)) (g5 : o5.dst = some (s + 6) ∧ o5.guard = some (j, true))
    (g6 : o6.op = .pick (.tmp k) (.tmp (s + 6)) (.const (.bool false)) ∧ o6.dst = some (s + 7) ∧ o6.guard = none) (g7 : (o7.op = .move (.tmp (s + 7)) ∨ o7.op = .assign (.tmp (s + 7))) ∧ o7.dst = some t ∧ o7.guard = none)
    (e1 : ∀ a' : Act, a'.tmps[2]? = some X → (execOp a'.eval o1).run P w = .ok (.value px) w)
    (e1' : ∀ a' : Act, a'.tmps[s]? = some px → (execOp a'.eval o1').run P w = .ok (.value px') w)
    (e2 : ∀ a' : Act, a'.tmps[s + 1]? = some px' → (execOp a'.eval o2).run P w = .ok (.value vx) w)
    (e3 : ∀ a' : Act, a'.tmps[3]? = some Y → (execOp a'.eval o3).run P w = .ok (.value py) w)
    (e3' : ∀ a' : Act, a'.tmps[s + 3]? = some py → (execOp a'.eval o3').run P w = .ok (.value py') w)
    (e4 : ∀ a' : Act, a'.tmps[s + 4]? = some py' → (execOp a'.eval o4).run P w = .ok (.value vy) w)
    (e5 : ∀ (a' : Act) (r : List Oper), a'.tmps[(s + 2)]? = some vx → a'.tmps[(s + 5)]? = some vy → Region.wanted o5 (yielded ops a'.tmps) = true → (∀ w', W w' → wpList P ops Q r (a'.put (some (s + 6)) (.bool q)) w') → wpList P ops Q (o5 :: r) a' w)
    (next : ∀ a' w', Fr X Y t (c && q) n a' → W w' → wpList P ops Q rest a' w') : wpList P ops Q (o1 :: o1' :: o2 :: o3 :: o3' :: o4 :: o5 :: o6 :: o7 :: rest) a w := by
  have last : ∀ (a' : Act) (w' : World) (b : Bool), Fr X Y k c n a' → (c = true → a'.tmps[s + 6]? = some (.bool q)) → W w' → wpList P ops Q (o6 :: o7 :: rest) a' w' := by
    intro a' w' b h' hq hw'
    refine wpList_val (w' := w') (v := .bool (c && q)) g6.2.1 (want_none g6.2.2) ?_ ?_
    · unfold execOp
      simp only [g6.1, eval_of h'.c]
      cases c with
      | false => rfl
      | true =>
        simp only [eval_of (hq rfl)]
        rfl
    · refine wpList_val (w' := w') (v := .bool (c && q)) g7.2.1 (want_none g7.2.2) ?_ ?_
      · unfold execOp
        rcases g7.1 with g | g <;> (simp only [g, eval_of (put_same a' (s + 7) (.bool (c && q)) (by have := h'.n; omega))]; rfl)
      · have h5 := h'.put (s + 7) (.bool (c && q)) (by omega) (by omega) (by omega)
        exact next _ _ ⟨(put_other _ t _ 2 (by omega)).trans h5.x, (put_other _ t _ 3 (by omega)).trans h5.y, put_same _ _ _ (by have := h5.n; omega), (put_size _ _ _).trans h5.n, h5.d⟩ hw'
  cases c with
  | false =>
    refine skip_one h hj g1.1 g1.2 (by omega) (by omega) (by omega) fun a1 h1 => ?_
    refine skip_one h1 hj g1'.1 g1'.2 (by omega) (by omega) (by omega) fun b1 hb1 => ?_
    refine skip_one hb1 hj g2.1 g2.2 (by omega) (by omega) (by omega) fun a2 h2 => ?_
    refine skip_one h2 hj g3.1 g3.2 (by omega) (by omega) (by omega) fun a3 h3 => ?_
    refine skip_one h3 hj g3'.1 g3'.2 (by omega) (by omega) (by omega) fun b3 hb3 => ?_
    refine skip_one hb3 hj g4.1 g4.2 (by omega) (by omega) (by omega) fun a4 h4 => ?_
    refine skip_one h4 hj g5.1 g5.2 (by omega) (by omega) (by omega) fun a5 h5 => ?_
    exact last a5 w false h5 (fun h => by cases h) hW
  | true =>
    have sz := h.n
    refine wpList_val g1.1 (want_true g1.2 hj h.c) (e1 a h.x) ?_
    have h1 := h.put s px (by omega) (by omega) (by omega)
    have t1 : (a.put (some s) px).tmps[s]? = some px := put_same a s px (by omega)
    generalize a.put (some s) px = a1 at t1 h1 ⊢
    refine wpList_val g1'.1 (want_true g1'.2 hj h1.c) (e1' _ t1) ?_
    have tb1 := put_same a1 (s + 1) px' (by have := h1.n; omega)
    have hb1 := h1.put (s + 1) px' (by omega) (by omega) (by omega)
    generalize a1.put (some (s + 1)) px' = b1 at tb1 hb1 ⊢
    refine wpList_val g2.1 (want_true g2.2 hj hb1.c) (e2 _ tb1) ?_
    have t2 := put_same b1 (s + 2) vx (by have := hb1.n; omega)
    have h2 := hb1.put (s + 2) vx (by omega) (by omega) (by omega)
    generalize b1.put (some (s + 2)) vx = a2 at t2 h2 ⊢
    refine wpList_val g3.1 (want_true g3.2 hj h2.c) (e3 _ h2.y) ?_
    have t3 := put_same a2 (s + 3) py (by have := h2.n; omega)
    have u3 := (put_other a2 (s + 3) py (s + 2) (by omega)).trans t2
    have h3 := h2.put (s + 3) py (by omega) (by omega) (by omega)
    generalize a2.put (some (s + 3)) py = a3 at t3 u3 h3 ⊢
    refine wpList_val g3'.1 (want_true g3'.2 hj h3.c) (e3' _ t3) ?_
    have tb3 := put_same a3 (s + 4) py' (by have := h3.n; omega)
    have ub3 := (put_other a3 (s + 4) py' (s + 2) (by omega)).trans u3
    have hb3 := h3.put (s + 4) py' (by omega) (by omega) (by omega)
    generalize a3.put (some (s + 4)) py' = b3 at tb3 ub3 hb3 ⊢
    refine wpList_val g4.1 (want_true g4.2 hj hb3.c) (e4 _ tb3) ?_
    have t4 := put_same b3 (s + 5) vy (by have := hb3.n; omega)
    have u4 := (put_other b3 (s + 5) vy (s + 2) (by omega)).trans ub3
    have h4 := hb3.put (s + 5) vy (by omega) (by omega) (by omega)
    generalize b3.put (some (s + 5)) vy = a4 at t4 u4 h4 ⊢
    refine e5 _ _ u4 t4 (want_true g5.2 hj h4.c) fun w' hw' => ?_
    have h5 := h4.put (s + 6) (.bool q) (by omega) (by omega) (by omega)
    exact last _ w' true h5 (fun _ => put_same _ _ _ (by have := h4.n; omega)) hw'
/-- The first conjunct, that is always wanted: no pick. -/
theorem conj_first {q : Bool} {s : Nat} (hx : a.tmps[2]? = some X) (hy : a.tmps[3]? = some Y) (hsz : a.tmps.size = n) (hd : a.defers = []) (hs3 : 3 < s) (hn : s + 5 < n)
    {o1 o2 o3 o4 o5 o6 : Oper} {px py vx vy : Value}
    (g1 : o1.dst = some s ∧ o1.guard = none) (g2 : o2.dst = some (s + 1) ∧ o2.guard = none) (g3 : o3.dst = some (s + 2) ∧ o3.guard = none) (g4 : o4.dst = some (s + 3) ∧ o4.guard = none) (g5 : o5.dst = some (s + 4) ∧ o5.guard = none)
    (g6 : o6.op = .move (.tmp (s + 4)) ∧ o6.dst = some (s + 5) ∧ o6.guard = none)
    (e1 : ∀ a' : Act, a'.tmps[2]? = some X → (execOp a'.eval o1).run P w = .ok (.value px) w)
    (e2 : ∀ a' : Act, a'.tmps[s]? = some px → (execOp a'.eval o2).run P w = .ok (.value vx) w)
    (e3 : ∀ a' : Act, a'.tmps[3]? = some Y → (execOp a'.eval o3).run P w = .ok (.value py) w)
    (e4 : ∀ a' : Act, a'.tmps[(s + 2)]? = some py → (execOp a'.eval o4).run P w = .ok (.value vy) w)
    (e5 : ∀ a' : Act, a'.tmps[(s + 1)]? = some vx → a'.tmps[(s + 3)]? = some vy → (execOp a'.eval o5).run P w = .ok (.value (.bool q)) w)
    (next : ∀ a', Fr X Y (s + 5) q n a' → wpList P ops Q rest a' w) : wpList P ops Q (o1 :: o2 :: o3 :: o4 :: o5 :: o6 :: rest) a w := by
  have h0 : Fr0 X Y n a := ⟨hx, hy, hsz, hd⟩
  refine wpList_val g1.1 (want_none g1.2) (e1 a h0.x) ?_
  have t1 := put_same a s px (by have := h0.n; omega)
  have h1 := h0.put s px (by omega) (by omega)
  generalize a.put (some s) px = a1 at t1 h1 ⊢
  refine wpList_val g2.1 (want_none g2.2) (e2 _ t1) ?_
  have t2 := put_same a1 (s + 1) vx (by have := h1.n; omega)
  have h2 := h1.put (s + 1) vx (by omega) (by omega)
  generalize a1.put (some (s + 1)) vx = a2 at t2 h2 ⊢
  refine wpList_val g3.1 (want_none g3.2) (e3 _ h2.y) ?_
  have t3 := put_same a2 (s + 2) py (by have := h2.n; omega)
  have t2' := (put_other a2 (s + 2) py (s + 1) (by omega)).trans t2
  have h3 := h2.put (s + 2) py (by omega) (by omega)
  generalize a2.put (some (s + 2)) py = a3 at t3 t2' h3 ⊢
  refine wpList_val g4.1 (want_none g4.2) (e4 _ t3) ?_
  have t4 := put_same a3 (s + 3) vy (by have := h3.n; omega)
  have t2'' := (put_other a3 (s + 3) vy (s + 1) (by omega)).trans t2'
  have h4 := h3.put (s + 3) vy (by omega) (by omega)
  generalize a3.put (some (s + 3)) vy = a4 at t4 t2'' h4 ⊢
  refine wpList_val g5.1 (want_none g5.2) (e5 _ t2'' t4) ?_
  have t5 := put_same a4 (s + 4) (.bool q) (by have := h4.n; omega)
  have h5 := h4.put (s + 4) (.bool q) (by omega) (by omega)
  generalize a4.put (some (s + 4)) (.bool q) = a5 at t5 h5 ⊢
  refine wpList_val (w' := w) (v := .bool q) g6.2.1 (want_none g6.2.2) ?_ ?_
  · unfold execOp
    simp only [g6.1, eval_of t5]
    rfl
  · have h6 := h5.put (s + 5) (.bool q) (by omega) (by omega)
    exact next _ ⟨h6.x, h6.y, put_same _ _ _ (by have := h5.n; omega), h6.n, h6.d⟩
end
end Go.Proofs.Ytjnpclpjdlimaaa
/- LexerJoins: two texts with a line feed between have the tokens of both. -/
namespace Go.Proofs.Ytjnpclpjdlimaaa
open Go.RowKit

theorem join_err {a b : List UInt8} {p : Nat} (h : (toks a 0).2 = some p) (hl : (a ++ 10 :: b).length ≤ 400) : answer (a ++ 10 :: b) = ([], p, 11) := by
  unfold answer
  rw [if_neg (by omega), toks_join, h]
theorem join_err2 {a b : List UInt8} {p : Nat} (h : (toks a 0).2 = none) (h2 : (toks b 0).2 = some p) (hl : (a ++ 10 :: b).length ≤ 400) : answer (a ++ 10 :: b) = ([], a.length + 1 + p, 11) := by
  unfold answer
  have e := toks_shift (a.length + 1) b 0
  rw [if_neg (by omega), toks_join, h]
  simp only
  rw [show 0 + a.length + 1 = 0 + (a.length + 1) from by omega, e]
  simp [ahead, shift, h2, Nat.add_comm]
theorem join_ok {a b : List UInt8} (h : (toks a 0).2 = none) (h2 : (toks b 0).2 = none) (hl : (a ++ 10 :: b).length ≤ 400) : ∃ us, answer (a ++ 10 :: b) = (us, 0, 0) ∧ Alike us ((toks a 0).1 ++ (toks b 0).1) ∧ us.length ≤ 400 := by
  have e := toks_shift (a.length + 1) b 0
  refine ⟨(toks a 0).1 ++ (shift (a.length + 1) (toks b 0)).1, ?_, ?_, ?_⟩
  · unfold answer
    rw [if_neg (by omega), toks_join, h]
    simp only
    rw [show 0 + a.length + 1 = 0 + (a.length + 1) from by omega, e]
    simp [ahead, shift, h2]
  · unfold Alike
    rw [List.map_append, List.map_append]
    congr 1
    exact alike_shift _ _
  · have l1 := (toks_long a 0).1
    have l2 := (toks_long b 0).1
    have l3 : (shift (a.length + 1) (toks b 0)).1.length = (toks b 0).1.length := by simp [shift]
    simp only [List.length_append, List.length_cons] at hl ⊢
    omega

theorem toks_err_le (l : List UInt8) (a p : Nat) : (toks l a).2 = some p → p < a + l.length := by
  revert p
  refine toks_ind (P := fun l a => ∀ p, (toks l a).2 = some p → p < a + l.length) ?_ ?_ ?_ l.length l a (Nat.le_refl _)
  · intro a p h; rw [toks_nil] at h; cases h
  · intro b r a h p hp
    rw [toks_bad r a h] at hp
    injection hp with hp
    simp
    omega
  · intro b r a h ih p hp
    rw [toks_cons r a h, ahead_err] at hp
    have := ih p hp
    have hl := rest_len (kindB b.toNat) r
    simp only [List.length_cons]
    omega
theorem exec_append {P : Program} {w w' : World} {op : Oper} {a : Act} {v y v' : Value} (s x : Operand) (t : TypeId) (ho : op.op = .call { callee := .builtin .append, args := #[s, x], argTypes := #[t, t] }) (hs : a.eval s = v) (hx : a.eval x = y)
    (hr : (Builtin.append_ #[t, t] op.type #[v, y]).run P w = .ok v' w') : (execOp a.eval op).run P w = .ok (.value v') w' := by
  unfold execOp
  simp only [ho, resolve, invoke, builtin, Sem.run_bind, Sem.run_pure, Result.andThen_ok, List.map_toArray, List.map_cons, List.map_nil, hs, hx, hr]

section
variable {w : World}
set_option maxHeartbeats 2000000 in
set_option maxRecDepth 100000 in
theorem law_joins (sa sb : ByteArray) (ha : sa.size ≤ 9223372036854775807) (hb : sb.size ≤ 9223372036854775807) : Calls Try.prog 6 #[.string sa, .string sb] w fun e w' => e = .returned (.bool true) ∧ Later w w' := by
  obtain ⟨la, hla⟩ : ∃ la, la = sa.data.toList := ⟨_, rfl⟩
  obtain ⟨lb, hlb⟩ : ∃ lb, lb = sb.data.toList := ⟨_, rfl⟩
  have hsa : sa = ⟨la.toArray⟩ := by rw [hla]
  have hsb : sb = ⟨lb.toArray⟩ := by rw [hlb]
  subst hsa hsb
  have hza := mk_size la
  have hzb := mk_size lb
  have CL := fun w' : World => hide (lives_any (w := w'))
  have L0 := hide (Later.refl w)
  clear hla hlb ha hb
  by_cases h1 : 150 < la.length
  · have hb1 : (150 : Int) < ((⟨la.toArray⟩ : ByteArray).size : Int) := by omega
    clear hza hzb
    go_enter Try.func6, Try.ntmps6
    go_wp2_with (fail)
    refine (CL _).out.mono ?_
    rintro e w1 ⟨rfl, hl1⟩
    go_wp2_with (fail)
    go_ret
    exact ⟨rfl, hl1⟩
  · by_cases h2 : 150 < lb.length
    · have hb1 : ¬ (150 : Int) < ((⟨la.toArray⟩ : ByteArray).size : Int) := by omega
      have hb2 : (150 : Int) < ((⟨lb.toArray⟩ : ByteArray).size : Int) := by omega
      clear hza hzb
      go_enter Try.func6, Try.ntmps6
      go_wp2_with (fail)
      refine (CL _).out.mono ?_
      rintro e w1 ⟨rfl, hl1⟩
      go_wp2_with (fail)
      go_ret
      exact ⟨rfl, hl1⟩
    · have hb1 : ¬ (150 : Int) < ((⟨la.toArray⟩ : ByteArray).size : Int) := by omega
      have hb2 : ¬ (150 : Int) < ((⟨lb.toArray⟩ : ByteArray).size : Int) := by omega
      have hX : (la ++ 10 :: lb).length ≤ 400 := by simp only [List.length_append, List.length_cons]; omega
      have C1 := hide (tokens_any (w := w) ⟨la.toArray⟩ (by omega))
      have C2 := fun w' : World => hide (tokens_any (w := w') ⟨lb.toArray⟩ (by omega))
      have C3 := fun w' : World => hide (tokens_any (w := w') ⟨(la ++ 10 :: lb).toArray⟩ (by rw [mk_size]; omega))
      simp only at C1 C2 C3
      have z1 : (⟨la.toArray⟩ : ByteArray).size + (⟨#[10]⟩ : ByteArray).size ≤ 9223372036854775807 := by
        rw [mk_size]
        show _ + 1 ≤ _
        omega
      have z2 : (⟨(la ++ [10]).toArray⟩ : ByteArray).size + (⟨lb.toArray⟩ : ByteArray).size ≤ 9223372036854775807 := by
        rw [mk_size, mk_size]
        simp only [List.length_append, List.length_cons, List.length_nil]
        omega
      have m1 : (⟨la.toArray⟩ ++ ⟨#[10]⟩ : ByteArray) = ⟨(la ++ [10]).toArray⟩ := mk_append la [10]
      have m2 : (⟨(la ++ [10]).toArray⟩ ++ ⟨lb.toArray⟩ : ByteArray) = ⟨(la ++ 10 :: lb).toArray⟩ := by rw [mk_append]; simp
      have HZA := hide hza
      have Z1 := hide z1
      have Z2 := hide z2
      have M1 := hide m1
      have M2 := hide m2
      have HX := hide hX
      clear hza hzb z1 z2 m1 m2 hX
      go_enter Try.func6, Try.ntmps6
      go_wp2_with (fail)
      refine C1.out.mono ?_
      rintro e w1 ⟨v1, rfl, hr1, hl1⟩
      have R1 := hide hr1
      have L1 := hide hl1
      clear hr1 hl1 C1
      go_wp2_with (fail)
      refine (C2 _).out.mono ?_
      rintro e w2 ⟨v2, rfl, hr2, hl2⟩
      have R2 := hide hr2
      have L2 := hide hl2
      have z1 := Z1.out
      have z2 := Z2.out
      have m1 := M1.out
      have m2 := M2.out
      clear hr2 hl2 C2
      go_wp2_with (fail)
      refine (C3 _).out.mono ?_
      rintro e w3 ⟨v3, rfl, hr3, hl3⟩
      have R3 := hide hr3
      have L3 := hide (L1.out.trans (L2.out.trans hl3))
      have L23 := hide hl3
      clear hr3 hl3 C3 z1 z2 m1 m2
      rcases answer_cases la with ⟨h, _⟩ | ⟨_, p, hp, haa⟩ | ⟨_, hna, haa⟩
      · omega
      · have hj := join_err hp HX.out
        simp only [haa, hj]
        go_wp2_with (fail)
        refine (CL _).out.mono ?_
        rintro e w4 ⟨rfl, hl4⟩
        go_wp2_with (fail)
        go_ret
        exact ⟨rfl, L3.out.trans hl4⟩
      · rcases answer_cases lb with ⟨h, _⟩ | ⟨_, p, hp, hab⟩ | ⟨_, hnb, hab⟩
        · omega
        · have hj := join_err2 hna hp HX.out
          have hpl : p ≤ 400 := by have := toks_err_le lb 0 p hp; omega
          simp only [haa, hab, hj]
          have hza := HZA.out
          go_wp2_with (fail)
          refine (CL _).out.mono ?_
          rintro e w4 ⟨rfl, hl4⟩
          go_wp2_with (fail)
          go_ret
          exact ⟨rfl, L3.out.trans hl4⟩
        · obtain ⟨us, hj, hal, hul⟩ := join_ok hna hnb HX.out
          have r1 := R1.out
          have r2 := R2.out
          have r3 := R3.out
          simp only [haa, hab, hj] at r1 r2 r3 ⊢
          have t1 := (toks_long la 0).1
          have t2 := (toks_long lb 0).1
          obtain ⟨ta, hta⟩ : ∃ ta, (toks la 0).1 = ta := ⟨_, rfl⟩
          obtain ⟨tb, htb⟩ : ∃ tb, (toks lb 0).1 = tb := ⟨_, rfl⟩
          rw [hta] at r1 hal t1
          rw [htb] at r2 hal t2
          have HAL := hide hal
          obtain ⟨A1, c1, rfl, _, _⟩ := r1.flat.shape
          obtain ⟨A2, c2, rfl, _, _⟩ := r2.flat.shape
          obtain ⟨A3, c3, rfl, _, _⟩ := r3.flat.shape
          have F1 := hide (r1.flat.later (L2.out.trans L23.out))
          have F2 := hide (r2.flat.later L23.out)
          have F3 := hide r3.flat
          obtain ⟨n1, hn1⟩ : ∃ n1, n1 = ta.length := ⟨_, rfl⟩
          obtain ⟨n2, hn2⟩ : ∃ n2, n2 = tb.length := ⟨_, rfl⟩
          obtain ⟨n3, hn3⟩ : ∃ n3, n3 = us.length := ⟨_, rfl⟩
          rw [← hn1] at F1 ⊢
          rw [← hn2] at F2 ⊢
          rw [← hn3] at F3 ⊢
          have HB := hide (show n1 ≤ 150 ∧ n2 ≤ 150 ∧ n3 ≤ 400 from by omega)
          have CP3 := hide (plain_any F3.out hn3 (by omega))
          have HN1 := hide hn1
          have HN2 := hide hn2
          have HN3 := hide hn3
          clear hn1 hn2 hn3 r1 r2 r3 haa hab hj hal hul hna hnb R1 R2 R3 t1 t2 hta htb L1 L2 L23
          go_wp2_with (fail)
          refine CP3.out.mono ?_
          rintro e w4 ⟨v4, rfl, hr4, hl4⟩
          have G4 := hide hr4.flat
          obtain ⟨A4, c4, rfl, _, _⟩ := ToksAt.shape (F := fun i => w3.heap.size ≤ i) (w := w4) (v := v4) (ts := us) G4.out
          have G4 : Hid (RToksAt (fun i => i < w4.heap.size) w4 (.slice A4 us.length c4) us) := FlatAt.mono G4.out fun i hi _ => hi
          rw [← HN3.out] at G4 ⊢
          have L4 := hide (L3.out.trans hl4)
          have CP1 := hide (plain_any (w := w4) (F1.out.later hl4) HN1.out (by have := HB.out; omega))
          have F24 := hide (F2.out.later hl4)
          clear hr4 hl4 CP3
          go_wp2_with (fail)
          refine CP1.out.mono ?_
          rintro e w5 ⟨v5, rfl, hr5, hl5⟩
          have R5 := hide hr5
          have L5 := hide (L4.out.trans hl5)
          have G5 := hide (RToksAt.later G4.out hl5)
          have CP2 := hide (plain_any (w := w5) (F24.out.later hl5) HN2.out (by have := HB.out; omega))
          have HB4 := hide (Below.size hl5)
          clear hr5 hl5 CP1
          go_wp2_with (fail)
          refine CP2.out.mono ?_
          rintro e w6 ⟨v6, rfl, hr6, hl6⟩
          have R6 := hide (own_later R5.out hl6)
          have G6 := hide (RToksAt.later G5.out hl6)
          have F6 := hide hr6.flat
          have L6 := hide (L5.out.trans hl6)
          have HS6 := hide (Nat.le_trans HB4.out (Below.size hl6))
          obtain ⟨A6, c6, rfl, _, _⟩ := ToksAt.shape (F := fun i => w5.heap.size ≤ i) (w := w6) (v := v6) (ts := tb) F6.out
          rw [← HN2.out] at F6 ⊢
          clear hr6 hl6 CP2
          obtain ⟨i0, hi, hz0, hz1, hz2⟩ := info_parts info_rtok
          have F6' : FlatAt (fun i => w5.heap.size ≤ i) w6 4 (.slice A6 n2 c6) n2 (tb.flatMap Tok.cells) := by
            have h := F6.out
            unfold RToksAt at h
            rw [← HN2.out] at h
            exact h
          obtain ⟨v7, w7, hrun, ho7, hg7⟩ := run_append_flat (P := Try.prog) w6 w4.heap.size 27 27 51 i0 _ 4 40 Try.underlying27 hi hz0 hz1 hz2 (by rfl) (by omega) v5 ta.length (ta.flatMap Tok.cells) R6.out (fun i => w5.heap.size ≤ i) A6 n2 c6 (tb.flatMap Tok.cells) F6' (by have := HB.out; have := HN1.out; unfold maxLen; omega) (by have := HB.out; have := HN1.out; omega) HS6.out
          have R7 : Hid (RTokRow w4.heap.size w7 v7 (ta ++ tb)) := by
            show World.ownsRow _ _ _ _ _ _ _
            rw [List.length_append, List.flatMap_append, ← HN2.out]
            exact ho7
          have L67 : Hid (Below w4.heap.size w6 w7) := later_own R6.out HS6.out hg7
          have HRUN := hide hrun
          clear ho7 hg7 hrun F6' hi hz0 hz1 hz2
          obtain ⟨M, hM⟩ : ∃ M, M = ta ++ tb := ⟨_, rfl⟩
          rw [← hM] at R7 HAL
          have R7F := hide R7.out.flat
          obtain ⟨A7, c7, rfl, _, _⟩ := ToksAt.shape (F := fun i => w4.heap.size ≤ i) (w := w7) (v := v7) (ts := M) R7F.out
          obtain ⟨n7, hn7⟩ : ∃ n7, n7 = M.length := ⟨_, rfl⟩
          rw [← hn7] at R7F HRUN
          have HN7 := hide hn7
          clear hM hn7 R7
          have G7 : Hid (RToksAt (fun i => i < w4.heap.size) w7 (.slice A4 n3 c4) us) := RToksAt.kept G6.out ⟨Below.size (show Below w4.heap.size w6 w7 from L67.out), fun i _ h => L67.out.block i h⟩
          have L7 : Hid (Later w w7) := Below.trans L6.out (Below.mono L67.out (Below.size L4.out))
          have CS := hide (same_any (w := w7) false G7.out R7F.out HN3.out HN7.out (sameL_alike HAL.out) (by have := HB.out; omega))
          go_wp2_with (at_builtin; refine wpList_val (v := .slice A7 n7 c7) (w' := w7) (by rfl) (by rfl) (exec_append _ _ _ (by rfl) (by rfl) (by rfl) HRUN.out) ?_)
          refine CS.out.mono ?_
          rintro e w8 ⟨rfl, hl8⟩
          have L8 := hide (L7.out.trans hl8)
          go_wp2_with (fail)
          refine (CL _).out.mono ?_
          rintro e w9 ⟨rfl, hl9⟩
          go_wp2_with (fail)
          go_ret
          exact ⟨rfl, L8.out.trans hl9⟩
end
end Go.Proofs.Ytjnpclpjdlimaaa
/- LexerNumbers: a number is told by its digits. -/
namespace Go.Proofs.Ytjnpclpjdlimaaa
open Go.RowKit

theorem one_digit (q : Nat) (h : q < 10) : (⟨#[48, 49, 50, 51, 52, 53, 54, 55, 56, 57]⟩ : ByteArray).extract q (q + 1) = ⟨[UInt8.ofNat (48 + q)].toArray⟩ := by
  rw [extract_list, show q + 1 - q = 1 from by omega]
  have : q = 0 ∨ q = 1 ∨ q = 2 ∨ q = 3 ∨ q = 4 ∨ q = 5 ∨ q = 6 ∨ q = 7 ∨ q = 8 ∨ q = 9 := by omega
  rcases this with rfl | rfl | rfl | rfl | rfl | rfl | rfl | rfl | rfl | rfl <;> rfl
theorem neq_ltok (k n a : Int) (s : ByteArray) (w : World) : (binOp .eql 36 (.agg #[.int .i64 k, .string s, .int .i64 n, .int .i64 a]) (.agg #[.int .i64 k, .string s, .int .i64 n, .int .i64 a])).run Try.prog w = .ok (.bool true) w := by
  have u3 := Try.underlying3
  have u9 := Try.underlying9
  have hS : Try.prog.underlying 36 = some (.struct (Try.prog.fieldsOf 36)) := by kernel_rfl
  have hp : Try.prog.stoodInHeld 36 = false := by kernel_rfl
  rw [run_eql_struct, show (10000 : Nat) = 9999 + 1 from rfl, run_equalIn_struct w 9999 36 _ _ hS hp]
  simp only [Program.fieldsOf, Try.underlying36]
  go_simp

section
variable {w : World}
set_option maxHeartbeats 2000000 in
set_option maxRecDepth 100000 in
theorem law_numbers (N M : Nat) (sb : ByteArray) (hb : sb.size ≤ 9223372036854775807) : Calls Try.prog 7 #[.int .u64 (N : Int), .int .u64 (M : Int), .string sb] w fun e w' => e = .returned (.bool true) ∧ Later w w' := by
  obtain ⟨lb, hlb⟩ : ∃ lb, lb = sb.data.toList := ⟨_, rfl⟩
  have hsb : sb = ⟨lb.toArray⟩ := by rw [hlb]
  subst hsb
  clear hlb hb
  have CL := fun w' : World => hide (lives_any (w := w'))
  have L0 := hide (Later.refl w)
  obtain ⟨k, hk⟩ : ∃ k, k = N % 3000000 := ⟨_, rfl⟩
  obtain ⟨j, hj⟩ : ∃ j, j = M % 5 := ⟨_, rfl⟩
  have hk3 : k < 3000000 := by omega
  have hj5 : j < 5 := by omega
  have hkI : (N : Int) % 3000000 = (k : Int) := by omega
  have hjI : (M : Int) % 5 = (j : Int) := by omega
  clear hk hj
  go_enter Try.func7, Try.ntmps7
  go_wp2_with (fail)
  go_loopw [8, 9] (fun v8 v9 wr => wr = w ∧ ∃ i : Nat, v9 = .int .i64 (i : Int) ∧ i ≤ j ∧ v8 = .string ⟨(List.replicate i (48 : UInt8)).toArray⟩) (fun _ v9 _ => j - (intOf v9).toNat)
  case atStart => exact ⟨rfl, 0, rfl, by omega, rfl⟩
  case round =>
    obtain ⟨rfl, i, rfl, hi, rfl⟩ := hrel
    by_cases hlt : i < j
    · have hltI : (i : Int) < (j : Int) := by omega
      have z1 : (⟨(List.replicate i (48 : UInt8)).toArray⟩ : ByteArray).size + (⟨#[48]⟩ : ByteArray).size ≤ 9223372036854775807 := by
        rw [mk_size]
        show _ + 1 ≤ _
        simp
        omega
      obtain ⟨x, hx⟩ : ∃ x, List.replicate i (48 : UInt8) = x := ⟨_, rfl⟩
      rw [hx] at z1 ⊢
      have m1 : (⟨x.toArray⟩ ++ ⟨#[48]⟩ : ByteArray) = ⟨(x ++ [48]).toArray⟩ := mk_append x [48]
      have HX := hide hx
      clear hx
      go_wp2_with (fail)
      exact ⟨⟨trivial, i + 1, rfl, by omega, by rw [← HX.out, List.replicate_succ']⟩, by simp [intOf]; omega⟩
    · have hie : i = j := by omega
      subst hie
      obtain ⟨Z, hZ⟩ : ∃ Z, List.replicate i (48 : UInt8) = Z := ⟨_, rfl⟩
      rw [hZ]
      have HZ := hide (show Z.length ≤ 4 ∧ (∀ c ∈ Z, digitB c.toNat = true) ∧ Z = List.replicate i 48 from ⟨by rw [← hZ]; simp; omega, fun c hc => by rw [← hZ] at hc; rw [List.eq_of_mem_replicate hc]; decide, hZ.symm⟩)
      clear hZ
      go_wp2_with (fail)
      go_loopw [10, 11] (fun v10 v11 wr2 => wr2 = wr ∧ ∃ (f v : Nat) (d : List UInt8), v10 = .string ⟨d.toArray⟩ ∧ v11 = .int .i64 (v : Int) ∧ digs (f + 1) d v = digs 7 [] k ∧ v < 10 ^ (f + 1) ∧ d.length + f = 6 ∧ v < 3000000) (fun _ v11 _ => (intOf v11).toNat)
      case atStart => exact ⟨rfl, 6, k, [], rfl, rfl, rfl, by omega, rfl, hk3⟩
      case round =>
        obtain ⟨rfl, f, v, d, rfl, rfl, hdg, hv10, hdl, hv3⟩ := hrel
        have HDG := hide hdg
        obtain ⟨q, hq⟩ : ∃ q, q = v % 10 := ⟨_, rfl⟩
        have hq10 : q < 10 := by omega
        have hqI : (v : Int) % 10 = (q : Int) := by omega
        have h1d := one_digit q hq10
        have z1 : (⟨[UInt8.ofNat (48 + q)].toArray⟩ : ByteArray).size + (⟨d.toArray⟩ : ByteArray).size ≤ 9223372036854775807 := by
          rw [mk_size, mk_size]
          simp only [List.length_cons, List.length_nil]
          omega
        have m1 : (⟨[UInt8.ofNat (48 + q)].toArray⟩ ++ ⟨d.toArray⟩ : ByteArray) = ⟨(UInt8.ofNat (48 + q) :: d).toArray⟩ := mk_append [UInt8.ofNat (48 + q)] d
        obtain ⟨c, hc⟩ : ∃ c, UInt8.ofNat (48 + q) = c := ⟨_, rfl⟩
        rw [hc] at h1d z1 m1
        have HC := hide hc
        have HQ := hide hq
        have hq0 : (0 : Int) ≤ (q : Int) := by omega
        have hq1 : (q : Int) + 1 ≤ 10 := by omega
        clear hdg hc hq
        by_cases hv : v < 10
        · have hvI : (v : Int) < 10 := by omega
          have hD : digs 7 [] k = c :: d := by
            rw [← HDG.out]
            unfold digs
            rw [if_pos hv, ← HQ.out, HC.out]
          obtain ⟨D, hDD⟩ : ∃ D, c :: d = D := ⟨_, rfl⟩
          rw [hDD] at m1 hD
          have HD := hide hD
          have hdl1 : D.length ≤ 7 := by rw [← hDD]; simp; omega
          have HDL := hide hdl1
          clear hD hDD hdl1
          have hlbz := mk_size lb
          by_cases h100 : 100 < lb.length
          · have hI : (100 : Int) < ((⟨lb.toArray⟩ : ByteArray).size : Int) := by omega
            clear hlbz
            go_wp2_with (fail)
            refine (CL _).out.mono ?_
            rintro e w1 ⟨rfl, hl1⟩
            go_wp2_with (fail)
            go_ret
            exact ⟨rfl, hl1⟩
          · have hI : ¬ (100 : Int) < ((⟨lb.toArray⟩ : ByteArray).size : Int) := by omega
            clear hlbz
            by_cases hnil : lb = []
            · have hne : ((⟨lb.toArray⟩ : ByteArray).toList == (⟨#[]⟩ : ByteArray).toList) = true := by rw [hnil]; simp
              have HNB : Hid (∀ c t, lb = c :: t → digitB c.toNat = false) := fun c t e => by rw [hnil] at e; cases e
              clear hne
              subst hnil
              have z4 : (⟨Z.toArray⟩ : ByteArray).size + (⟨D.toArray⟩ : ByteArray).size ≤ 9223372036854775807 := by rw [mk_size, mk_size]; have := HZ.out.1; have := HDL.out; omega
              have z5 : (⟨(Z ++ D).toArray⟩ : ByteArray).size + (⟨#[]⟩ : ByteArray).size ≤ 9223372036854775807 := by rw [mk_size]; show _ + 0 ≤ _; rw [List.length_append]; have := HZ.out.1; have := HDL.out; omega
              have m4 := mk_append Z D
              have m5 : (⟨(Z ++ D).toArray⟩ ++ ⟨#[]⟩ : ByteArray) = ⟨(Z ++ D).toArray⟩ := by have := mk_append (Z ++ D) []; simpa using this
              obtain ⟨X, hX⟩ : ∃ X, Z ++ D = X := ⟨_, rfl⟩
              rw [hX] at z5 m4 m5
              have hXl : X.length ≤ 11 := by rw [← hX, List.length_append]; have := HZ.out.1; have := HDL.out; omega
              have hXd : ∀ c ∈ X, digitB c.toNat = true := fun c hc => by
                rw [← hX] at hc
                rcases List.mem_append.1 hc with hc | hc
                · exact HZ.out.2.1 c hc
                · rw [← HD.out] at hc
                  exact digs_digit 7 [] k (fun _ h => by cases h) c hc
              have hXv : valF X = min k 1000000 := by
                rw [← hX, ← HD.out, HZ.out.2.2]
                exact number_val i k (by omega)
              have hXn : X ≠ [] := by
                rw [← hX, ← HD.out]
                intro h
                have h2 := (List.append_eq_nil_iff.1 h).2
                unfold digs at h2
                split at h2
                · cases h2
                · exact digs_ne 6 _ _ (by simp) h2
              have hstep := number_step (r := []) hXn hXd HNB.out 0
              rw [hXv, Nat.zero_add, List.append_nil] at hstep
              have hsh := toks_shift X.length [] 0
              rw [Nat.zero_add] at hsh
              have hXX : X.length ≤ 400 := by omega
              have C1 := hide (tokens_any (w := wr) ⟨X.toArray⟩ (by rw [mk_size]; omega))
              have C2 := fun w' : World => hide (tokens_any (w := w') ⟨#[]⟩ (by decide))
              simp only at C1 C2
              have hszX := mk_size X
              have HSX := hide hszX
              have HST := hide hstep
              have HSH := hide hsh
              have HXX := hide hXX
              have M4 := hide m4
              have Z4 := hide z4
              clear hX hXl hXd hXv hXn hstep hsh hXX hszX
              go_wp2_with (fail)
              refine C1.out.mono ?_
              rintro e w1 ⟨v1, rfl, hr1, hl1⟩
              have R1 := hide hr1
              have L1 := hide hl1
              clear hr1 hl1 C1 z5 m5
              go_wp2_with (fail)
              refine (C2 _).out.mono ?_
              rintro e w2 ⟨v2, rfl, hr2, hl2⟩
              have R2 := hide hr2
              have L2 := hide (L1.out.trans hl2)
              have L12 := hide hl2
              clear hr2 hl2 C2
              rcases answer_cases [] with ⟨h, _⟩ | ⟨_, p, hp, hab⟩ | ⟨_, hnb, hab⟩
              · omega
              · rw [toks_nil] at hp
                cases hp
              · have haX : answer X = (⟨2, X, min k 1000000, 0⟩ :: (shift X.length (toks [] 0)).1, 0, 0) := by
                  unfold answer
                  rw [if_neg (by have := HXX.out; omega), HST.out, HSH.out]
                  simp [ahead, shift, hnb]
                have r1 := R1.out
                have r2 := R2.out
                simp only [haX, hab] at r1 r2 ⊢
                obtain ⟨tb, htb⟩ : ∃ tb, (toks [] 0).1 = tb := ⟨_, rfl⟩
                have htl := (toks_long [] 0).1
                rw [htb] at r2 htl
                obtain ⟨ts, hts⟩ : ∃ ts, ts = (⟨2, X, min k 1000000, 0⟩ :: (shift X.length (toks [] 0)).1 : List Tok) := ⟨_, rfl⟩
                have htsl : ts.length = tb.length + 1 := by rw [hts, ← htb]; simp [shift]
                have hts0 : ts[0]? = some ⟨2, X, min k 1000000, 0⟩ := by rw [hts]; rfl
                rw [← hts] at r1
                obtain ⟨A1, c1, rfl, _, _⟩ := r1.flat.shape
                obtain ⟨A2, c2, rfl, _, _⟩ := r2.flat.shape
                have F1 := hide (r1.flat.later L12.out)
                obtain ⟨n1, hn1⟩ : ∃ n1, n1 = ts.length := ⟨_, rfl⟩
                obtain ⟨n2, hn2⟩ : ∃ n2, n2 = tb.length := ⟨_, rfl⟩
                rw [← hn1] at F1
                simp only [← hn1, ← hn2]
                have hnn : n1 = n2 + 1 := by omega
                have hnI : ((n1 : Int) == (n2 : Int) + 1) = true := by rw [beq_iff_eq]; omega
                obtain ⟨b0, off, t, rfl, hnc, hti, _, hbl, hrw⟩ := F1.out.at_ (i := 0) (by omega)
                rw [hts0] at hti
                injection hti with hti
                subst hti
                obtain ⟨d0, d1, d2, d3⟩ := range4 hrw
                simp only [Nat.zero_mul, Nat.add_zero] at d0 d1 d2 d3
                obtain ⟨vv, hvv⟩ : ∃ vv, min k 1000000 = vv := ⟨_, rfl⟩
                rw [hvv] at d2
                have hn10 : (0 : Int) < (n1 : Int) := by omega
                have hn2b : n2 ≤ 400 := by omega
                have HVV := hide hvv
                have heq := fun W : World => neq_ltok 2 (vv : Int) 0 ⟨X.toArray⟩ W
                have m4 := M4.out
                have z4 := Z4.out
                clear haX hab hts htsl hts0 hrw r1 r2 hn1 hn2 htb hvv hnb htl R1 R2 F1 hnn
                by_cases hkb : 1000000 < k
                · have hkbI : (1000000 : Int) < (k : Int) := by omega
                  have hvk : vv = 1000000 := by have := HVV.out; omega
                  subst hvk
                  have heq1 : ∀ W : World, (binOp .eql 36 (.agg #[.int .i64 2, .string ⟨X.toArray⟩, .int .i64 1000000, .int .i64 0]) (.agg #[.int .i64 2, .string ⟨X.toArray⟩, .int .i64 1000000, .int .i64 0])).run Try.prog W = .ok (.bool true) W := fun W => neq_ltok 2 1000000 0 ⟨X.toArray⟩ W
                  clear heq
                  go_wp2_with (fail)
                  refine (CL _).out.mono ?_
                  rintro e w3 ⟨rfl, hl3⟩
                  go_wp2_with (fail)
                  go_ret
                  exact ⟨rfl, L2.out.trans hl3⟩
                · have hkbI : ¬ (1000000 : Int) < (k : Int) := by omega
                  have hvk : vv = k := by have := HVV.out; omega
                  subst hvk
                  go_wp2_with (fail)
                  refine (CL _).out.mono ?_
                  rintro e w3 ⟨rfl, hl3⟩
                  go_wp2_with (fail)
                  go_ret
                  exact ⟨rfl, L2.out.trans hl3⟩
            · obtain ⟨b0, hb0⟩ : ∃ b0, lb[0]? = some b0 := by
                cases lb with
                | nil => exact absurd rfl hnil
                | cons b r => exact ⟨b, rfl⟩
              have hne : ((⟨lb.toArray⟩ : ByteArray).toList == (⟨#[]⟩ : ByteArray).toList) = false := by
                rw [beq_eq_false_iff_ne]
                simpa using hnil
              have hpos : 0 < lb.length := by
                cases lb with
                | nil => exact absurd rfl hnil
                | cons b r => simp
              have hi0 : ∀ W : World, (Instr.index 9 (.string ⟨lb.toArray⟩) (.int .i64 0)).run Try.prog W = .ok (.int .u8 (b0.toNat : Int)) W := fun W => idx_at ⟨lb.toArray⟩ 0 b0 (by rw [mk_size]; exact hpos) (by simpa using hb0) W
              have CD := hide (refDigit_any (w := wr) b0.toNat)
              have HB0 := hide hb0
              have hemp : lb.isEmpty = false := by
                cases lb with
                | nil => exact absurd rfl hnil
                | cons b r => rfl
              clear hpos hb0 hne
              cases hdg0 : digitB b0.toNat with
              | true =>
                rw [hdg0] at CD
                go_wp2_with (fail)
                refine CD.out.mono ?_
                rintro e w1 ⟨rfl, hq1⟩
                obtain rfl := hq1.symm
                go_wp2_with (fail)
                refine (CL _).out.mono ?_
                rintro e w1 ⟨rfl, hl1⟩
                go_wp2_with (fail)
                go_ret
                exact ⟨rfl, hl1⟩
              | false =>
                rw [hdg0] at CD
                have HNB : Hid (∀ c t, lb = c :: t → digitB c.toNat = false) := fun c t e => by
                  have h := HB0.out
                  rw [e] at h
                  have : c = b0 := by simpa using h
                  rw [this]
                  exact hdg0
                clear hdg0
                go_wp2_with (fail)
                refine CD.out.mono ?_
                rintro e w1 ⟨rfl, hq1⟩
                obtain rfl := hq1.symm
                clear hi0
                have z4 : (⟨Z.toArray⟩ : ByteArray).size + (⟨D.toArray⟩ : ByteArray).size ≤ 9223372036854775807 := by rw [mk_size, mk_size]; have := HZ.out.1; have := HDL.out; omega
                have z5 : (⟨(Z ++ D).toArray⟩ : ByteArray).size + (⟨lb.toArray⟩ : ByteArray).size ≤ 9223372036854775807 := by rw [mk_size, mk_size, List.length_append]; have := HZ.out.1; have := HDL.out; omega
                have m4 := mk_append Z D
                have m5 := mk_append (Z ++ D) lb
                obtain ⟨X, hX⟩ : ∃ X, Z ++ D = X := ⟨_, rfl⟩
                rw [hX] at z5 m4 m5
                have hXl : X.length ≤ 11 := by rw [← hX, List.length_append]; have := HZ.out.1; have := HDL.out; omega
                have hXd : ∀ c ∈ X, digitB c.toNat = true := fun c hc => by
                  rw [← hX] at hc
                  rcases List.mem_append.1 hc with hc | hc
                  · exact HZ.out.2.1 c hc
                  · rw [← HD.out] at hc
                    exact digs_digit 7 [] k (fun _ h => by cases h) c hc
                have hXv : valF X = min k 1000000 := by
                  rw [← hX, ← HD.out, HZ.out.2.2]
                  exact number_val i k (by omega)
                have hXn : X ≠ [] := by
                  rw [← hX, ← HD.out]
                  intro h
                  have h2 := (List.append_eq_nil_iff.1 h).2
                  unfold digs at h2
                  split at h2
                  · cases h2
                  · exact digs_ne 6 _ _ (by simp) h2
                have hstep := number_step (r := lb) hXn hXd HNB.out 0
                rw [hXv, Nat.zero_add] at hstep
                have hsh := toks_shift X.length lb 0
                rw [Nat.zero_add] at hsh
                have hXX : (X ++ lb).length ≤ 400 := by rw [List.length_append]; omega
                have C1 := hide (tokens_any (w := wr) ⟨(X ++ lb).toArray⟩ (by rw [mk_size]; omega))
                have C2 := fun w' : World => hide (tokens_any (w := w') ⟨lb.toArray⟩ (by rw [mk_size]; omega))
                simp only at C1 C2
                have hszX := mk_size X
                have HSX := hide hszX
                have HST := hide hstep
                have HSH := hide hsh
                have HXX := hide hXX
                have M4 := hide m4
                have Z4 := hide z4
                clear hX hXl hXd hXv hXn hstep hsh hXX hszX
                go_wp2_with (fail)
                refine C1.out.mono ?_
                rintro e w1 ⟨v1, rfl, hr1, hl1⟩
                have R1 := hide hr1
                have L1 := hide hl1
                clear hr1 hl1 C1 z5 m5
                go_wp2_with (fail)
                refine (C2 _).out.mono ?_
                rintro e w2 ⟨v2, rfl, hr2, hl2⟩
                have R2 := hide hr2
                have L2 := hide (L1.out.trans hl2)
                have L12 := hide hl2
                clear hr2 hl2 C2
                rcases answer_cases lb with ⟨h, _⟩ | ⟨_, p, hp, hab⟩ | ⟨_, hnb, hab⟩
                · omega
                · have haX : answer (X ++ lb) = ([], p + X.length, 11) := by
                    unfold answer
                    rw [if_neg (by have := HXX.out; omega), HST.out, HSH.out]
                    simp [ahead, shift, hp]
                  have hpl := toks_err_le lb 0 p hp
                  simp only [haX, hab]
                  have hge : (X.length : Int) ≤ ((p + X.length : Nat) : Int) := by omega
                  have hszX := HSX.out
                  have m4 := M4.out
                  have z4 := Z4.out
                  clear haX hab hp
                  go_wp2_with (fail)
                  refine (CL _).out.mono ?_
                  rintro e w3 ⟨rfl, hl3⟩
                  go_wp2_with (fail)
                  go_ret
                  exact ⟨rfl, L2.out.trans hl3⟩
                · have haX : answer (X ++ lb) = (⟨2, X, min k 1000000, 0⟩ :: (shift X.length (toks lb 0)).1, 0, 0) := by
                    unfold answer
                    rw [if_neg (by have := HXX.out; omega), HST.out, HSH.out]
                    simp [ahead, shift, hnb]
                  have r1 := R1.out
                  have r2 := R2.out
                  simp only [haX, hab] at r1 r2 ⊢
                  obtain ⟨tb, htb⟩ : ∃ tb, (toks lb 0).1 = tb := ⟨_, rfl⟩
                  have htl := (toks_long lb 0).1
                  rw [htb] at r2 htl
                  obtain ⟨ts, hts⟩ : ∃ ts, ts = (⟨2, X, min k 1000000, 0⟩ :: (shift X.length (toks lb 0)).1 : List Tok) := ⟨_, rfl⟩
                  have htsl : ts.length = tb.length + 1 := by rw [hts, ← htb]; simp [shift]
                  have hts0 : ts[0]? = some ⟨2, X, min k 1000000, 0⟩ := by rw [hts]; rfl
                  rw [← hts] at r1
                  obtain ⟨A1, c1, rfl, _, _⟩ := r1.flat.shape
                  obtain ⟨A2, c2, rfl, _, _⟩ := r2.flat.shape
                  have F1 := hide (r1.flat.later L12.out)
                  obtain ⟨n1, hn1⟩ : ∃ n1, n1 = ts.length := ⟨_, rfl⟩
                  obtain ⟨n2, hn2⟩ : ∃ n2, n2 = tb.length := ⟨_, rfl⟩
                  rw [← hn1] at F1
                  simp only [← hn1, ← hn2]
                  have hnn : n1 = n2 + 1 := by omega
                  have hnI : ((n1 : Int) == (n2 : Int) + 1) = true := by rw [beq_iff_eq]; omega
                  obtain ⟨b0, off, t, rfl, hnc, hti, _, hbl, hrw⟩ := F1.out.at_ (i := 0) (by omega)
                  rw [hts0] at hti
                  injection hti with hti
                  subst hti
                  obtain ⟨d0, d1, d2, d3⟩ := range4 hrw
                  simp only [Nat.zero_mul, Nat.add_zero] at d0 d1 d2 d3
                  obtain ⟨vv, hvv⟩ : ∃ vv, min k 1000000 = vv := ⟨_, rfl⟩
                  rw [hvv] at d2
                  have hn10 : (0 : Int) < (n1 : Int) := by omega
                  have hn2b : n2 ≤ 400 := by omega
                  have HVV := hide hvv
                  have heq := fun W : World => neq_ltok 2 (vv : Int) 0 ⟨X.toArray⟩ W
                  have m4 := M4.out
                  have z4 := Z4.out
                  clear haX hab hts htsl hts0 hrw r1 r2 hn1 hn2 htb hvv hnb htl R1 R2 F1 hnn
                  by_cases hkb : 1000000 < k
                  · have hkbI : (1000000 : Int) < (k : Int) := by omega
                    have hvk : vv = 1000000 := by have := HVV.out; omega
                    subst hvk
                    have heq1 : ∀ W : World, (binOp .eql 36 (.agg #[.int .i64 2, .string ⟨X.toArray⟩, .int .i64 1000000, .int .i64 0]) (.agg #[.int .i64 2, .string ⟨X.toArray⟩, .int .i64 1000000, .int .i64 0])).run Try.prog W = .ok (.bool true) W := fun W => neq_ltok 2 1000000 0 ⟨X.toArray⟩ W
                    clear heq
                    go_wp2_with (fail)
                    refine (CL _).out.mono ?_
                    rintro e w3 ⟨rfl, hl3⟩
                    go_wp2_with (fail)
                    go_ret
                    exact ⟨rfl, L2.out.trans hl3⟩
                  · have hkbI : ¬ (1000000 : Int) < (k : Int) := by omega
                    have hvk : vv = k := by have := HVV.out; omega
                    subst hvk
                    go_wp2_with (fail)
                    refine (CL _).out.mono ?_
                    rintro e w3 ⟨rfl, hl3⟩
                    go_wp2_with (fail)
                    go_ret
                    exact ⟨rfl, L2.out.trans hl3⟩
        · have hvI : ¬ (v : Int) < 10 := by omega
          obtain ⟨f2, rfl⟩ : ∃ f2, f = f2 + 1 := by
            cases f with
            | zero => simp at hv10; omega
            | succ f2 => exact ⟨f2, rfl⟩
          have hstep : digs (f2 + 1) (c :: d) (v / 10) = digs 7 [] k := by
            rw [← HDG.out]
            conv => rhs; unfold digs
            rw [if_neg hv, ← HQ.out, HC.out]
          obtain ⟨u, hu⟩ : ∃ u, v / 10 = u := ⟨_, rfl⟩
          rw [hu] at hstep
          have HU := hide hu
          have HST := hide hstep
          have hp : u < 10 ^ (f2 + 1) := by rw [Nat.pow_succ] at hv10; omega
          have HPW := hide hp
          have hdI : (v : Int) / 10 = (u : Int) := by omega
          have hdt : (v : Int).tdiv 10 = (u : Int) := by rw [Int.tdiv_eq_ediv_of_nonneg (by omega), hdI]
          have hu3 : u < 3000000 := by omega
          have huv : u < v := by omega
          have HB := hide (And.intro hu3 huv)
          clear hu hdI huv
          clear hstep hp hv10
          go_wp2_with (fail)
          exact ⟨⟨trivial, f2, u, c :: d, rfl, by go_num, HST.out, HPW.out, by simp; omega, HB.out.1⟩, by have := HB.out.2; simp [intOf]; omega⟩
end
end Go.Proofs.Ytjnpclpjdlimaaa
/- The law with its world ahead of what is known of its arguments. -/
namespace Go.Proofs.Ytjnpclpjdlimaaa
open Go.RowKit
theorem law_numbersW (N : Nat) (M : Nat) (sb : ByteArray) (W : World) (_h0 : N < 18446744073709551616) (_h1 : M < 18446744073709551616) (h2 : sb.size ≤ 9223372036854775807) : Calls Try.prog 7 #[.int .u64 (N : Int), .int .u64 (M : Int), .string sb] W fun e w' => e = .returned (.bool true) ∧ Later W w' :=
  law_numbers (w := W) N M sb h2
end Go.Proofs.Ytjnpclpjdlimaaa
namespace Go.Proofs.Ytjnpclpjdlimaaa
open Go.ChangeShapes Go.WideShapes Go.ChangeAt Go.RowKit

theorem lexerNumbers_lawKnobs : ownKnob Try.prog.godebug = none := by kernel_rfl
theorem lexerNumbers_allLaid : laidOutB Try.prog = true := by kernel_rfl

set_option maxRecDepth 100000 in
set_option maxHeartbeats 1000000 in
theorem lexerNumbers_lifted (os : Os) (started : os.Started) (H : Type) (enc : TypeId × Value → H) :
    ReturnsInHanded {} Try.checked os 7 .any (Rows.lexerNumbersSpec.pre6 enc Try.prog Try.f7 Rows.lexerNumbersRow.domain false) (Rows.lexerNumbersSpec.post enc Try.prog Try.f7 false true false false) := by
  refine returnsInHanded_of_change_sized (C := Try.checked) lexerNumbers_lawKnobs started (by kernel_rfl) Try.func7
    (ChangeSpec.witness6 (enc := enc) (C := Try.checked) false ⟨#[], #[.int .u64 0, .int .u64 0, .string ⟨#[]⟩], []⟩ 8 (by kernel_rfl) (by kernel_rfl) (by kernel_rfl) (by kernel_rfl)) ?_
  intro W base args ds gs before hval0 hW hcnd hsz _
  have hval : ∀ (j : Nat) t v, Try.f7.params[j]? = some t → args[j]? = some v → Value.okWide Try.prog W .any base t v := hval0
  have hW' := hW
  obtain ⟨p, q, hA0, hV, rfl, _, _⟩ := hW
  have hA : DataW.TrodAll enc Try.prog W 0 (fun _ => true) true Try.f7.params.toList args.toList ds p := hA0
  rw [Try.params7] at hA hval
  obtain ⟨v0, vs0, d0, ds0, p0, q0, hargs, rfl, rfl, h0, r0⟩ := trodAll_cons hA
  obtain ⟨v1, vs1, d1, ds1, p1, q1, rfl, rfl, rfl, h1, r1⟩ := trodAll_cons r0
  obtain ⟨v2, vs2, d2, ds2, p2, q2, rfl, rfl, rfl, h2, r2⟩ := trodAll_cons r1
  obtain ⟨rfl, rfl, rfl⟩ := trodAll_nil r2
  obtain rfl : args = #[v0, v1, v2] := by cases args; simp_all
  obtain ⟨rfl, rfl⟩ := trodVars_none hV
  have k0 := h0
  obtain ⟨a0, rfl, rfl, rfl, w0⟩ := open_int Try.underlying39 (hval 0 39 v0 rfl rfl) h0
  have b0 := bounds_u64 w0
  obtain ⟨V0, rfl⟩ := Int.eq_ofNat_of_zero_le b0.1
  have k1 := h1
  obtain ⟨a1, rfl, rfl, rfl, w1⟩ := open_int Try.underlying39 (hval 1 39 v1 rfl rfl) h1
  have b1 := bounds_u64 w1
  obtain ⟨V1, rfl⟩ := Int.eq_ofNat_of_zero_le b1.1
  have k2 := h2
  obtain ⟨a2, rfl, rfl, rfl, w2⟩ := Go.ChangeMaps.open_string Try.underlying9 (hval 2 9 v2 rfl rfl) h2
  clear hA0 hval0
  refine (law_numbersW V0 V1 a2 W (by omega) (by omega) (by unfold maxLen at w2; omega)).mono fun e W' ⟨he, bel⟩ => ?_
  subst he
  exact ⟨_, rfl, _, _, _, [], _, [], hW', trodAll_mk1 (shut_bool Try.underlying4 _), (trodAll_cons_mk (shut_int Try.underlying39 w0) (trodAll_cons_mk (shut_int Try.underlying39 w1) (trodAll_cons_mk (Go.ChangeMaps.shut_string Try.underlying9 w2) trodAll_mk0))), rfl, bel.frame _, fun h => by cases h⟩

theorem lexerNumbers_over : Rows.lexerNumbersRow.holds Try.pinned (OpenSpec.ofChange Rows.lexerNumbersSpec) :=
  OpenClaim.holds_of_wide 7 Try.f7 rfl rfl rfl rfl rfl rfl rfl ⟨rfl, rfl, rfl, rfl, rfl⟩ rfl rfl rfl rfl rfl (by kernel_rfl) Try.func7 (by kernel_rfl)
    (of_decide_eq_true (by kernel_rfl)) (by unfold Func.isWrapper; first | (rw [if_pos (by decide +kernel)]; kernel_rfl) | (rw [if_neg (by decide +kernel)]; exact ⟨rfl, rfl⟩))
    (fun os started H enc _ => lexerNumbers_lifted os started H enc)

theorem lexerNumbers_holds : Rows.LexerNumbersSaid := lexerNumbers_over
#print axioms lexerNumbers_holds
end Go.Proofs.Ytjnpclpjdlimaaa
