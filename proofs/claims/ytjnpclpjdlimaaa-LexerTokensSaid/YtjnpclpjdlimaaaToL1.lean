/- The law droverlaw12.LexerTokens is true at every text: its tokens, what is wrong with it, whether it is a name, and the text of its tokens are the document's. -/
import Derived.Test.YtjnpclpjdlimaaaBaseL1
import Derived.Test.YtjnpclpjdlimaaaBaseL2
import Derived.Test.YtjnpclpjdlimaaaRows
import Derived.ProofKit
import Derived.OpenShut
import Derived.ShutString
import Derived.ChangeOld
/- LexerTokens: tokens, errors, names and texts are the document's. -/
namespace Go.Proofs.Ytjnpclpjdlimaaa
open Go.RowKit

theorem mk_append (x y : List UInt8) : (⟨x.toArray⟩ ++ ⟨y.toArray⟩ : ByteArray) = ⟨(x ++ y).toArray⟩ := by
  apply ByteArray.ext
  simp
theorem mk_size (x : List UInt8) : (⟨x.toArray⟩ : ByteArray).size = x.length := by simp [ByteArray.size]

section
variable {w : World}
set_option maxHeartbeats 4000000 in
set_option maxRecDepth 100000 in
theorem reftext_any {F : Nat → Prop} {A : Option Addr} {n cap : Nat} {ts : List Tok} (h : RToksAt F w (.slice A n cap) ts) (hn : n = ts.length) (hlen : (textF ts).length ≤ 100000) (hn2 : n ≤ 100000) :
    Calls Try.prog 16 #[.slice A n cap] w fun e w' => e = .returned (.string ⟨(textF ts).toArray⟩) ∧ Later w w' := by
  have H := hide h
  have HN := hide hn
  have HLN := hide hlen
  have L0 := hide (Later.refl w)
  clear h hn hlen
  go_enter Try.func16, Try.ntmps16
  go_wp2_with (fail)
  go_loopw [3, 8] (fun v3 v wr => ∃ i : Nat, v = .int .i64 (i : Int) ∧ i ≤ n ∧ v3 = .string ⟨(textF (ts.take i)).toArray⟩ ∧ Later w wr) (fun _ v _ => n - (intOf v).toNat)
  case atStart => exact ⟨0, rfl, by omega, rfl, L0.out⟩
  case round =>
    obtain ⟨i, rfl, hi, rfl, hbel⟩ := hrel
    have HBL := hide hbel
    clear hbel
    by_cases hlt : i < n
    · obtain ⟨b, off, t, rfl, hnc, ht, _, hbl, hrow⟩ := (H.out.later HBL.out).at_ hlt
      obtain ⟨c0, c1, c2, c3⟩ := rrange4 hrow
      have htk := text_take ts i t ht
      have hle := text_len_take ts (i + 1)
      have hle2 := text_len_take ts i
      have hln := HLN.out
      obtain ⟨x, hx⟩ : ∃ x, textF (ts.take i) = x := ⟨_, rfl⟩
      rw [hx] at htk hle2 ⊢
      have L1 : Hid (∀ o : Obj, Later w (wr.alloc o)) := fun o => HBL.out.alloc (Below.size HBL.out) _
      clear hrow ht hx
      by_cases hi0 : 0 < i
      · have hi0' : (0 : Int) < (i : Int) := by omega
        rw [if_pos hi0] at htk
        have hl4 := congrArg List.length htk
        simp only [List.length_append, List.length_cons, List.length_nil] at hl4
        have HTK := hide htk
        have z1 : (⟨x.toArray⟩ : ByteArray).size + (⟨#[32]⟩ : ByteArray).size ≤ 9223372036854775807 := by
          rw [mk_size]
          show _ + 1 ≤ _
          omega
        have z2 : (⟨(x ++ [32]).toArray⟩ : ByteArray).size + (⟨t.s.toArray⟩ : ByteArray).size ≤ 9223372036854775807 := by
          rw [mk_size, mk_size]
          simp only [List.length_append, List.length_cons, List.length_nil]
          omega
        have m1 : (⟨x.toArray⟩ ++ ⟨#[32]⟩ : ByteArray) = ⟨(x ++ [32]).toArray⟩ := mk_append x [32]
        have m2 := mk_append (x ++ [32]) t.s
        clear htk hle hle2 hln hl4
        go_wp2_with (fail)
        go_roundw
        case rel => exact ⟨i + 1, by go_num, by omega, by rw [HTK.out]; simp, L1.out _⟩
        case measure => simp [intOf]; omega
      · have hi0' : ¬ (0 : Int) < (i : Int) := by omega
        rw [if_neg hi0] at htk
        have hl4 := congrArg List.length htk
        simp only [List.length_append] at hl4
        have HTK := hide htk
        have z2 : (⟨x.toArray⟩ : ByteArray).size + (⟨t.s.toArray⟩ : ByteArray).size ≤ 9223372036854775807 := by
          rw [mk_size, mk_size]
          omega
        have m2 := mk_append x t.s
        clear htk hle hle2 hln hl4
        go_wp2_with (fail)
        go_roundw
        case rel => exact ⟨i + 1, by go_num, by omega, by rw [HTK.out], L1.out _⟩
        case measure => simp [intOf]; omega
    · have hie : i = n := by omega
      subst hie
      have hft : textF (ts.take i) = textF ts := by rw [HN.out, List.take_length]
      rw [hft]
      go_wp2_with (fail)
      go_ret
      exact ⟨rfl, HBL.out⟩

set_option maxHeartbeats 4000000 in
set_option maxRecDepth 100000 in
theorem law_tokens (s : ByteArray) (hs : s.size ≤ 9223372036854775807) : Calls Try.prog 3 #[.string s] w fun e w' => e = .returned (.bool true) ∧ Later w w' := by
  have CL := fun w' : World => hide (lives_any (w := w'))
  by_cases h1 : 3000 < s.size
  · have hb1 : (3000 : Int) < (s.size : Int) := by omega
    go_enter Try.func3, Try.ntmps3
    go_wp2_with (fail)
    refine (CL _).out.mono ?_
    rintro e w1 ⟨rfl, hl1⟩
    go_wp2_with (fail)
    go_ret
    exact ⟨rfl, hl1⟩
  · have hb1 : ¬ (3000 : Int) < (s.size : Int) := by omega
    have C1 := hide (tokens_any (w := w) s hs)
    have C2 := fun w' : World => hide (reftokens_any (w := w') s (by omega))
    have CN := fun w' : World => hide (name_any (w := w') s)
    have CR := fun w' : World => hide (refName_any (w := w') s)
    obtain ⟨L, hL⟩ : ∃ L, L = s.data.toList := ⟨_, rfl⟩
    simp only [← hL] at C1 C2 CN CR
    clear hL hs h1
    go_enter Try.func3, Try.ntmps3
    go_wp2_with (fail)
    refine C1.out.mono ?_
    rintro e w1 ⟨v1, rfl, hr1, hl1⟩
    have L1 := hide hl1
    have R1 := hide hr1
    clear hr1 hl1 C1
    go_wp2_with (fail)
    refine (C2 _).out.mono ?_
    rintro e w2 ⟨v2, rfl, hr2, hl2⟩
    obtain ⟨ts, hts⟩ : ∃ ts, (answer L).1 = ts := ⟨_, rfl⟩
    have hlong : ts.length ≤ 400 ∧ (textF ts).length ≤ 800 := by
      rw [← hts]
      rcases answer_cases L with ⟨_, ha⟩ | ⟨_, p, _, ha⟩ | ⟨h4, _, ha⟩
      · rw [ha]; simp [textF]
      · rw [ha]; simp [textF]
      · rw [ha]
        have h2 := toks_long L 0
        have h3 := text_long (toks L 0).1
        simp only
        omega
    have r1 := R1.out
    rw [hts] at r1 hr2
    obtain ⟨k, hk⟩ : ∃ k, (answer L).2.1 = k := ⟨_, rfl⟩
    obtain ⟨f, hf⟩ : ∃ f, (answer L).2.2 = f := ⟨_, rfl⟩
    have hf12 : f ≤ 12 := by
      rw [← hf]
      rcases answer_cases L with ⟨_, ha⟩ | ⟨_, p, _, ha⟩ | ⟨_, _, ha⟩ <;> rw [ha] <;> simp
    rw [hk, hf]
    obtain ⟨A1, c1, rfl, _, _⟩ := r1.flat.shape
    obtain ⟨A2, c2, rfl, _, _⟩ := ToksAt.shape (F := fun i => w1.heap.size ≤ i) (w := w2) (v := v2) (ts := ts) hr2.flat
    have F1 := hide (r1.flat.later hl2)
    have F2 := hide hr2.flat
    have L2 := hide (L1.out.trans hl2)
    obtain ⟨n, hn⟩ : ∃ n, n = ts.length := ⟨_, rfl⟩
    rw [← hn] at F1 F2 ⊢
    have HN := hide hn
    have HLO := hide (show n ≤ 400 ∧ (textF ts).length ≤ 800 by omega)
    have CP := hide (plain_any F1.out hn (by omega))
    clear hr2 hl2 C2 r1 R1 hts hk hf hlong hn
    go_wp2_with (fail)
    refine CP.out.mono ?_
    rintro e w3 ⟨v3, rfl, hr3, hl3⟩
    have G3 := hide hr3.flat
    obtain ⟨A3, c3, rfl, _, _⟩ := ToksAt.shape (F := fun i => w2.heap.size ≤ i) (w := w3) (v := v3) (ts := ts) G3.out
    rw [← HN.out] at G3 ⊢
    have F13 := hide (F1.out.later hl3)
    have F23 := hide (RToksAt.later F2.out hl3)
    have L3 := hide (L2.out.trans hl3)
    have CS := hide (same_any (w := w3) true G3.out F23.out HN.out HN.out (sameL_refl true ts) (by have := HLO.out; omega))
    clear hr3 hl3 CP
    go_wp2_with (fail)
    refine CS.out.mono ?_
    rintro e w4 ⟨rfl, hl4⟩
    have F14 := hide (F13.out.later hl4)
    have F24 := hide (RToksAt.later F23.out hl4)
    have L4 := hide (L3.out.trans hl4)
    clear hl4 CS
    go_wp2_with (fail)
    refine (CN _).out.mono ?_
    rintro e w5 ⟨rfl, hl5⟩
    have F15 := hide (F14.out.later hl5)
    have F25 := hide (RToksAt.later F24.out hl5)
    have L5 := hide (L4.out.trans hl5)
    clear hl5 CN
    go_wp2_with (fail)
    refine (CR _).out.mono ?_
    rintro e w6 ⟨rfl, hl6⟩
    have F16 := hide (F15.out.later hl6)
    have F26 := hide (RToksAt.later F25.out hl6)
    have L6 := hide (L5.out.trans hl6)
    have CT := hide (text_any (w := w6) F16.out HN.out (by have := HLO.out; omega) (by have := HLO.out; omega))
    have hnn : (nameF L == nameF L) = true := by simp
    clear hl6 CR
    go_wp2_with (fail)
    refine CT.out.mono ?_
    rintro e w7 ⟨rfl, hl7⟩
    have F27 := hide (RToksAt.later F26.out hl7)
    have L7 := hide (L6.out.trans hl7)
    have CT2 := hide (reftext_any (w := w7) F27.out HN.out (by have := HLO.out; omega) (by have := HLO.out; omega))
    clear hl7 CT
    go_wp2_with (fail)
    refine CT2.out.mono ?_
    rintro e w8 ⟨rfl, hl8⟩
    have L8 := hide (L7.out.trans hl8)
    have hee : ((⟨(textF ts).toArray⟩ : ByteArray).toList == (⟨(textF ts).toArray⟩ : ByteArray).toList) = true := by simp
    clear hl8 CT2
    go_wp2_with (fail)
    refine (CL _).out.mono ?_
    rintro e w9 ⟨rfl, hl9⟩
    go_wp2_with (fail)
    go_ret
    exact ⟨rfl, L8.out.trans hl9⟩
end
end Go.Proofs.Ytjnpclpjdlimaaa
/- The law with its world ahead of what is known of its arguments. -/
namespace Go.Proofs.Ytjnpclpjdlimaaa
open Go.RowKit
theorem law_tokensW (s : ByteArray) (W : World) (h0 : s.size ≤ 9223372036854775807) : Calls Try.prog 3 #[.string s] W fun e w' => e = .returned (.bool true) ∧ Later W w' :=
  law_tokens (w := W) s h0
end Go.Proofs.Ytjnpclpjdlimaaa
namespace Go.Proofs.Ytjnpclpjdlimaaa
open Go.ChangeShapes Go.WideShapes Go.ChangeAt Go.RowKit

theorem lexerTokens_lawKnobs : ownKnob Try.prog.godebug = none := by kernel_rfl
theorem lexerTokens_allLaid : laidOutB Try.prog = true := by kernel_rfl

set_option maxRecDepth 100000 in
set_option maxHeartbeats 1000000 in
theorem lexerTokens_lifted (os : Os) (started : os.Started) (H : Type) (enc : TypeId × Value → H) :
    ReturnsInHanded {} Try.checked os 3 .any (Rows.lexerTokensSpec.pre6 enc Try.prog Try.f3 Rows.lexerTokensRow.domain false) (Rows.lexerTokensSpec.post enc Try.prog Try.f3 false true false false) := by
  refine returnsInHanded_of_change_sized (C := Try.checked) lexerTokens_lawKnobs started (by kernel_rfl) Try.func3
    (ChangeSpec.witness6 (enc := enc) (C := Try.checked) false ⟨#[], #[.string ⟨#[]⟩], []⟩ 8 (by kernel_rfl) (by kernel_rfl) (by kernel_rfl) (by kernel_rfl)) ?_
  intro W base args ds gs before hval0 hW hcnd hsz _
  have hval : ∀ (j : Nat) t v, Try.f3.params[j]? = some t → args[j]? = some v → Value.okWide Try.prog W .any base t v := hval0
  have hW' := hW
  obtain ⟨p, q, hA0, hV, rfl, _, _⟩ := hW
  have hA : DataW.TrodAll enc Try.prog W 0 (fun _ => true) true Try.f3.params.toList args.toList ds p := hA0
  rw [Try.params3] at hA hval
  obtain ⟨v0, vs0, d0, ds0, p0, q0, hargs, rfl, rfl, h0, r0⟩ := trodAll_cons hA
  obtain ⟨rfl, rfl, rfl⟩ := trodAll_nil r0
  obtain rfl : args = #[v0] := by cases args; simp_all
  obtain ⟨rfl, rfl⟩ := trodVars_none hV
  have k0 := h0
  obtain ⟨a0, rfl, rfl, rfl, w0⟩ := Go.ChangeMaps.open_string Try.underlying9 (hval 0 9 v0 rfl rfl) h0
  clear hA0 hval0
  refine (law_tokensW a0 W (by unfold maxLen at w0; omega)).mono fun e W' ⟨he, bel⟩ => ?_
  subst he
  exact ⟨_, rfl, _, _, _, [], _, [], hW', trodAll_mk1 (shut_bool Try.underlying4 _), (trodAll_cons_mk (Go.ChangeMaps.shut_string Try.underlying9 w0) trodAll_mk0), rfl, bel.frame _, fun h => by cases h⟩

theorem lexerTokens_over : Rows.lexerTokensRow.holds Try.pinned (OpenSpec.ofChange Rows.lexerTokensSpec) :=
  OpenClaim.holds_of_wide 3 Try.f3 rfl rfl rfl rfl rfl rfl rfl ⟨rfl, rfl, rfl, rfl, rfl⟩ rfl rfl rfl rfl rfl (by kernel_rfl) Try.func3 (by kernel_rfl)
    (of_decide_eq_true (by kernel_rfl)) (by unfold Func.isWrapper; first | (rw [if_pos (by decide +kernel)]; kernel_rfl) | (rw [if_neg (by decide +kernel)]; exact ⟨rfl, rfl⟩))
    (fun os started H enc _ => lexerTokens_lifted os started H enc)

theorem lexerTokens_holds : Rows.LexerTokensSaid := lexerTokens_over
#print axioms lexerTokens_holds
end Go.Proofs.Ytjnpclpjdlimaaa
