/- The law droverlaw12.LexerPlaces is true at every text: its tokens rise, each stands where it says, between them there are blanks and remarks alone, and a name is one word. -/
import Derived.Test.YtjnpclpjdlimaaaBaseL1
import Derived.Test.YtjnpclpjdlimaaaBaseL2
import Derived.Test.YtjnpclpjdlimaaaRows
import Derived.ProofKit
import Derived.OpenShut
import Derived.ShutString
import Derived.ChangeOld
/- LexerTokens: tokens, errors, names and texts are the document's. -/
namespace Go.Proofs.Ytjnpclpjdlimaaa
open Go.RowKit

theorem mk_append (x y : List UInt8) : (⟨x.toArray⟩ ++ ⟨y.toArray⟩ : ByteArray) = ⟨(x ++ y).toArray⟩ := by
  apply ByteArray.ext
  simp
theorem mk_size (x : List UInt8) : (⟨x.toArray⟩ : ByteArray).size = x.length := by simp [ByteArray.size]

section
variable {w : World}
set_option maxHeartbeats 4000000 in
set_option maxRecDepth 100000 in
theorem reftext_any {F : Nat → Prop} {A : Option Addr} {n cap : Nat} {ts : List Tok} (h : RToksAt F w (.slice A n cap) ts) (hn : n = ts.length) (hlen : (textF ts).length ≤ 100000) (hn2 : n ≤ 100000) :
    Calls Try.prog 16 #[.slice A n cap] w fun e w' => e = .returned (.string ⟨(textF ts).toArray⟩) ∧ Later w w' := by
  have H := hide h
  have HN := hide hn
  have HLN := hide hlen
  have L0 := hide (Later.refl w)
  clear h hn hlen
  go_enter Try.func16, Try.ntmps16
  go_wp2_with (fail)
  go_loopw [3, 8] (fun v3 v wr => ∃ i : Nat, v = .int .i64 (i : Int) ∧ i ≤ n ∧ v3 = .string ⟨(textF (ts.take i)).toArray⟩ ∧ Later w wr) (fun _ v _ => n - (intOf v).toNat)
  case atStart => exact ⟨0, rfl, by omega, rfl, L0.out⟩
  case round =>
    obtain ⟨i, rfl, hi, rfl, hbel⟩ := hrel
    have HBL := hide hbel
    clear hbel
    by_cases hlt : i < n
    · obtain ⟨b, off, t, rfl, hnc, ht, _, hbl, hrow⟩ := (H.out.later HBL.out).at_ hlt
      obtain ⟨c0, c1, c2, c3⟩ := rrange4 hrow
      have htk := text_take ts i t ht
      have hle := text_len_take ts (i + 1)
      have hle2 := text_len_take ts i
      have hln := HLN.out
      obtain ⟨x, hx⟩ : ∃ x, textF (ts.take i) = x := ⟨_, rfl⟩
      rw [hx] at htk hle2 ⊢
      have L1 : Hid (∀ o : Obj, Later w (wr.alloc o)) := fun o => HBL.out.alloc (Below.size HBL.out) _
      clear hrow ht hx
      by_cases hi0 : 0 < i
      · have hi0' : (0 : Int) < (i : Int) := by omega
        rw [if_pos hi0] at htk
        have hl4 := congrArg List.length htk
        simp only [List.length_append, List.length_cons, List.length_nil] at hl4
        have HTK := hide htk
        have z1 : (⟨x.toArray⟩ : ByteArray).size + (⟨#[32]⟩ : ByteArray).size ≤ 9223372036854775807 := by
          rw [mk_size]
          show _ + 1 ≤ _
          omega
        have z2 : (⟨(x ++ [32]).toArray⟩ : ByteArray).size + (⟨t.s.toArray⟩ : ByteArray).size ≤ 9223372036854775807 := by
          rw [mk_size, mk_size]
          simp only [List.length_append, List.length_cons, List.length_nil]
          omega
        have m1 : (⟨x.toArray⟩ ++ ⟨#[32]⟩ : ByteArray) = ⟨(x ++ [32]).toArray⟩ := mk_append x [32]
        have m2 := mk_append (x ++ [32]) t.s
        clear htk hle hle2 hln hl4
        go_wp2_with (fail)
        go_roundw
        case rel => exact ⟨i + 1, by go_num, by omega, by rw [HTK.out]; simp, L1.out _⟩
        case measure => simp [intOf]; omega
      · have hi0' : ¬ (0 : Int) < (i : Int) := by omega
        rw [if_neg hi0] at htk
        have hl4 := congrArg List.length htk
        simp only [List.length_append] at hl4
        have HTK := hide htk
        have z2 : (⟨x.toArray⟩ : ByteArray).size + (⟨t.s.toArray⟩ : ByteArray).size ≤ 9223372036854775807 := by
          rw [mk_size, mk_size]
          omega
        have m2 := mk_append x t.s
        clear htk hle hle2 hln hl4
        go_wp2_with (fail)
        go_roundw
        case rel => exact ⟨i + 1, by go_num, by omega, by rw [HTK.out], L1.out _⟩
        case measure => simp [intOf]; omega
    · have hie : i = n := by omega
      subst hie
      have hft : textF (ts.take i) = textF ts := by rw [HN.out, List.take_length]
      rw [hft]
      go_wp2_with (fail)
      go_ret
      exact ⟨rfl, HBL.out⟩

set_option maxHeartbeats 4000000 in
set_option maxRecDepth 100000 in
theorem law_tokens (s : ByteArray) (hs : s.size ≤ 9223372036854775807) : Calls Try.prog 3 #[.string s] w fun e w' => e = .returned (.bool true) ∧ Later w w' := by
  have CL := fun w' : World => hide (lives_any (w := w'))
  by_cases h1 : 3000 < s.size
  · have hb1 : (3000 : Int) < (s.size : Int) := by omega
    go_enter Try.func3, Try.ntmps3
    go_wp2_with (fail)
    refine (CL _).out.mono ?_
    rintro e w1 ⟨rfl, hl1⟩
    go_wp2_with (fail)
    go_ret
    exact ⟨rfl, hl1⟩
  · have hb1 : ¬ (3000 : Int) < (s.size : Int) := by omega
    have C1 := hide (tokens_any (w := w) s hs)
    have C2 := fun w' : World => hide (reftokens_any (w := w') s (by omega))
    have CN := fun w' : World => hide (name_any (w := w') s)
    have CR := fun w' : World => hide (refName_any (w := w') s)
    obtain ⟨L, hL⟩ : ∃ L, L = s.data.toList := ⟨_, rfl⟩
    simp only [← hL] at C1 C2 CN CR
    clear hL hs h1
    go_enter Try.func3, Try.ntmps3
    go_wp2_with (fail)
    refine C1.out.mono ?_
    rintro e w1 ⟨v1, rfl, hr1, hl1⟩
    have L1 := hide hl1
    have R1 := hide hr1
    clear hr1 hl1 C1
    go_wp2_with (fail)
    refine (C2 _).out.mono ?_
    rintro e w2 ⟨v2, rfl, hr2, hl2⟩
    obtain ⟨ts, hts⟩ : ∃ ts, (answer L).1 = ts := ⟨_, rfl⟩
    have hlong : ts.length ≤ 400 ∧ (textF ts).length ≤ 800 := by
      rw [← hts]
      rcases answer_cases L with ⟨_, ha⟩ | ⟨_, p, _, ha⟩ | ⟨h4, _, ha⟩
      · rw [ha]; simp [textF]
      · rw [ha]; simp [textF]
      · rw [ha]
        have h2 := toks_long L 0
        have h3 := text_long (toks L 0).1
        simp only
        omega
    have r1 := R1.out
    rw [hts] at r1 hr2
    obtain ⟨k, hk⟩ : ∃ k, (answer L).2.1 = k := ⟨_, rfl⟩
    obtain ⟨f, hf⟩ : ∃ f, (answer L).2.2 = f := ⟨_, rfl⟩
    have hf12 : f ≤ 12 := by
      rw [← hf]
      rcases answer_cases L with ⟨_, ha⟩ | ⟨_, p, _, ha⟩ | ⟨_, _, ha⟩ <;> rw [ha] <;> simp
    rw [hk, hf]
    obtain ⟨A1, c1, rfl, _, _⟩ := r1.flat.shape
    obtain ⟨A2, c2, rfl, _, _⟩ := ToksAt.shape (F := fun i => w1.heap.size ≤ i) (w := w2) (v := v2) (ts := ts) hr2.flat
    have F1 := hide (r1.flat.later hl2)
    have F2 := hide hr2.flat
    have L2 := hide (L1.out.trans hl2)
    obtain ⟨n, hn⟩ : ∃ n, n = ts.length := ⟨_, rfl⟩
    rw [← hn] at F1 F2 ⊢
    have HN := hide hn
    have HLO := hide (show n ≤ 400 ∧ (textF ts).length ≤ 800 by omega)
    have CP := hide (plain_any F1.out hn (by omega))
    clear hr2 hl2 C2 r1 R1 hts hk hf hlong hn
    go_wp2_with (fail)
    refine CP.out.mono ?_
    rintro e w3 ⟨v3, rfl, hr3, hl3⟩
    have G3 := hide hr3.flat
    obtain ⟨A3, c3, rfl, _, _⟩ := ToksAt.shape (F := fun i => w2.heap.size ≤ i) (w := w3) (v := v3) (ts := ts) G3.out
    rw [← HN.out] at G3 ⊢
    have F13 := hide (F1.out.later hl3)
    have F23 := hide (RToksAt.later F2.out hl3)
    have L3 := hide (L2.out.trans hl3)
    have CS := hide (same_any (w := w3) true G3.out F23.out HN.out HN.out (sameL_refl true ts) (by have := HLO.out; omega))
    clear hr3 hl3 CP
    go_wp2_with (fail)
    refine CS.out.mono ?_
    rintro e w4 ⟨rfl, hl4⟩
    have F14 := hide (F13.out.later hl4)
    have F24 := hide (RToksAt.later F23.out hl4)
    have L4 := hide (L3.out.trans hl4)
    clear hl4 CS
    go_wp2_with (fail)
    refine (CN _).out.mono ?_
    rintro e w5 ⟨rfl, hl5⟩
    have F15 := hide (F14.out.later hl5)
    have F25 := hide (RToksAt.later F24.out hl5)
    have L5 := hide (L4.out.trans hl5)
    clear hl5 CN
    go_wp2_with (fail)
    refine (CR _).out.mono ?_
    rintro e w6 ⟨rfl, hl6⟩
    have F16 := hide (F15.out.later hl6)
    have F26 := hide (RToksAt.later F25.out hl6)
    have L6 := hide (L5.out.trans hl6)
    have CT := hide (text_any (w := w6) F16.out HN.out (by have := HLO.out; omega) (by have := HLO.out; omega))
    have hnn : (nameF L == nameF L) = true := by simp
    clear hl6 CR
    go_wp2_with (fail)
    refine CT.out.mono ?_
    rintro e w7 ⟨rfl, hl7⟩
    have F27 := hide (RToksAt.later F26.out hl7)
    have L7 := hide (L6.out.trans hl7)
    have CT2 := hide (reftext_any (w := w7) F27.out HN.out (by have := HLO.out; omega) (by have := HLO.out; omega))
    clear hl7 CT
    go_wp2_with (fail)
    refine CT2.out.mono ?_
    rintro e w8 ⟨rfl, hl8⟩
    have L8 := hide (L7.out.trans hl8)
    have hee : ((⟨(textF ts).toArray⟩ : ByteArray).toList == (⟨(textF ts).toArray⟩ : ByteArray).toList) = true := by simp
    clear hl8 CT2
    go_wp2_with (fail)
    refine (CL _).out.mono ?_
    rintro e w9 ⟨rfl, hl9⟩
    go_wp2_with (fail)
    go_ret
    exact ⟨rfl, L8.out.trans hl9⟩
end
end Go.Proofs.Ytjnpclpjdlimaaa
/- LexerPlaces: tokens rise, each stands where it says; a name is one word. -/
namespace Go.Proofs.Ytjnpclpjdlimaaa
open Go.RowKit

/-- What LexerPlaces asks of a token. -/
theorem kind_small {t : Tok} (h : t.wf) : ∃ b m, t.s = b :: m ∧ (t.k == 1) = smallB b.toNat := by
  obtain ⟨b, m, hs, hk, h1, h3, _⟩ := h
  refine ⟨b, m, hs, ?_⟩
  rw [← hk]
  have : ∀ c : Fin 256, 1 ≤ kindB c.1 → kindB c.1 ≤ 3 → (kindB c.1 == 1) = smallB c.1 := by decide +kernel
  exact this ⟨b.toNat, b.toNat_lt⟩ (by rw [hk]; exact h1) (by rw [hk]; exact h3)

section
variable {w : World}
set_option maxHeartbeats 4000000 in
set_option maxRecDepth 100000 in
theorem law_places (s : ByteArray) (hs : s.size ≤ 9223372036854775807) : Calls Try.prog 5 #[.string s] w fun e w' => e = .returned (.bool true) ∧ Later w w' := by
  have CL := fun w' : World => hide (lives_any (w := w'))
  have C1 := hide (tokens_any (w := w) s hs)
  have CN := fun w' : World => hide (name_any (w := w') s)
  obtain ⟨L, hL⟩ : ∃ L, L = s.data.toList := ⟨_, rfl⟩
  have hlen : L.length = s.size := by rw [hL, Array.length_toList]; rfl
  have hsL : s = ⟨L.toArray⟩ := by rw [hL]
  simp only [← hL] at C1 CN
  clear hL hs
  subst hsL
  have HLEN := hide hlen
  clear hlen
  go_enter Try.func5, Try.ntmps5
  go_wp2_with (fail)
  refine C1.out.mono ?_
  rintro e w1 ⟨v1, rfl, hr1, hl1⟩
  have L1 := hide hl1
  clear hl1 C1
  rcases answer_cases L with ⟨_, ha⟩ | ⟨_, p, _, ha⟩ | ⟨h400, hnone, ha⟩
  · simp only [ha]
    clear hr1 ha
    go_wp2_with (fail)
    refine (CL _).out.mono ?_
    rintro e w2 ⟨rfl, hl2⟩
    go_wp2_with (fail)
    go_ret
    exact ⟨rfl, L1.out.trans hl2⟩
  · simp only [ha]
    clear hr1 ha
    go_wp2_with (fail)
    refine (CL _).out.mono ?_
    rintro e w2 ⟨rfl, hl2⟩
    go_wp2_with (fail)
    go_ret
    exact ⟨rfl, L1.out.trans hl2⟩
  · simp only [ha] at hr1 ⊢
    have hwf := toks_wf L 0
    have hpl := toks_placed L L.length L 0 (Nat.le_refl _) (by simp) (by omega)
    have hlong := (toks_long L 0).1
    have hnm : nameF L = true → (toks L 0).1 = [⟨1, L, 0, 0⟩] := fun h => by rw [name_one L h]
    obtain ⟨ts, hts⟩ : ∃ ts, (toks L 0).1 = ts := ⟨_, rfl⟩
    rw [hts] at hr1 hwf hpl hlong hnm
    have F1 := hide hr1.flat
    obtain ⟨A, c, rfl, hc, _⟩ := hr1.flat.shape
    obtain ⟨n, hn⟩ : ∃ n, n = ts.length := ⟨_, rfl⟩
    rw [← hn] at F1 hc ⊢
    have HWF := hide hwf
    have HPL := hide hpl
    have HNM := hide hnm
    have HN := hide hn
    have HLO := hide (show n ≤ 400 by omega)
    clear hr1 ha hnone hts hwf hpl hnm hlong hc hn
    go_wp2_with (fail)
    go_loopw [6, 20] (fun v6 v20 wr => ∃ i pos : Nat, v20 = .int .i64 (i : Int) ∧ v6 = .int .i64 (pos : Int) ∧ i ≤ n ∧ pos ≤ L.length ∧ Placed L pos (ts.drop i) ∧ Later w1 wr) (fun _ v20 _ => n - (intOf v20).toNat)
    case atStart => exact ⟨0, 0, rfl, rfl, by omega, by omega, by simpa using HPL.out, Later.refl _⟩
    case round =>
      obtain ⟨i, pos, rfl, rfl, hi, hpos, hplc, hlat⟩ := hrel
      have HP := hide hplc
      have HLA := hide hlat
      clear hplc hlat
      by_cases hlt : i < n
      · obtain ⟨b0, off, t, rfl, hnc, hti, _, hbl, hrw⟩ := (F1.out.later HLA.out).at_ hlt
        obtain ⟨c0, c1, c2, c3⟩ := range4 hrw
        have hdr : ts.drop i = t :: ts.drop (i + 1) := by
          have hil : i < ts.length := by have := HN.out; omega
          rw [List.drop_eq_getElem_cons hil]
          rw [List.getElem?_eq_getElem hil] at hti
          injection hti with hti
          rw [hti]
        have hpp := HP.out
        rw [hdr] at hpp
        obtain ⟨hp1, hp2, hp3, hp4⟩ := hpp
        obtain ⟨b, m, hbm, hks⟩ := kind_small (HWF.out t (List.mem_of_getElem? hti))
        have HP4 := hide hp4
        obtain ⟨tk, tks⟩ : ∃ tk, t.k = tk := ⟨_, rfl⟩
        obtain ⟨ta, tas⟩ : ∃ ta, t.at_ = ta := ⟨_, rfl⟩
        obtain ⟨tn, tns⟩ : ∃ tn, t.n = tn := ⟨_, rfl⟩
        obtain ⟨tz, tzs⟩ : ∃ tz, t.s.length = tz := ⟨_, rfl⟩
        rw [tks] at c0 hks
        rw [tns] at c2
        rw [tas] at c3 hp1 hp2 hp3 HP4
        rw [tzs] at hp2 hp3 HP4
        have hz0 : 0 < tz := by rw [← tzs, hbm]; simp
        obtain ⟨S, hS⟩ : ∃ S, (⟨t.s.toArray⟩ : ByteArray) = S := ⟨_, rfl⟩
        have hsz : S.size = tz := by rw [← hS, mk_size]; exact tzs
        have hex : (⟨L.toArray⟩ : ByteArray).extract ta (ta + tz) = S := by
          rw [← hS, extract_list, show ta + tz - ta = tz from by omega, show (⟨L.toArray⟩ : ByteArray).data.toList = L from by simp, hp3]
        have hne : (S.toList == (⟨#[]⟩ : ByteArray).toList) = false := by
          rw [← hS, beq_eq_false_iff_ne, hbm]
          simp
        have hnl : ¬ S.toList = [] := by rw [← hS, hbm]; simp
        have hse : (S.toList == S.toList) = true := by simp
        have CS := hide (refSmall_any (w := wr) b.toNat)
        have WA : ∃ W g, W = wr.alloc (.cells #[.int .i64 (tk : Int), .string S, .int .i64 (tn : Int), .int .i64 (ta : Int)] 36 (0, 0)) ∧ g = wr.heap.size := ⟨_, _, rfl, rfl⟩
        obtain ⟨W, g, hW, hg⟩ := WA
        have X : Hid (W.heap[g]? = some (.cells #[.int .i64 (tk : Int), .string S, .int .i64 (tn : Int), .int .i64 (ta : Int)] 36 (0, 0))) := by rw [hW, hg]; exact heap_alloc_new _ _
        have LW : Hid (Later w1 W) := by rw [hW]; exact HLA.out.alloc (Below.size HLA.out) _
        have HW := hide hW.symm
        have HG := hide hg.symm
        rw [hS] at c1
        have CS := hide (refSmall_any (w := W.drew) b.toNat)
        have HEX := hide hex
        have HSZ := hide hsz
        have HS0 := hide (show 0 < S.size by omega)
        have HBV : Hid (∀ h : 0 < S.size, (S[0]'h).toNat = b.toNat) := fun h => by
          obtain ⟨c', hc', hx', _⟩ := byte_at S 0 h
          have : c' = b := by
            rw [← hS, hbm] at hc'
            simpa using hc'.symm
          rw [hx', this]
        have hb1 : ¬ (ta : Int) < (pos : Int) := by omega
        have hb2 : ¬ ((L.length : Int) - (ta : Int)) < (tz : Int) := by omega
        have HKS := hide hks
        obtain ⟨sm, hsm⟩ : ∃ sm, smallB b.toNat = sm := ⟨_, rfl⟩
        rw [hsm] at CS HKS
        have HB3 := hide (show ta + tz ≤ L.length ∧ pos ≤ ta ∧ 0 < tz from ⟨by omega, by omega, hz0⟩)
        clear hW hg hex hsz hks hbm tks tas tns tzs hS hp1 hp2 hp3 hp4 hdr hti hrw hz0 hsm
        go_wp2_with (fail)
        have hw := HW.out
        have hg' := HG.out
        simp only [hw, hg']
        clear hw hg' c0 c1 c2 c3
        refine wp_region_L (by kernel_rfl) ?_
        refine wpAnyL_take (i := 0) (d := some 24) (v := ?vaa0) rfl rfl (by kernel_rfl) (by kernel_rfl) (by kernel_rfl) (fun _ _ _ h => h) (by rfl) ?yaa0 ?_
        case yaa0 => (intro w' hw'; go_simp; try (with_reducible rfl))
        simp only [Act.put]; try simp only [List.setIfInBounds_toArray]; try simp only [List.set_cons_zero, List.set_cons_succ]
        refine wpAnyL_take (i := 1) (d := some 25) (v := ?vaa1) rfl rfl (by kernel_rfl) (by kernel_rfl) (by kernel_rfl) (fun _ _ _ h => h) (by rfl) ?yaa1 ?_
        case yaa1 => (intro w' hw'; obtain ⟨d0, d1, d2, d3⟩ := cells4 ((Below.block ((Later.drew _).trans hw') g (lt_of_block X.out)).trans X.out); go_simp; try (with_reducible rfl))
        simp only [Act.put]; try simp only [List.setIfInBounds_toArray]; try simp only [List.set_cons_zero, List.set_cons_succ]
        refine wpAnyL_take (i := 2) (d := some 26) (v := ?vaa2) rfl rfl (by kernel_rfl) (by kernel_rfl) (by kernel_rfl) (fun _ _ _ h => h) (by rfl) ?yaa2 ?_
        case yaa2 => (intro w' hw'; go_simp; try (with_reducible rfl))
        simp only [Act.put]; try simp only [List.setIfInBounds_toArray]; try simp only [List.set_cons_zero, List.set_cons_succ]
        refine wpAnyL_take (i := 3) (d := some 27) (v := .bool false) rfl rfl (by kernel_rfl) (by kernel_rfl) (by kernel_rfl) (fun _ _ _ h => h) (by rfl) ?yaa3 ?_
        case yaa3 => (intro w' hw'; go_simp; try omega)
        simp only [Act.put]; try simp only [List.setIfInBounds_toArray]; try simp only [List.set_cons_zero, List.set_cons_succ]
        refine wpAnyL_take (i := 4) (d := some 28) (v := ?vaa4) rfl rfl (by kernel_rfl) (by kernel_rfl) (by kernel_rfl) (fun _ _ _ h => h) (by rfl) ?yaa4 ?_
        case yaa4 => (intro w' hw'; go_simp; try (with_reducible rfl))
        simp only [Act.put]; try simp only [List.setIfInBounds_toArray]; try simp only [List.set_cons_zero, List.set_cons_succ]
        refine wpAnyL_take (i := 5) (d := some 29) (v := ?vaa5) rfl rfl (by kernel_rfl) (by kernel_rfl) (by kernel_rfl) (fun _ _ _ h => h) (by rfl) ?yaa5 ?_
        case yaa5 => (intro w' hw'; go_simp; try (with_reducible rfl))
        simp only [Act.put]; try simp only [List.setIfInBounds_toArray]; try simp only [List.set_cons_zero, List.set_cons_succ]
        refine wpAnyL_take (i := 6) (d := some 30) (v := ?vaa6) rfl rfl (by kernel_rfl) (by kernel_rfl) (by kernel_rfl) (fun _ _ _ h => h) (by rfl) ?yaa6 ?_
        case yaa6 => (intro w' hw'; obtain ⟨d0, d1, d2, d3⟩ := cells4 ((Below.block ((Later.drew _).trans hw') g (lt_of_block X.out)).trans X.out); go_simp; try (with_reducible rfl))
        simp only [Act.put]; try simp only [List.setIfInBounds_toArray]; try simp only [List.set_cons_zero, List.set_cons_succ]
        refine wpAnyL_take (i := 7) (d := some 31) (v := .bool false) rfl rfl (by kernel_rfl) (by kernel_rfl) (by kernel_rfl) (fun _ _ _ h => h) (by rfl) ?yaa7 ?_
        case yaa7 => (intro w' hw'; go_simp; try exact hnl)
        simp only [Act.put]; try simp only [List.setIfInBounds_toArray]; try simp only [List.set_cons_zero, List.set_cons_succ]
        refine wpAnyL_take (i := 8) (d := some 32) (v := ?vaa8) rfl rfl (by kernel_rfl) (by kernel_rfl) (by kernel_rfl) (fun _ _ _ h => h) (by rfl) ?yaa8 ?_
        case yaa8 => (intro w' hw'; go_simp; try (with_reducible rfl))
        simp only [Act.put]; try simp only [List.setIfInBounds_toArray]; try simp only [List.set_cons_zero, List.set_cons_succ]
        refine wpAnyL_take (i := 9) (d := some 33) (v := ?vaa9) rfl rfl (by kernel_rfl) (by kernel_rfl) (by kernel_rfl) (fun _ _ _ h => h) (by rfl) ?yaa9 ?_
        case yaa9 => (intro w' hw'; go_simp; try (with_reducible rfl))
        simp only [Act.put]; try simp only [List.setIfInBounds_toArray]; try simp only [List.set_cons_zero, List.set_cons_succ]
        refine wpAnyL_take (i := 10) (d := some 34) (v := ?vaa10) rfl rfl (by kernel_rfl) (by kernel_rfl) (by kernel_rfl) (fun _ _ _ h => h) (by rfl) ?yaa10 ?_
        case yaa10 => (intro w' hw'; go_simp; try (with_reducible rfl))
        simp only [Act.put]; try simp only [List.setIfInBounds_toArray]; try simp only [List.set_cons_zero, List.set_cons_succ]
        refine wpAnyL_take (i := 11) (d := some 35) (v := ?vaa11) rfl rfl (by kernel_rfl) (by kernel_rfl) (by kernel_rfl) (fun _ _ _ h => h) (by rfl) ?yaa11 ?_
        case yaa11 => (intro w' hw'; obtain ⟨d0, d1, d2, d3⟩ := cells4 ((Below.block ((Later.drew _).trans hw') g (lt_of_block X.out)).trans X.out); go_simp; try (with_reducible rfl))
        simp only [Act.put]; try simp only [List.setIfInBounds_toArray]; try simp only [List.set_cons_zero, List.set_cons_succ]
        refine wpAnyL_take (i := 12) (d := some 36) (v := .int .i64 (tz : Int)) rfl rfl (by kernel_rfl) (by kernel_rfl) (by kernel_rfl) (fun _ _ _ h => h) (by rfl) ?yaa12 ?_
        case yaa12 => (intro w' hw'; have hsz := HSZ.out; go_simp; try (rw [hsz]))
        simp only [Act.put]; try simp only [List.setIfInBounds_toArray]; try simp only [List.set_cons_zero, List.set_cons_succ]
        refine wpAnyL_take (i := 13) (d := some 37) (v := ?vaa13) rfl rfl (by kernel_rfl) (by kernel_rfl) (by kernel_rfl) (fun _ _ _ h => h) (by rfl) ?yaa13 ?_
        case yaa13 => (intro w' hw'; go_simp; try (with_reducible rfl))
        simp only [Act.put]; try simp only [List.setIfInBounds_toArray]; try simp only [List.set_cons_zero, List.set_cons_succ]
        refine wpAnyL_take (i := 14) (d := some 38) (v := .int .i64 (L.length : Int)) rfl rfl (by kernel_rfl) (by kernel_rfl) (by kernel_rfl) (fun _ _ _ h => h) (by rfl) ?yaa14 ?_
        case yaa14 => (intro w' hw'; go_simp; try rfl)
        simp only [Act.put]; try simp only [List.setIfInBounds_toArray]; try simp only [List.set_cons_zero, List.set_cons_succ]
        refine wpAnyL_take (i := 15) (d := some 39) (v := ?vaa15) rfl rfl (by kernel_rfl) (by kernel_rfl) (by kernel_rfl) (fun _ _ _ h => h) (by rfl) ?yaa15 ?_
        case yaa15 => (intro w' hw'; go_simp; try (with_reducible rfl))
        simp only [Act.put]; try simp only [List.setIfInBounds_toArray]; try simp only [List.set_cons_zero, List.set_cons_succ]
        refine wpAnyL_take (i := 16) (d := some 40) (v := ?vaa16) rfl rfl (by kernel_rfl) (by kernel_rfl) (by kernel_rfl) (fun _ _ _ h => h) (by rfl) ?yaa16 ?_
        case yaa16 => (intro w' hw'; obtain ⟨d0, d1, d2, d3⟩ := cells4 ((Below.block ((Later.drew _).trans hw') g (lt_of_block X.out)).trans X.out); go_simp; try (with_reducible rfl))
        simp only [Act.put]; try simp only [List.setIfInBounds_toArray]; try simp only [List.set_cons_zero, List.set_cons_succ]
        refine wpAnyL_take (i := 17) (d := some 41) (v := .int .i64 ((L.length : Int) - (ta : Int))) rfl rfl (by kernel_rfl) (by kernel_rfl) (by kernel_rfl) (fun _ _ _ h => h) (by rfl) ?yaa17 ?_
        case yaa17 => (intro w' hw'; go_simp; rw [wrap_small _ (by have := HB3.out; omega) (by omega)])
        simp only [Act.put]; try simp only [List.setIfInBounds_toArray]; try simp only [List.set_cons_zero, List.set_cons_succ]
        refine wpAnyL_take (i := 18) (d := some 42) (v := .bool false) rfl rfl (by kernel_rfl) (by kernel_rfl) (by kernel_rfl) (fun _ _ _ h => h) (by rfl) ?yaa18 ?_
        case yaa18 => (intro w' hw'; go_simp; try omega)
        simp only [Act.put]; try simp only [List.setIfInBounds_toArray]; try simp only [List.set_cons_zero, List.set_cons_succ]
        refine wpAnyL_take (i := 19) (d := some 43) (v := ?vaa19) rfl rfl (by kernel_rfl) (by kernel_rfl) (by kernel_rfl) (fun _ _ _ h => h) (by rfl) ?yaa19 ?_
        case yaa19 => (intro w' hw'; go_simp; try (with_reducible rfl))
        simp only [Act.put]; try simp only [List.setIfInBounds_toArray]; try simp only [List.set_cons_zero, List.set_cons_succ]
        refine wpAnyL_take (i := 20) (d := some 44) (v := ?vaa20) rfl rfl (by kernel_rfl) (by kernel_rfl) (by kernel_rfl) (fun _ _ _ h => h) (by rfl) ?yaa20 ?_
        case yaa20 => (intro w' hw'; go_simp; try (with_reducible rfl))
        simp only [Act.put]; try simp only [List.setIfInBounds_toArray]; try simp only [List.set_cons_zero, List.set_cons_succ]
        refine wpAnyL_take (i := 21) (d := some 45) (v := ?vaa21) rfl rfl (by kernel_rfl) (by kernel_rfl) (by kernel_rfl) (fun _ _ _ h => h) (by rfl) ?yaa21 ?_
        case yaa21 => (intro w' hw'; go_simp; try (with_reducible rfl))
        simp only [Act.put]; try simp only [List.setIfInBounds_toArray]; try simp only [List.set_cons_zero, List.set_cons_succ]
        refine wpAnyL_take (i := 22) (d := some 46) (v := ?vaa22) rfl rfl (by kernel_rfl) (by kernel_rfl) (by kernel_rfl) (fun _ _ _ h => h) (by rfl) ?yaa22 ?_
        case yaa22 => (intro w' hw'; go_simp; try (with_reducible rfl))
        simp only [Act.put]; try simp only [List.setIfInBounds_toArray]; try simp only [List.set_cons_zero, List.set_cons_succ]
        refine wpAnyL_take (i := 23) (d := some 47) (v := ?vaa23) rfl rfl (by kernel_rfl) (by kernel_rfl) (by kernel_rfl) (fun _ _ _ h => h) (by rfl) ?yaa23 ?_
        case yaa23 => (intro w' hw'; obtain ⟨d0, d1, d2, d3⟩ := cells4 ((Below.block ((Later.drew _).trans hw') g (lt_of_block X.out)).trans X.out); go_simp; try (with_reducible rfl))
        simp only [Act.put]; try simp only [List.setIfInBounds_toArray]; try simp only [List.set_cons_zero, List.set_cons_succ]
        refine wpAnyL_take (i := 24) (d := some 48) (v := ?vaa24) rfl rfl (by kernel_rfl) (by kernel_rfl) (by kernel_rfl) (fun _ _ _ h => h) (by rfl) ?yaa24 ?_
        case yaa24 => (intro w' hw'; go_simp; try (with_reducible rfl))
        simp only [Act.put]; try simp only [List.setIfInBounds_toArray]; try simp only [List.set_cons_zero, List.set_cons_succ]
        refine wpAnyL_take (i := 25) (d := some 49) (v := ?vaa25) rfl rfl (by kernel_rfl) (by kernel_rfl) (by kernel_rfl) (fun _ _ _ h => h) (by rfl) ?yaa25 ?_
        case yaa25 => (intro w' hw'; obtain ⟨d0, d1, d2, d3⟩ := cells4 ((Below.block ((Later.drew _).trans hw') g (lt_of_block X.out)).trans X.out); go_simp; try (with_reducible rfl))
        simp only [Act.put]; try simp only [List.setIfInBounds_toArray]; try simp only [List.set_cons_zero, List.set_cons_succ]
        refine wpAnyL_take (i := 26) (d := some 50) (v := ?vaa26) rfl rfl (by kernel_rfl) (by kernel_rfl) (by kernel_rfl) (fun _ _ _ h => h) (by rfl) ?yaa26 ?_
        case yaa26 => (intro w' hw'; go_simp; try (with_reducible rfl))
        simp only [Act.put]; try simp only [List.setIfInBounds_toArray]; try simp only [List.set_cons_zero, List.set_cons_succ]
        refine wpAnyL_take (i := 27) (d := some 51) (v := ?vaa27) rfl rfl (by kernel_rfl) (by kernel_rfl) (by kernel_rfl) (fun _ _ _ h => h) (by rfl) ?yaa27 ?_
        case yaa27 => (intro w' hw'; obtain ⟨d0, d1, d2, d3⟩ := cells4 ((Below.block ((Later.drew _).trans hw') g (lt_of_block X.out)).trans X.out); go_simp; try (with_reducible rfl))
        simp only [Act.put]; try simp only [List.setIfInBounds_toArray]; try simp only [List.set_cons_zero, List.set_cons_succ]
        refine wpAnyL_take (i := 28) (d := some 52) (v := .int .i64 (tz : Int)) rfl rfl (by kernel_rfl) (by kernel_rfl) (by kernel_rfl) (fun _ _ _ h => h) (by rfl) ?yaa28 ?_
        case yaa28 => (intro w' hw'; have hsz := HSZ.out; go_simp; try (rw [hsz]))
        simp only [Act.put]; try simp only [List.setIfInBounds_toArray]; try simp only [List.set_cons_zero, List.set_cons_succ]
        refine wpAnyL_take (i := 29) (d := some 53) (v := .int .i64 ((ta + tz : Nat) : Int)) rfl rfl (by kernel_rfl) (by kernel_rfl) (by kernel_rfl) (fun _ _ _ h => h) (by rfl) ?yaa29 ?_
        case yaa29 => (intro w' hw'; go_simp; rw [wrap_small _ (by omega) (by have := HB3.out; omega)])
        simp only [Act.put]; try simp only [List.setIfInBounds_toArray]; try simp only [List.set_cons_zero, List.set_cons_succ]
        refine wpAnyL_take (i := 30) (d := some 54) (v := .string S) rfl rfl (by kernel_rfl) (by kernel_rfl) (by kernel_rfl) (fun _ _ _ h => h) (by rfl) ?yaa30 ?_
        case yaa30 => (intro w' hw'; go_simp; rw [if_pos ⟨by have := HB3.out; omega, by have := HB3.out; omega⟩, if_pos (by omega), show ((ta : Int) + (tz : Int)).toNat = ta + tz from by omega, HEX.out])
        simp only [Act.put]; try simp only [List.setIfInBounds_toArray]; try simp only [List.set_cons_zero, List.set_cons_succ]
        refine wpAnyL_take (i := 31) (d := some 55) (v := ?vaa31) rfl rfl (by kernel_rfl) (by kernel_rfl) (by kernel_rfl) (fun _ _ _ h => h) (by rfl) ?yaa31 ?_
        case yaa31 => (intro w' hw'; go_simp; try (with_reducible rfl))
        simp only [Act.put]; try simp only [List.setIfInBounds_toArray]; try simp only [List.set_cons_zero, List.set_cons_succ]
        refine wpAnyL_take (i := 32) (d := some 56) (v := ?vaa32) rfl rfl (by kernel_rfl) (by kernel_rfl) (by kernel_rfl) (fun _ _ _ h => h) (by rfl) ?yaa32 ?_
        case yaa32 => (intro w' hw'; obtain ⟨d0, d1, d2, d3⟩ := cells4 ((Below.block ((Later.drew _).trans hw') g (lt_of_block X.out)).trans X.out); go_simp; try (with_reducible rfl))
        simp only [Act.put]; try simp only [List.setIfInBounds_toArray]; try simp only [List.set_cons_zero, List.set_cons_succ]
        refine wpAnyL_take (i := 33) (d := some 57) (v := .bool false) rfl rfl (by kernel_rfl) (by kernel_rfl) (by kernel_rfl) (fun _ _ _ h => h) (by rfl) ?yaa33 ?_
        case yaa33 => (intro w' hw'; go_simp; try (simp [hse]))
        simp only [Act.put]; try simp only [List.setIfInBounds_toArray]; try simp only [List.set_cons_zero, List.set_cons_succ]
        refine wpAnyL_take (i := 34) (d := some 58) (v := ?vaa34) rfl rfl (by kernel_rfl) (by kernel_rfl) (by kernel_rfl) (fun _ _ _ h => h) (by rfl) ?yaa34 ?_
        case yaa34 => (intro w' hw'; go_simp; try (with_reducible rfl))
        simp only [Act.put]; try simp only [List.setIfInBounds_toArray]; try simp only [List.set_cons_zero, List.set_cons_succ]
        refine wpAnyL_take (i := 35) (d := some 59) (v := ?vaa35) rfl rfl (by kernel_rfl) (by kernel_rfl) (by kernel_rfl) (fun _ _ _ h => h) (by rfl) ?yaa35 ?_
        case yaa35 => (intro w' hw'; go_simp; try (with_reducible rfl))
        simp only [Act.put]; try simp only [List.setIfInBounds_toArray]; try simp only [List.set_cons_zero, List.set_cons_succ]
        refine wpAnyL_take (i := 36) (d := some 60) (v := ?vaa36) rfl rfl (by kernel_rfl) (by kernel_rfl) (by kernel_rfl) (fun _ _ _ h => h) (by rfl) ?yaa36 ?_
        case yaa36 => (intro w' hw'; go_simp; try (with_reducible rfl))
        simp only [Act.put]; try simp only [List.setIfInBounds_toArray]; try simp only [List.set_cons_zero, List.set_cons_succ]
        refine wpAnyL_take (i := 37) (d := some 61) (v := ?vaa37) rfl rfl (by kernel_rfl) (by kernel_rfl) (by kernel_rfl) (fun _ _ _ h => h) (by rfl) ?yaa37 ?_
        case yaa37 => (intro w' hw'; obtain ⟨d0, d1, d2, d3⟩ := cells4 ((Below.block ((Later.drew _).trans hw') g (lt_of_block X.out)).trans X.out); go_simp; try (with_reducible rfl))
        simp only [Act.put]; try simp only [List.setIfInBounds_toArray]; try simp only [List.set_cons_zero, List.set_cons_succ]
        refine wpAnyL_take (i := 38) (d := some 62) (v := .bool sm) rfl rfl (by kernel_rfl) (by kernel_rfl) (by kernel_rfl) (fun _ _ _ h => h) (by rfl) ?yaa38 ?_
        case yaa38 => (intro w' hw'; go_simp; rw [← HKS.out]; exact ibeq tk 1)
        simp only [Act.put]; try simp only [List.setIfInBounds_toArray]; try simp only [List.set_cons_zero, List.set_cons_succ]
        refine wpAnyL_take (i := 39) (d := some 63) (v := ?vaa39) rfl rfl (by kernel_rfl) (by kernel_rfl) (by kernel_rfl) (fun _ _ _ h => h) (by rfl) ?yaa39 ?_
        case yaa39 => (intro w' hw'; go_simp; try (with_reducible rfl))
        simp only [Act.put]; try simp only [List.setIfInBounds_toArray]; try simp only [List.set_cons_zero, List.set_cons_succ]
        refine wpAnyL_take (i := 40) (d := some 64) (v := ?vaa40) rfl rfl (by kernel_rfl) (by kernel_rfl) (by kernel_rfl) (fun _ _ _ h => h) (by rfl) ?yaa40 ?_
        case yaa40 => (intro w' hw'; obtain ⟨d0, d1, d2, d3⟩ := cells4 ((Below.block ((Later.drew _).trans hw') g (lt_of_block X.out)).trans X.out); go_simp; try (with_reducible rfl))
        simp only [Act.put]; try simp only [List.setIfInBounds_toArray]; try simp only [List.set_cons_zero, List.set_cons_succ]
        refine wpAnyL_take (i := 41) (d := some 65) (v := .int .u8 (b.toNat : Int)) rfl rfl (by kernel_rfl) (by kernel_rfl) (by kernel_rfl) (fun _ _ _ h => h) (by rfl) ?yaa41 ?_
        case yaa41 => (intro w' hw'; go_simp; rw [dif_pos HS0.out]; simp only [Result.andThen_ok, HBV.out])
        simp only [Act.put]; try simp only [List.setIfInBounds_toArray]; try simp only [List.set_cons_zero, List.set_cons_succ]
        refine wpAnyL_only (i := 42) rfl (by kernel_rfl) (by rfl) fun K hK => ?_
        go_simp
        refine CS.out.mono ?_
        rintro e w3 ⟨rfl, hq3⟩
        obtain rfl := hq3.symm
        refine hK.out _ _ (Below.refl _ _) ?_
        clear hK K
        try (simp only [Act.put]; try simp only [List.setIfInBounds_toArray]; try simp only [List.set_cons_zero, List.set_cons_succ])
        refine wpAnyL_take (i := 43) (d := some 67) (v := .bool false) rfl rfl (by kernel_rfl) (by kernel_rfl) (by kernel_rfl) (fun _ _ _ h => h) (by rfl) ?yaa43 ?_
        case yaa43 => (intro w' hw'; go_simp; try rfl)
        simp only [Act.put]; try simp only [List.setIfInBounds_toArray]; try simp only [List.set_cons_zero, List.set_cons_succ]
        refine wpAnyL_take (i := 44) (d := some 68) (v := ?vaa44) rfl rfl (by kernel_rfl) (by kernel_rfl) (by kernel_rfl) (fun _ _ _ h => h) (by rfl) ?yaa44 ?_
        case yaa44 => (intro w' hw'; go_simp; try (with_reducible rfl))
        simp only [Act.put]; try simp only [List.setIfInBounds_toArray]; try simp only [List.set_cons_zero, List.set_cons_succ]
        refine wpAnyL_done (by kernel_rfl) ?_ _
        obtain ⟨d0, d1, d2, d3⟩ := cells4 (show W.drew.heap[g]? = _ from X.out)
        have hwr : IntKind.i64.wrap ((ta : Int) + (tz : Int)) = ((ta + tz : Nat) : Int) := by
          rw [wrap_small _ (by omega) (by have := HB3.out; omega)]
          omega
        have hsz := HSZ.out
        go_wp2_with (fail)
        have hw64 : wrap64 ((i : Int) + 1) = ((i + 1 : Nat) : Int) := by
          have h := wrap_small ((i : Int) + 1) (by omega) (by have := HLO.out; omega)
          rw [IntWalk.i64_left] at h
          rw [h]
          omega
        rw [hw64]
        refine ⟨⟨u2, .int .i64 ((ta + tz : Nat) : Int), .pointer (some ⟨g, 0, none⟩), .int .i64 ((i + 1 : Nat) : Int), ⟨i + 1, rfl, ta + tz, rfl, ?_, ?_, ?_, ?_⟩, rfl, ?_, rfl, rfl⟩, ?_⟩
        · exact hlt
        · exact HB3.out.1
        · exact HP4.out
        · exact LW.out.trans (Later.drew _)
        · rw [Int.natCast_add]
        · first
          | exact Nat.sub_lt_sub_left hlt (Nat.lt_succ_self i)
          | (simp only [intOf, Int.toNat_natCast]; exact Nat.sub_lt_sub_left hlt (Nat.lt_succ_self i))
      · have hie : i = n := by omega
        subst hie
        have F2 := hide (F1.out.later HLA.out)
        have hil : ¬ ((i : Int) < (i : Int)) := by omega
        go_wp2_with (fail)
        refine (CN _).out.mono ?_
        rintro e w2 ⟨rfl, hl2⟩
        have L2 := hide (L1.out.trans (HLA.out.trans hl2))
        have F3 := hide (F2.out.later hl2)
        clear hl2 CN
        cases hnm : nameF L with
        | false =>
          go_wp2_with (fail)
          refine (CL _).out.mono ?_
          rintro e w3 ⟨rfl, hl3⟩
          go_wp2_with (fail)
          go_ret
          exact ⟨rfl, L2.out.trans hl3⟩
        | true =>
          have hts := HNM.out hnm
          have hi1 : i = 1 := by rw [HN.out, hts]; rfl
          have F4 := F3.out
          rw [hts] at F4
          obtain ⟨b0, off, t, rfl, hnc, hti, _, hbl, hrw⟩ := F4.at_ (i := 0) (by omega)
          obtain ⟨c0, c1, c2, c3⟩ := range4 hrw
          simp at hti
          subst hti
          have hee : ((⟨L.toArray⟩ : ByteArray).toList == (⟨L.toArray⟩ : ByteArray).toList) = true := by simp
          simp only [Nat.zero_mul, Nat.add_zero] at c0 c1 c2 c3
          subst hi1
          clear F4 hrw hts hnm
          go_wp2_with (fail)
          refine (CL _).out.mono ?_
          rintro e w3 ⟨rfl, hl3⟩
          go_wp2_with (fail)
          go_ret
          exact ⟨rfl, L2.out.trans hl3⟩
end
end Go.Proofs.Ytjnpclpjdlimaaa
/- The law with its world ahead of what is known of its arguments. -/
namespace Go.Proofs.Ytjnpclpjdlimaaa
open Go.RowKit
theorem law_placesW (s : ByteArray) (W : World) (h0 : s.size ≤ 9223372036854775807) : Calls Try.prog 5 #[.string s] W fun e w' => e = .returned (.bool true) ∧ Later W w' :=
  law_places (w := W) s h0
end Go.Proofs.Ytjnpclpjdlimaaa
namespace Go.Proofs.Ytjnpclpjdlimaaa
open Go.ChangeShapes Go.WideShapes Go.ChangeAt Go.RowKit

theorem lexerPlaces_lawKnobs : ownKnob Try.prog.godebug = none := by kernel_rfl
theorem lexerPlaces_allLaid : laidOutB Try.prog = true := by kernel_rfl

set_option maxRecDepth 100000 in
set_option maxHeartbeats 1000000 in
theorem lexerPlaces_lifted (os : Os) (started : os.Started) (H : Type) (enc : TypeId × Value → H) :
    ReturnsInHanded {} Try.checked os 5 .any (Rows.lexerPlacesSpec.pre6 enc Try.prog Try.f5 Rows.lexerPlacesRow.domain false) (Rows.lexerPlacesSpec.post enc Try.prog Try.f5 false true false false) := by
  refine returnsInHanded_of_change_sized (C := Try.checked) lexerPlaces_lawKnobs started (by kernel_rfl) Try.func5
    (ChangeSpec.witness6 (enc := enc) (C := Try.checked) false ⟨#[], #[.string ⟨#[]⟩], []⟩ 8 (by kernel_rfl) (by kernel_rfl) (by kernel_rfl) (by kernel_rfl)) ?_
  intro W base args ds gs before hval0 hW hcnd hsz _
  have hval : ∀ (j : Nat) t v, Try.f5.params[j]? = some t → args[j]? = some v → Value.okWide Try.prog W .any base t v := hval0
  have hW' := hW
  obtain ⟨p, q, hA0, hV, rfl, _, _⟩ := hW
  have hA : DataW.TrodAll enc Try.prog W 0 (fun _ => true) true Try.f5.params.toList args.toList ds p := hA0
  rw [Try.params5] at hA hval
  obtain ⟨v0, vs0, d0, ds0, p0, q0, hargs, rfl, rfl, h0, r0⟩ := trodAll_cons hA
  obtain ⟨rfl, rfl, rfl⟩ := trodAll_nil r0
  obtain rfl : args = #[v0] := by cases args; simp_all
  obtain ⟨rfl, rfl⟩ := trodVars_none hV
  have k0 := h0
  obtain ⟨a0, rfl, rfl, rfl, w0⟩ := Go.ChangeMaps.open_string Try.underlying9 (hval 0 9 v0 rfl rfl) h0
  clear hA0 hval0
  refine (law_placesW a0 W (by unfold maxLen at w0; omega)).mono fun e W' ⟨he, bel⟩ => ?_
  subst he
  exact ⟨_, rfl, _, _, _, [], _, [], hW', trodAll_mk1 (shut_bool Try.underlying4 _), (trodAll_cons_mk (Go.ChangeMaps.shut_string Try.underlying9 w0) trodAll_mk0), rfl, bel.frame _, fun h => by cases h⟩

theorem lexerPlaces_over : Rows.lexerPlacesRow.holds Try.pinned (OpenSpec.ofChange Rows.lexerPlacesSpec) :=
  OpenClaim.holds_of_wide 5 Try.f5 rfl rfl rfl rfl rfl rfl rfl ⟨rfl, rfl, rfl, rfl, rfl⟩ rfl rfl rfl rfl rfl (by kernel_rfl) Try.func5 (by kernel_rfl)
    (of_decide_eq_true (by kernel_rfl)) (by unfold Func.isWrapper; first | (rw [if_pos (by decide +kernel)]; kernel_rfl) | (rw [if_neg (by decide +kernel)]; exact ⟨rfl, rfl⟩))
    (fun os started H enc _ => lexerPlaces_lifted os started H enc)

theorem lexerPlaces_holds : Rows.LexerPlacesSaid := lexerPlaces_over
#print axioms lexerPlaces_holds
end Go.Proofs.Ytjnpclpjdlimaaa
