/- The walk over droverref01.Same: are two lists of fields the same? -/
import Derived.Test.YtjfcakpglbpeaaaRead
import Derived.Test.YtjfcakpglbpeaaaLives
import Derived.Deep.QuietTactic
import Derived.BigQuiet
namespace Go.Proofs.Ytjfcakpglbpeaaa
open Go.RowKit

theorem str_toList (l : List Nat) : (str l).toList = l.map UInt8.ofNat := by
  rw [ByteArray.toList_eq]
  simp [str]
theorem str_inj {a b : List Nat} (ha : ∀ x ∈ a, x < 256) (hb : ∀ x ∈ b, x < 256) (h : str a = str b) : a = b := by
  have h1 : a.map UInt8.ofNat = b.map UInt8.ofNat := by
    have := congrArg (fun s : ByteArray => s.data.toList) h
    simpa [str] using this
  have h2 := congrArg (List.map UInt8.toNat) h1
  rw [List.map_map, List.map_map] at h2
  have e : ∀ (l : List Nat), (∀ x ∈ l, x < 256) → l.map (UInt8.toNat ∘ UInt8.ofNat) = l := by
    intro l hl
    rw [List.map_congr_left (g := id)]
    · simp
    · intro x hx
      have := hl x hx
      simp
      omega
  rwa [e a ha, e b hb] at h2
theorem str_beq (a : List Nat) : ((str a).toList == (str a).toList) = true := by simp
theorem str_bne {a b : List Nat} (ha : ∀ x ∈ a, x < 256) (hb : ∀ x ∈ b, x < 256) (h : a ≠ b) : ((str a).toList == (str b).toList) = false := by
  rw [beq_eq_false_iff_ne, ByteArray.toList_eq, ByteArray.toList_eq]
  intro h2
  exact h (str_inj ha hb (by
    have h3 : (str a).data = (str b).data := Array.toList_inj.1 h2
    cases ha' : str a
    cases hb' : str b
    rw [ha', hb'] at h3
    simp only at h3
    rw [h3]))

/-- Are they the same, but for where their bytes lie? -/
def sameB (fs gs : List Fd) : Bool := decide (fs.map Fd.pf = gs.map Fd.pf)
theorem same_len {fs gs : List Fd} {n m : Nat} (h1 : fs.length = n) (h2 : gs.length = m) (h : n ≠ m) : false = sameB fs gs := by
  unfold sameB
  symm
  rw [decide_eq_false_iff_not]
  intro h3
  have := congrArg List.length h3
  simp at this
  omega
theorem same_no {fs gs : List Fd} {k : Nat} {f g : Fd} (hf : fs[k]? = some f) (hg : gs[k]? = some g) (h : f.pf ≠ g.pf) : false = sameB fs gs := by
  unfold sameB
  symm
  rw [decide_eq_false_iff_not]
  intro h3
  have := congrArg (fun l : List PF => l[k]?) h3
  simp [hf, hg] at this
  exact h this
def SameTo (fs gs : List Fd) (k : Nat) : Prop := (fs.take k).map Fd.pf = (gs.take k).map Fd.pf
theorem SameTo.next {fs gs : List Fd} {k : Nat} {f g : Fd} (h : SameTo fs gs k) (hf : fs.take (k + 1) = fs.take k ++ [f]) (hg : gs.take (k + 1) = gs.take k ++ [g]) (he : f.pf = g.pf) : SameTo fs gs (k + 1) := by
  unfold SameTo at h ⊢
  rw [hf, hg, List.map_append, List.map_append, h]
  simp [he]
theorem SameTo.all {fs gs : List Fd} {k : Nat} (h : SameTo fs gs k) (hf : fs.length ≤ k) (hg : gs.length ≤ k) : true = sameB fs gs := by
  unfold SameTo at h
  rw [List.take_of_length_le hf, List.take_of_length_le hg] at h
  unfold sameB
  simp [h]

set_option maxHeartbeats 2000000 in
set_option maxRecDepth 100000 in
theorem same_any (A A2 : Option Addr) (n c m c2 B : Nat) (fs gs : List Fd) (w : World) (hf : FHolds w B A n fs) (hg : FHolds w B A2 m gs) (hn : n ≤ 1099511627000) (hm : m ≤ 1099511627000) :
    Calls Try.prog 26 #[.slice A n c, .slice A2 m c2] w fun e w' => e = .returned (.bool (sameB fs gs)) ∧ ∃ q, w' = w.drewN q := by
  have HF := hide hf
  have HG := hide hg
  clear hf hg
  by_cases hnm : n = m
  · subst hnm
    have hnn : ((n : Int) != (n : Int)) = false := by simp
    go_enter Try.func26, Try.ntmps26
    go_wp2
    go_loopw [13] (fun i wr => ∃ k : Nat, k ≤ n ∧ i = .int .i64 k ∧ SameTo fs gs k ∧ ∃ q, wr = w.drewN q) (fun i _ => n - (intOf i).toNat)
    case atStart => exact ⟨0, by omega, rfl, by simp [SameTo], 0, rfl⟩
    case round =>
      obtain ⟨k, hk, rfl, hto, q, rfl⟩ := hrel
      have Hto := hide hto
      clear hto
      by_cases hlt : k < n
      · obtain ⟨f, b, off, hfk, hok, rfl, hbB, c0, c1, c2, c3, htk⟩ := HF.out.at_ hlt
        obtain ⟨g, b', off', hgk, hok', rfl, hbB', d0, d1, d2, d3, htk'⟩ := HG.out.at_ hlt
        obtain ⟨num, text, v, a, fn, fc, fb⟩ := f
        obtain ⟨num', text', v', a', fn', fc', fb'⟩ := g
        simp only at c0 c1 c2 c3 d0 d1 d2 d3
        have Htk := hide htk
        have Htk' := hide htk'
        have Hfk := hide hfk
        have Hgk := hide hgk
        have hh1 := hok.2.2.2
        have hh2 := hok'.2.2.2
        simp only at hh1 hh2
        obtain ⟨S1, hS1⟩ : ∃ s, s = str fb := ⟨_, rfl⟩
        obtain ⟨S2, hS2⟩ : ∃ s, s = str fb' := ⟨_, rfl⟩
        have q1 : ∀ k, (convert 22 9 (.slice a fn fc)).run Try.prog (w.drewN k) = .ok (.string S1) (w.drewN k) := fun k => by rw [hS1]; exact run_str _ B a fn fc fb (hh1.drewN k)
        have q2 : ∀ k, (convert 22 9 (.slice a' fn' fc')).run Try.prog (w.drewN k) = .ok (.string S2) (w.drewN k) := fun k => by rw [hS2]; exact run_str _ B a' fn' fc' fb' (hh2.drewN k)
        have Hb1 := hide hh1.2.1
        have Hb2 := hide hh2.2.1
        have HS1 := hide hS1
        have HS2 := hide hS2
        have hki : (k : Int) < (n : Int) := by omega
        clear htk htk' hfk hgk hok hok' hh1 hh2 hS1 hS2
        by_cases x0 : num = num'
        · by_cases x1 : text = text'
          · by_cases x2 : v = v'
            · by_cases x3 : fb = fb'
              · have y0 : (num != num') = false := by simp [x0]
                have y1 : (text == text') = true := by simp [x1]
                have y1' : (!(text == text')) = false := by simp [x1]
                have y2 : ((v : Int) != (v' : Int)) = false := by simp [x2]
                have y3 : (S1.toList == S2.toList) = true := by rw [HS1.out, HS2.out, x3]; exact str_beq _
                have y3' : (!(S1.toList == S2.toList)) = false := by rw [y3]; rfl
                have X := hide (show Fd.pf ⟨num, text, v, a, fn, fc, fb⟩ = Fd.pf ⟨num', text', v', a', fn', fc', fb'⟩ by simp [Fd.pf, x0, x1, x2, x3])
                clear x0 x1 x2 x3
                go_wp2
                go_quiet (fail)
                go_wp2
                go_roundw
                case rel => exact ⟨k + 1, by omega, by go_num, Hto.out.next Htk.out Htk'.out X.out, _, rfl⟩
                case measure => simp [intOf]; omega
              · have y0 : (num != num') = false := by simp [x0]
                have y1 : (text == text') = true := by simp [x1]
                have y1' : (!(text == text')) = false := by simp [x1]
                have y2 : ((v : Int) != (v' : Int)) = false := by simp [x2]
                have y3 : (S1.toList == S2.toList) = false := by rw [HS1.out, HS2.out]; exact str_bne Hb1.out Hb2.out x3
                have y3' : (!(S1.toList == S2.toList)) = true := by rw [y3]; rfl
                have X := hide (show Fd.pf ⟨num, text, v, a, fn, fc, fb⟩ ≠ Fd.pf ⟨num', text', v', a', fn', fc', fb'⟩ by simp [Fd.pf, x0, x1, x2, x3])
                clear x0 x1 x2 x3
                go_wp2
                go_quiet (fail)
                go_wp2
                go_ret
                exact ⟨ret_bool (same_no Hfk.out Hgk.out X.out), _, World.drewN_drewN _ _ _⟩
            · have y0 : (num != num') = false := by simp [x0]
              have y1 : (text == text') = true := by simp [x1]
              have y1' : (!(text == text')) = false := by simp [x1]
              have y2 : ((v : Int) != (v' : Int)) = true := by simp; omega
              have X := hide (show Fd.pf ⟨num, text, v, a, fn, fc, fb⟩ ≠ Fd.pf ⟨num', text', v', a', fn', fc', fb'⟩ by simp [Fd.pf, x0, x1, x2])
              clear x0 x1 x2
              go_wp2
              go_quiet (fail)
              go_wp2
              go_ret
              exact ⟨ret_bool (same_no Hfk.out Hgk.out X.out), _, World.drewN_drewN _ _ _⟩
          · have y0 : (num != num') = false := by simp [x0]
            have y1 : (text == text') = false := by simp [x1]
            have y1' : (!(text == text')) = true := by simp [x1]
            have X := hide (show Fd.pf ⟨num, text, v, a, fn, fc, fb⟩ ≠ Fd.pf ⟨num', text', v', a', fn', fc', fb'⟩ by simp [Fd.pf, x0, x1])
            clear x0 x1
            go_wp2
            go_quiet (fail)
            go_wp2
            go_ret
            exact ⟨ret_bool (same_no Hfk.out Hgk.out X.out), _, World.drewN_drewN _ _ _⟩
        · have y0 : (num != num') = true := by simpa using x0
          have X := hide (show Fd.pf ⟨num, text, v, a, fn, fc, fb⟩ ≠ Fd.pf ⟨num', text', v', a', fn', fc', fb'⟩ by simp [Fd.pf, x0])
          clear x0
          go_wp2
          go_quiet (fail)
          go_wp2
          go_ret
          exact ⟨ret_bool (same_no Hfk.out Hgk.out X.out), _, World.drewN_drewN _ _ _⟩
      · go_wp2
        go_ret
        exact ⟨ret_bool (Hto.out.all (by have := HF.out.1; omega) (by have := HG.out.1; omega)), q, rfl⟩
  · have hnn : ((n : Int) != (m : Int)) = true := by simp; omega
    have Hnm := hide hnm
    clear hnm
    go_enter Try.func26, Try.ntmps26
    go_wp2
    go_ret
    exact ⟨ret_bool (same_len HF.out.1 HG.out.1 Hnm.out), 0, rfl⟩
end Go.Proofs.Ytjfcakpglbpeaaa
