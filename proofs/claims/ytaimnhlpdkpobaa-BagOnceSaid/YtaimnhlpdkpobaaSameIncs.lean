/- droverref01.Ints at two lists of incarnations; slices.Equal at them, and at steps. -/
import Derived.Test.YtaimnhlpdkpobaaSameOps
import Derived.Test.YtaimnhlpdkpobaaRefInts
import Derived.Test.YtaimnhlpdkpobaaWeigh
namespace Go.Proofs.Ytaimnhlpdkpobaa
open Go.RowKit

set_option maxHeartbeats 1000000 in
theorem same_incs (F G : Nat → Prop) (v v2 : Value) (l m : List Int) (w : World) (hl : IncsAt F w v l) (hm : IncsAt G w v2 m) :
    Calls Try.prog 24 #[v, v2] w fun e w' => e = .returned (.bool (decide (l = m))) ∧ ∃ q, w' = w.drewN q := by
  obtain ⟨A, c, rfl, h1, h2, _⟩ := FlatAt.shape hl
  obtain ⟨A2, c2, rfl, h3, h4, _⟩ := FlatAt.shape hm
  unfold maxLen at h2 h4
  obtain ⟨n, hn⟩ : ∃ n, l.length = n := ⟨_, rfl⟩
  obtain ⟨n2, hn2⟩ : ∃ n2, m.length = n2 := ⟨_, rfl⟩
  rw [hn] at h1 hl ⊢
  rw [hn2] at h3 hm ⊢
  have H1 := hide hl
  have H2 := hide hm
  have HN := hide hn
  have HN2 := hide hn2
  clear hl hm hn hn2
  by_cases hnm : n = n2
  · subst hnm
    have ht : ((n : Int) != (n : Int)) = false := by simp
    go_enter Try.func24, Try.ntmps24
    go_wp2
    go_loopw [13] (fun i wr => ∃ k : Nat, k ≤ n ∧ i = .int .i64 (k : Int) ∧ Alike l m k ∧ ∃ q, wr = w.drewN q) (fun i _ => n - (intOf i).toNat)
    case atStart => exact ⟨0, by omega, rfl, Alike.zero _ _, 0, rfl⟩
    case round =>
      obtain ⟨k, hk, rfl, hup, q, rfl⟩ := hrel
      have HU := hide hup
      clear hup
      by_cases hkn : k < n
      · obtain ⟨x, b, off, c', hx, hv, _, _, _, hr⟩ := IncsAt.at_ H1.out (i := k) (by rw [HN.out]; exact hkn)
        rw [HN.out] at hv
        obtain ⟨rfl, rfl⟩ : A = some ⟨b, off, none⟩ ∧ c = c' := by injection hv with e1 _ e3; exact ⟨e1, e3⟩
        obtain ⟨y, b2, off2, c2', hy, hv2, _, _, _, hr2⟩ := IncsAt.at_ H2.out (i := k) (by rw [HN2.out]; exact hkn)
        rw [HN2.out] at hv2
        obtain ⟨rfl, rfl⟩ : A2 = some ⟨b2, off2, none⟩ ∧ c2 = c2' := by injection hv2 with e1 _ e3; exact ⟨e1, e3⟩
        have HX := hide hx
        have HY := hide hy
        clear hx hy hv hv2
        by_cases he : x = y
        · subst he
          have ht2 : (x != x) = false := by simp
          go_wp2
          go_quiet (fail)
          go_wp2
          go_roundw
          case rel => exact ⟨k + 1, by omega, by go_num, HU.out.next (HX.out.trans HY.out.symm), _, rfl⟩
          case measure => simp [intOf]; omega
        · have ht2 : (x != y) = true := by simpa using he
          have HE := hide (ne_at HX.out HY.out he)
          clear he
          go_wp2
          go_quiet (fail)
          go_wp2
          go_ret
          exact ⟨ret_bool (by simp [HE.out]), _, World.drewN_drewN _ _ _⟩
      · go_wp2
        go_ret
        exact ⟨ret_bool (by simp [HU.out.all (by have := HN.out; omega) (by have := HN2.out; omega)]), _, rfl⟩
  · have ht : ((n : Int) != (n2 : Int)) = true := by simp; omega
    have HE : Hid (l ≠ m) := by
      rintro rfl
      exact hnm (HN.out.symm.trans HN2.out)
    go_enter Try.func24, Try.ntmps24
    go_wp2
    go_ret
    exact ⟨ret_bool (by simp [HE.out]), 0, rfl⟩
end Go.Proofs.Ytaimnhlpdkpobaa
