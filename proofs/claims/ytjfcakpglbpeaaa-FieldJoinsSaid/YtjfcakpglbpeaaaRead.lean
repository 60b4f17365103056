/- The walk over field.Read: the fields of bytes. -/
import Derived.Test.YtjfcakpglbpeaaaFirst
import Derived.Test.YtjfcakpglbpeaaaPlain
namespace Go.Proofs.Ytjfcakpglbpeaaa
open Go.RowKit

theorem first_is (A : Option Addr) (n c B : Nat) (l : List Nat) (er k : Nat) (p : PF) (w : World) (hl : Holds w B A n l) (hB : B ≤ w.heap.size) (hn : n ≤ 1099511627000) (hc : n ≤ c) (h : pfirst l = (er, p, k)) :
    Calls Try.prog 32 #[.slice A n c] w fun e w' =>
      ∃ f : Fd, e = .returned (.tuple #[.agg #[.int .i64 f.num, .bool f.text, .int .u64 f.v, .slice f.a f.n f.c], .int .i64 k, .int .i64 er]) ∧ f.pf = p ∧ FdOwn w' w.heap.size f ∧ Below w.heap.size w w' :=
  (first_any A n c B l w hl hB hn hc).mono fun e w' ⟨f, h1, h2, h3, h4⟩ => ⟨f, by rw [h1, h], by rw [h2, h], h3, h4⟩

/-- What Read tells. -/
def ReadIs (w : World) (q : Nat × List PF) (e : Ending) (w' : World) : Prop :=
  ∃ A n c fs, e = .returned (.tuple #[.slice A n c, .int .i64 (q.1 : Nat)]) ∧ fs.map Fd.pf = q.2 ∧ FHolds w' w'.heap.size A n fs ∧ n ≤ c ∧ Below w.heap.size w w'

theorem Try.infoFd : (Try.prog.info? 34).map (fun i => (i.zero, i.size, i.bytes)) = some (some (.agg #[.int .i64 0, .bool false, .int .u64 0, .slice none 0 0]), 4, 48) := by kernel_rfl

theorem own_below_any {w w1 : World} {base e size n : Nat} {v : Value} {xs : List Value} (ho : w.ownsRow base e size v n xs) (hb : Below w.heap.size w w1) : w1.ownsRow base e size v n xs :=
  ho.kept (Went.of_below hb none).1 (by cases h : v.ownBlock <;> simp)

theorem holds_nil {w : World} {B n : Nat} {A : Option Addr} {l : List Nat} (h : Holds w B A n l) (hn : ¬ 0 < n) : l = [] := List.eq_nil_of_length_eq_zero (by have := h.1; omega)

def lenV : Value → Nat
  | .slice _ n _ => n
  | _ => 0

/-- Where the loop stands. -/
def ReadAt (w : World) (n : Nat) (l : List Nat) (b v : Value) (wr : World) : Prop :=
  ∃ A' n' c' done rest, b = .slice A' n' c' ∧ n' ≤ c' ∧ Holds wr w.heap.size A' n' rest ∧ readOn (done.map Fd.pf) (pread rest) = pread l ∧
    wr.ownsRow w.heap.size 34 4 v done.length (fcells done) ∧ (∀ f ∈ done, FdOwn wr w.heap.size f) ∧ done.length + n' ≤ n ∧ Below w.heap.size w wr

set_option maxHeartbeats 1000000 in
set_option maxRecDepth 100000 in
theorem read_any (A : Option Addr) (n c : Nat) (l : List Nat) (w : World) (hl : Holds w w.heap.size A n l) (hn : n ≤ 1099511627000) (hc : n ≤ c) :
    Calls Try.prog 27 #[.slice A n c] w (ReadIs w (pread l)) := by
  obtain ⟨i0, hi, hz0, hz1, hz2⟩ := info_parts Try.infoFd
  have HS := hide hl.2.1
  have H0 : Hid (ReadAt w n l (.slice A n c) (.slice none 0 0) w) := ⟨A, n, c, [], l, rfl, hc, hl, (readOn_start l).symm, by simpa [fcells] using World.ownsRow_nil _ _ _ _, by simp, by simp, Below.refl _ _⟩
  clear hl
  go_enter Try.func27, Try.ntmps27
  go_wp2
  go_loopw [0, 4] (fun b v wr => ReadAt w n l b v wr) (fun b _ _ => lenV b)
  case atStart => exact H0.out
  case round =>
    obtain ⟨A1, n1, c1, done, rest, rfl, hc1, hh, hread, hown, hoks, hcnt, hbel⟩ := hrel
    have HH := hide hh
    have HR := hide hread
    have Hown := hide hown
    have Hoks := hide hoks
    have hsz := hbel.size
    clear hh hread hown hoks H0
    by_cases hlt : 0 < n1
    · have hne : rest ≠ [] := by
        intro h
        have := HH.out.1
        rw [h] at this
        simp at this
        omega
      have Hne := hide hne
      clear hne
      obtain ⟨⟨er, p, k⟩, hp⟩ : ∃ q, pfirst rest = q := ⟨_, rfl⟩
      have HP := hide hp
      by_cases her : er = 0
      · subst her
        have h3 := (pfirst_ok rest HH.out.2.1 (by rw [hp])).2.2
        rw [hp] at h3
        simp only at h3
        have hk0 : 0 < k := h3.1
        have hkn : k ≤ n1 := by have := HH.out.1; omega
        obtain ⟨A2, hA2, hsl⟩ := cut_from A1 n1 c1 k hkn
        have HH2 := hide (HH.out.drop hkn hc1 A2 hA2)
        clear hp h3 hA2
        go_wp2_with (fail)
        refine (first_is A1 n1 c1 _ rest 0 k p _ HH.out hsz (by omega) hc1 HP.out).mono ?_
        rintro e w1 ⟨⟨num, text, v, a, fn, fc, fb⟩, rfl, hpf, hfo, hb1⟩
        have Hpf := hide hpf
        have Hfo := hide hfo
        have Hb1 := hide hb1
        have O1 := hide (own_below_any Hown.out hb1)
        have s1 := hb1.size
        simp only
        clear hpf hfo hb1
        go_wp2_with (at_builtin; refine wpList_append_own_at _ rfl (.tmp 20) (.tmp 22) 31 rfl w.heap.size 34 i0 _ 4 48 Try.underlying31 hi hz0 hz1 hz2 rfl (by omega) _ done.length (fcells done) rfl ((O1.out.alloc _).alloc _) ⟨w1.heap.size + 1, 0, none⟩ 1 1 [.int .i64 num, .bool text, .int .u64 v, .slice a fn fc] rfl rfl (by have := cells_new (w1.alloc (.cells #[.int .i64 num, .bool text, .int .u64 v, .slice a fn fc] 34)) [.int .i64 num, .bool text, .int .u64 v, .slice a fn fc] 34; rw [World.size_alloc] at this; exact this) (by intro u hu; simp at hu; rcases hu with rfl | rfl | rfl | rfl <;> rfl) (by simp only [maxLen]; omega) (by omega) (by simp; omega) ?_; intro v2 w2 o2 g2 _ _)
        have O2 := hide o2
        have G2 := hide g2
        clear o2 g2
        go_roundw
        case rel =>
          have b1 : Below w1.heap.size w1 ((w1.alloc (.cells #[.int .i64 num, .bool text, .int .u64 v, .slice a fn fc] 34)).alloc (.cells #[.int .i64 num, .bool text, .int .u64 v, .slice a fn fc] 34)) := ((Below.refl _ _).alloc (Nat.le_refl _) _).alloc (by simp) _
          have b2 : Below w.heap.size wr w2 := ((Hb1.out.mono hsz).trans (b1.mono (by omega))).trans ((Below.refl _ _).grown G2.out (by simp; omega) fun g hg => (O1.out.lt g hg).1)
          refine ⟨A2, n1 - k, c1 - k, done ++ [⟨num, text, v, a, fn, fc, fb⟩], rest.drop k, rfl, by omega, HH2.out.below b2, ?_, ?_, ?_, ?_, hbel.trans b2⟩
          · rw [← HR.out, readOn_next HH.out.2.1 _ Hne.out (by rw [HP.out]), HP.out, List.map_append, ← Hpf.out]
            rfl
          · rw [fcells_snoc, List.length_append]
            exact O2.out
          · intro f hf
            rcases List.mem_append.1 hf with hf | hf
            · exact (((Hoks.out f hf).below Hb1.out).below b1).kept ((O1.out.alloc _).alloc _) G2.out (by decide)
            · simp at hf
              subst hf
              exact ((Hfo.out.base hsz).below b1).kept ((O1.out.alloc _).alloc _) G2.out (by decide)
          · simp
            omega
        case measure => simp [lenV]; omega
      · have hnz : ((er : Int) != 0) = true := by simp; omega
        have Her := hide her
        clear hp her
        go_wp2_with (fail)
        refine (first_is A1 n1 c1 _ rest er k p _ HH.out hsz (by omega) hc1 HP.out).mono ?_
        rintro e w1 ⟨⟨num, text, v, a, fn, fc, fb⟩, rfl, _, _, hb1⟩
        have Hb1 := hide hb1
        simp only
        clear hb1
        go_wp2
        go_ret2
        have hr : pread l = (er, []) := by
          rw [← HR.out, readOn_err HH.out.2.1 _ Hne.out (by rw [HP.out]; exact Her.out), HP.out]
        exact ⟨none, 0, 0, [], by rw [hr]; rfl, by rw [hr]; rfl, ⟨rfl, by simp, fun h => by omega⟩, Nat.le_refl _, hbel.trans (((Hb1.out.mono hsz)).trans ((Below.refl _ _).alloc (by have := Hb1.out.size; omega) _))⟩
    · have hnil := holds_nil HH.out hlt
      have hr : pread l = (0, done.map Fd.pf) := by rw [← HR.out, hnil, readOn_end]
      obtain ⟨A', c', hv, h1, h2⟩ := FHolds.of_own Hown.out fun f hf => (Hoks.out f hf).ok
      have HRR := hide hr
      have H2 := hide h2
      clear hr hnil h2
      subst hv
      go_wp2
      go_ret2
      exact ⟨A', done.length, c', done, by rw [HRR.out]; rfl, by rw [HRR.out], H2.out, h1, hbel⟩
end Go.Proofs.Ytjfcakpglbpeaaa
