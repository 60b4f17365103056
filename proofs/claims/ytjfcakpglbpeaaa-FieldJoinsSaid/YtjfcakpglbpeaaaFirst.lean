/- The walk over field.first: the field that bytes begin with. -/
import Derived.Test.YtjfcakpglbpeaaaCut
import Derived.Test.YtjfcakpglbpeaaaGet
import Derived.Test.YtjfcakpglbpeaaaLight
import Derived.Handy
namespace Go.Proofs.Ytjfcakpglbpeaaa
open Go.RowKit

theorem bcell {W w1 : World} (hb : Below W.heap.size W w1) : (∀ b o, b < W.heap.size → w1.cell? ⟨b, o, none⟩ = W.cell? ⟨b, o, none⟩) ∧ (∀ b o, b < W.heap.size → w1.frozen? ⟨b, o, none⟩ = W.frozen? ⟨b, o, none⟩) :=
  ⟨fun b o h => hb.cell (p := ⟨b, o, none⟩) h, fun b o h => hb.frozen (p := ⟨b, o, none⟩) h⟩

/-- A row of the call's own is as it was where no block from its base on was written. -/
theorem own_same {w w' : World} {base e size n : Nat} {v : Value} {xs : List Value} (h : w.ownsRow base e size v n xs) (hk : ∀ g, base ≤ g → w'.heap[g]? = w.heap[g]?) : w'.ownsRow base e size v n xs := by
  refine ⟨h.1, ?_⟩
  rcases h.2 with hn | ⟨g, cap, cur, rfl, hb, hg, rest⟩
  · exact .inl hn
  · exact .inr ⟨g, cap, cur, rfl, hb, (hk g hb).trans hg, rest⟩
theorem own_holds {w : World} {base e n c : Nat} {A : Option Addr} {l : List Nat} (h : w.ownsRow base e 1 (.slice A n c) n (bvs l)) (hs : ∀ x ∈ l, x < 256) : n ≤ c ∧ Holds w w.heap.size A n l := by
  obtain ⟨A', c', h1, h2, _, h3⟩ := Holds.of_own h hs
  injection h1 with e1 e2 e3
  subst e1 e3
  exact ⟨h2, h3⟩

theorem own_base {w : World} {base base' e size n : Nat} {v : Value} {xs : List Value} (h : w.ownsRow base e size v n xs) (hb : base' ≤ base) : w.ownsRow base' e size v n xs := by
  refine ⟨h.1, ?_⟩
  rcases h.2 with hn | ⟨g, cap, cur, rfl, hg, rest⟩
  · exact .inl hn
  · exact .inr ⟨g, cap, cur, rfl, by omega, rest⟩
/-- A field whose bytes are the call's own. -/
def FdOwn (w : World) (base : Nat) (f : Fd) : Prop :=
  (-9223372036854775808 ≤ f.num ∧ f.num < 9223372036854775808) ∧ f.v < 18446744073709551616 ∧ (∀ x ∈ f.b, x < 256) ∧ w.ownsRow base 5 1 (.slice f.a f.n f.c) f.n (bvs f.b)
theorem FdOwn.ok {w : World} {base : Nat} {f : Fd} (h : FdOwn w base f) : f.ok w w.heap.size := ⟨h.1, h.2.1, (own_holds h.2.2.2 h.2.2.1).1, (own_holds h.2.2.2 h.2.2.1).2⟩
theorem FdOwn.base {w : World} {base base' : Nat} {f : Fd} (h : FdOwn w base f) (hb : base' ≤ base) : FdOwn w base' f := ⟨h.1, h.2.1, h.2.2.1, own_base h.2.2.2 hb⟩
theorem FdOwn.below {w w' : World} {base : Nat} {f : Fd} (h : FdOwn w base f) (hb : Below w.heap.size w w') : FdOwn w' base f := ⟨h.1, h.2.1, h.2.2.1, own_below h.2.2.2 hb⟩
/-- An append to a row of other elements leaves it. -/
theorem FdOwn.kept {w w' : World} {base base' e size n : Nat} {v : Value} {xs : List Value} {f : Fd} (h : FdOwn w base f) (ho : w.ownsRow base' e size v n xs) (hg : w.grownBy w' v.ownBlock) (hne : e ≠ 5) : FdOwn w' base f := by
  refine ⟨h.1, h.2.1, h.2.2.1, h.2.2.2.kept hg ?_⟩
  rcases h.2.2.2.2 with ⟨h1, _⟩ | ⟨g, cap, cur, h1, _, hh, _⟩
  · left
    rw [h1]
    rfl
  · right
    rw [h1]
    rcases ho.2 with ⟨rfl, _⟩ | ⟨g', cap', cur', rfl, _, hh', _⟩
    · simp [Value.ownBlock]
    · simp only [Value.ownBlock]
      intro e2
      obtain rfl := Option.some.inj e2
      rw [hh] at hh'
      simp only [Option.some.injEq, Obj.cells.injEq] at hh'
      exact hne hh'.2.1.symm

theorem own_text {w w' : World} {base n c h : Nat} {A : Option Addr} {l : List Nat} (ho : w.ownsRow base 5 1 (.slice A n c) n (bvs l)) (hs : ∀ x ∈ l, x < 256) (hh : h < 9223372036854775808)
    (hk : ∀ g, base ≤ g → w'.heap[g]? = w.heap[g]?) : FdOwn w' base ⟨h, true, 0, A, n, c, l⟩ :=
  ⟨⟨by show (-9223372036854775808 : Int) ≤ (h : Int); omega, by show (h : Int) < 9223372036854775808; omega⟩, by show 0 < 18446744073709551616; omega, hs, own_same ho hk⟩
theorem own_plain {w : World} {base h V : Nat} (hh : h < 9223372036854775808) (hV : V < 18446744073709551616) : FdOwn w base ⟨h, false, V, none, 0, 0, []⟩ :=
  ⟨⟨by show (-9223372036854775808 : Int) ≤ (h : Int); omega, by show (h : Int) < 9223372036854775808; omega⟩, hV, by simp, World.ownsRow_nil _ _ _ _⟩

def Fd.pf (f : Fd) : PF := (f.num, f.text, f.v, f.b)
def fz : Fd := ⟨0, false, 0, none, 0, 0, []⟩
theorem fz_own (w : World) (B : Nat) : FdOwn w B fz := ⟨⟨by decide, by decide⟩, by decide, by simp [fz], World.ownsRow_nil _ _ _ _⟩

/-- What first tells. -/
def FirstIs (w : World) (l : List Nat) (e : Ending) (w' : World) : Prop :=
  ∃ f : Fd, e = .returned (.tuple #[.agg #[.int .i64 f.num, .bool f.text, .int .u64 f.v, .slice f.a f.n f.c], .int .i64 ((pfirst l).2.2 : Nat), .int .i64 ((pfirst l).1 : Nat)]) ∧ f.pf = (pfirst l).2.1 ∧ FdOwn w' w.heap.size f ∧ Below w.heap.size w w'

theorem firstIs_err {w w' : World} {l : List Nat} {e : Nat} (h : pfirst l = (e, pz, 0)) (hb : Below w.heap.size w w') : FirstIs w l (.returned (.tuple #[.agg #[.int .i64 0, .bool false, .int .u64 0, .slice none 0 0], .int .i64 0, .int .i64 (e : Int)])) w' :=
  ⟨fz, by rw [h]; rfl, by rw [h]; rfl, fz_own _ _, hb⟩

theorem get_is (A : Option Addr) (n c B : Nat) (l : List Nat) (x k : Nat) (y : Nat) (w : World) (hl : Holds w B A n l) (hn : n ≤ 1099511627000) (h : num l 0 0 = (x, k, y)) :
    Calls Try.prog 28 #[.slice A n c] w fun e w' => e = .returned (.tuple #[.int .u64 x, .int .i64 k, .int .i64 y]) ∧ w = w' :=
  (get_any A n c B l w hl hn).mono fun e w' ⟨he, hw⟩ => ⟨by rw [he, h], hw⟩

section
variable {l : List Nat} {K m V z e : Nat}
theorem pfirst_1 (h : num l 0 0 = (K, m, e)) (he : e ≠ 0) : pfirst l = (e, pz, 0) := by
  unfold pfirst
  simp only [h]
  rw [if_pos he]
theorem pfirst_2 (h : num l 0 0 = (K, m, 0)) (hk : K / 2 < 1 ∨ 1000 < K / 2) : pfirst l = (4, pz, 0) := by
  unfold pfirst
  simp only [h]
  rw [if_neg (by simp), if_pos hk]
theorem pfirst_3 (h : num l 0 0 = (K, m, 0)) (hk : ¬ (K / 2 < 1 ∨ 1000 < K / 2)) (h2 : num (l.drop m) 0 0 = (V, z, e)) (he : e ≠ 0) : pfirst l = (e, pz, 0) := by
  unfold pfirst
  simp only [h, h2]
  rw [if_neg (by simp), if_neg hk, if_pos he]
theorem pfirst_4 (h : num l 0 0 = (K, m, 0)) (hk : ¬ (K / 2 < 1 ∨ 1000 < K / 2)) (h2 : num (l.drop m) 0 0 = (V, z, 0)) (hr : K % 2 = 0) : pfirst l = (0, (((K / 2 : Nat) : Int), false, V, []), m + z) := by
  unfold pfirst
  simp only [h, h2]
  rw [if_neg (by simp), if_neg hk, if_neg (by simp), if_pos hr]
theorem pfirst_5 (h : num l 0 0 = (K, m, 0)) (hk : ¬ (K / 2 < 1 ∨ 1000 < K / 2)) (h2 : num (l.drop m) 0 0 = (V, z, 0)) (hr : ¬ K % 2 = 0) (hv : l.length - (m + z) < V) : pfirst l = (3, pz, 0) := by
  unfold pfirst
  simp only [h, h2]
  rw [if_neg (by simp), if_neg hk, if_neg (by simp), if_neg hr, if_pos hv]
theorem pfirst_6 (h : num l 0 0 = (K, m, 0)) (hk : ¬ (K / 2 < 1 ∨ 1000 < K / 2)) (h2 : num (l.drop m) 0 0 = (V, z, 0)) (hr : ¬ K % 2 = 0) (hv : ¬ l.length - (m + z) < V) :
    pfirst l = (0, (((K / 2 : Nat) : Int), true, 0, (l.drop (m + z)).take V), m + z + V) := by
  unfold pfirst
  simp only [h, h2]
  rw [if_neg (by simp), if_neg hk, if_neg (by simp), if_neg hr, if_neg hv]
end

set_option maxHeartbeats 2000000 in
set_option maxRecDepth 100000 in
theorem first_any (A : Option Addr) (n c B : Nat) (l : List Nat) (w : World) (hl : Holds w B A n l) (hB : B ≤ w.heap.size) (hn : n ≤ 1099511627000) (hc : n ≤ c) :
    Calls Try.prog 32 #[.slice A n c] w (FirstIs w l) := by
  have HL := hide hl
  have HS := hide hl.2.1
  have hlen := hide hl.1
  clear hl
  obtain ⟨⟨K, m, e1⟩, hnum⟩ : ∃ q, num l 0 0 = q := ⟨_, rfl⟩
  have HN := hide hnum
  by_cases h1 : e1 = 0
  · subst h1
    obtain ⟨q1, q2, q3⟩ := num_ok HS.out hnum
    have hm : m ≤ n := by
      have := (num_bound l 0 0).1
      rw [hnum] at this
      have := hlen.out
      simp only at *
      omega
    have hm1 : 1 ≤ m := by rw [q1]; exact (enc_len K).1
    obtain ⟨h, hh⟩ : ∃ h, h = K / 2 := ⟨_, rfl⟩
    have hq : (K : Int) / 2 = (h : Int) := by omega
    have hh0 : h < 9223372036854775808 := by omega
    have HK := hide hh
    have Q3 := hide q3
    clear hnum hh q1 q2 q3
    by_cases h2 : h < 1 ∨ 1000 < h
    · have hr := hide (pfirst_2 HN.out (by rw [← HK.out]; exact h2))
      go_enter Try.func32, Try.ntmps32
      go_wp2_with (fail)
      refine (get_is A n c _ l K m 0 _ (HL.out.below ((Below.refl _ _).alloc hB _)) (by omega) HN.out).mono ?_
      rintro e w1 ⟨rfl, rfl⟩
      go_wp2
      all_goals exact bodyPost_ret (v := .tuple #[.agg #[.int .i64 0, .bool false, .int .u64 0, .slice none 0 0], .int .i64 0, .int .i64 4]) (by simp [results, Try.results32, go_sem]) rfl (firstIs_err (e := 4) hr.out (((Below.refl _ _).alloc (Nat.le_refl _) _)))
    · have H2 := hide h2
      obtain ⟨hh1, hh2⟩ : 1 ≤ h ∧ h ≤ 1000 := by omega
      clear h2
      obtain ⟨A', hA', hsl⟩ := cut_from A n c m hm
      have HL2 := hide (HL.out.drop hm hc A' hA')
      have Hsl := hide hsl
      have HS2 : Hid (∀ x ∈ l.drop m, x < 256) := fun x hx => HS.out x (List.mem_of_mem_drop hx)
      obtain ⟨⟨V, z, e2⟩, hnum2⟩ : ∃ q, num (l.drop m) 0 0 = q := ⟨_, rfl⟩
      have HN2 := hide hnum2
      clear hA' hsl
      by_cases h3 : e2 = 0
      · subst h3
        obtain ⟨q1, q2, q3⟩ := num_ok HS2.out hnum2
        have hz : m + z ≤ n := by
          have := (num_bound (l.drop m) 0 0).1
          rw [hnum2] at this
          have := hlen.out
          simp only [List.length_drop] at *
          omega
        have Q4 := hide q3
        clear hnum2 q1 q2 q3
        by_cases h4 : K % 2 = 0
        · have hr := hide (pfirst_4 HN.out (by rw [← HK.out]; exact H2.out) HN2.out h4)
          have hand : bits .and .u64 (K : Int) 1 = 0 := by rw [u64_low1 K Q3.out, h4]; rfl
          clear h4
          have hsl := Hsl.out
          go_enter Try.func32, Try.ntmps32
          go_wp2_with (fail)
          refine (get_is A n c _ l K m 0 _ (HL.out.below ((Below.refl _ _).alloc hB _)) (by omega) HN.out).mono ?_
          rintro e w1 ⟨rfl, rfl⟩
          go_wp2_with (fail)
          refine (get_is A' (n - m) (c - m) _ (l.drop m) V z 0 _ (HL2.out.below ((Below.refl _ _).alloc hB _)) (by omega) HN2.out).mono ?_
          rintro e w1 ⟨rfl, rfl⟩
          go_wp2
          exact bodyPost_ret (v := .tuple #[.agg #[.int .i64 h, .bool false, .int .u64 V, .slice none 0 0], .int .i64 ((m : Int) + z), .int .i64 0]) (by simp [results, Try.results32, go_sem]) rfl
            ⟨⟨h, false, V, none, 0, 0, []⟩, by rw [hr.out]; rfl, by rw [hr.out, ← HK.out]; rfl, own_plain hh0 Q4.out, by
              go_grown⟩
        · have H4 := hide h4
          have hand : bits .and .u64 (K : Int) 1 = 1 := by rw [u64_low1 K Q3.out, show K % 2 = 1 from by omega]; rfl
          clear h4
          by_cases h5 : n - (m + z) < V
          · have hr := hide (pfirst_5 HN.out (by rw [← HK.out]; exact H2.out) HN2.out H4.out (by rw [hlen.out]; exact h5))
            have hV : (n : Int) - ((m : Int) + z) < (V : Int) := by omega
            have hsl := Hsl.out
            clear h5
            go_enter Try.func32, Try.ntmps32
            go_wp2_with (fail)
            refine (get_is A n c _ l K m 0 _ (HL.out.below ((Below.refl _ _).alloc hB _)) (by omega) HN.out).mono ?_
            rintro e w1 ⟨rfl, rfl⟩
            go_wp2_with (fail)
            refine (get_is A' (n - m) (c - m) _ (l.drop m) V z 0 _ (HL2.out.below ((Below.refl _ _).alloc hB _)) (by omega) HN2.out).mono ?_
            rintro e w1 ⟨rfl, rfl⟩
            go_wp2
            exact bodyPost_ret (v := .tuple #[.agg #[.int .i64 0, .bool false, .int .u64 0, .slice none 0 0], .int .i64 0, .int .i64 3]) (by simp [results, Try.results32, go_sem]) rfl (firstIs_err (e := 3) hr.out (((Below.refl _ _).alloc (Nat.le_refl _) _).alloc (by simp) _))
          · have hr := hide (pfirst_6 HN.out (by rw [← HK.out]; exact H2.out) HN2.out H4.out (by rw [hlen.out]; exact h5))
            have hV : (V : Int) ≤ (n : Int) - ((m : Int) + z) := by omega
            have hsl := Hsl.out
            clear h5
            obtain ⟨E, hE⟩ : ∃ E : Nat, E = m + z + V := ⟨_, rfl⟩
            obtain ⟨S, hS⟩ : ∃ S : Nat, S = m + z := ⟨_, rfl⟩
            have e1 : (m : Int) + (z : Int) = (S : Int) := by omega
            have e2 : (S : Int) + (V : Int) = (E : Int) := by omega
            have eV : E - S = V := by omega
            have hSE : S ≤ E ∧ E ≤ n := by omega
            obtain ⟨A2, hA2, hsl2⟩ := cut_mid A n c S E hSE.1 (by omega)
            have HL3 := hide (HL.out.mid hSE.1 hSE.2 hc hA2)
            have HS' := hide hS
            have HE' := hide hE
            have EV := hide eV
            have hSle : S ≤ n := by omega
            have hVS : (V : Int) ≤ (n : Int) - (S : Int) := by omega
            clear hA2 hS hE hV eV
            go_enter Try.func32, Try.ntmps32
            go_wp2_with (fail)
            refine (get_is A n c _ l K m 0 _ (HL.out.below ((Below.refl _ _).alloc hB _)) (by omega) HN.out).mono ?_
            rintro e w1 ⟨rfl, rfl⟩
            go_wp2_with (fail)
            refine (get_is A' (n - m) (c - m) _ (l.drop m) V z 0 _ (HL2.out.below ((Below.refl _ _).alloc hB _)) (by omega) HN2.out).mono ?_
            rintro e w1 ⟨rfl, rfl⟩
            go_wp2_with (fail)
            refine (clone_any A2 (E - S) (c - S) B _ _ (HL3.out.below ((((Below.refl _ _).alloc hB _)).alloc (by simp; omega) _)) (by simp; omega) (by omega)).mono ?_
            rintro e w2 ⟨A3, n3, c3, rfl, o3, hh3, hc3, b3⟩
            have O3 := hide o3
            have B3 := hide b3
            obtain ⟨hc, hf⟩ := bcell b3
            have hz : w.heap.size + 1 < w2.heap.size := by have := b3.size; simp at this; omega
            have hz0 : w.heap.size < w2.heap.size := by omega
            have r0 : w2.cell? ⟨w.heap.size, 0, none⟩ = some (.int .i64 0) := by rw [hc _ _ (by simp; omega)]; go_simp
            have r1 : w2.cell? ⟨w.heap.size, 1, none⟩ = some (.bool false) := by rw [hc _ _ (by simp; omega)]; go_simp
            have r2 : w2.cell? ⟨w.heap.size, 2, none⟩ = some (.int .u64 0) := by rw [hc _ _ (by simp; omega)]; go_simp
            have r3 : w2.cell? ⟨w.heap.size, 3, none⟩ = some (.slice none 0 0) := by rw [hc _ _ (by simp; omega)]; go_simp
            clear o3 hh3 b3
            go_wp2
            exact bodyPost_ret (v := .tuple #[.agg #[.int .i64 h, .bool true, .int .u64 0, .slice A3 n3 c3], .int .i64 E, .int .i64 0]) (by simp [results, Try.results32, go_sem, r0, r1, r2, r3]) rfl
              ⟨⟨h, true, 0, A3, n3, c3, _⟩, by rw [hr.out, ← HE'.out]; rfl, by rw [hr.out, ← HK.out, ← HS'.out, ← EV.out]; rfl, (own_text O3.out (fun x hx => HS.out x (List.mem_of_mem_drop (List.mem_of_mem_take hx))) hh0 (fun g hg => by
                have hg' : w.heap.size + 2 ≤ g := by simpa using hg
                repeat rw [Below.heap_setCell _ _ _ _ (by simp; omega)])).base (by simp; omega), by
                have b2 : Below w.heap.size w w2 := (((Below.refl _ _).alloc (Nat.le_refl _) _).alloc (by simp) _).trans (B3.out.mono (by simp; omega))
                go_grown⟩
      · have hr := hide (pfirst_3 HN.out (by rw [← HK.out]; exact H2.out) HN2.out h3)
        have hne : ((e2 : Int) != 0) = true := by simp; omega
        have hsl := Hsl.out
        clear h3 hnum2
        go_enter Try.func32, Try.ntmps32
        go_wp2_with (fail)
        refine (get_is A n c _ l K m 0 _ (HL.out.below ((Below.refl _ _).alloc hB _)) (by omega) HN.out).mono ?_
        rintro e w1 ⟨rfl, rfl⟩
        go_wp2_with (fail)
        refine (get_is A' (n - m) (c - m) _ (l.drop m) V z e2 _ (HL2.out.below ((Below.refl _ _).alloc hB _)) (by omega) HN2.out).mono ?_
        rintro e w1 ⟨rfl, rfl⟩
        go_wp2
        exact bodyPost_ret (v := .tuple #[.agg #[.int .i64 0, .bool false, .int .u64 0, .slice none 0 0], .int .i64 0, .int .i64 e2]) (by simp [results, Try.results32, go_sem]) rfl (firstIs_err hr.out (((Below.refl _ _).alloc (Nat.le_refl _) _)))
  · have hr := hide (pfirst_1 HN.out h1)
    have hne : ((e1 : Int) != 0) = true := by simp; omega
    clear h1 hnum
    go_enter Try.func32, Try.ntmps32
    go_wp2_with (fail)
    refine (get_is A n c _ l K m e1 _ (HL.out.below ((Below.refl _ _).alloc hB _)) (by omega) HN.out).mono ?_
    rintro e w1 ⟨rfl, rfl⟩
    go_wp2
    exact bodyPost_ret (v := .tuple #[.agg #[.int .i64 0, .bool false, .int .u64 0, .slice none 0 0], .int .i64 0, .int .i64 e1]) (by simp [results, Try.results32, go_sem]) rfl (firstIs_err hr.out (((Below.refl _ _).alloc (Nat.le_refl _) _)))
end Go.Proofs.Ytjfcakpglbpeaaa
