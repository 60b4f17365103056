/- The walks over droverlaw01.light and droverlaw01.plain; rows of fields that the call itself made. -/
import Derived.Test.YtjfcakpglbpeaaaRec
import Derived.Test.YtjfcakpglbpeaaaReadMath
import Derived.Test.YtjfcakpglbpeaaaRows
import Derived.WalkLawsBesides
namespace Go.Proofs.Ytjfcakpglbpeaaa
open Go.RowKit

/-- Not too many fields, with bytes not too long. -/
def lightB (n : Nat) (fs : List Fd) : Bool := decide (n ≤ 200) && fs.all fun f => decide (f.n ≤ 2000)
theorem lightB_spec {n : Nat} {fs : List Fd} (h : lightB n fs = true) : n ≤ 200 ∧ ∀ f ∈ fs, f.n ≤ 2000 := by
  unfold lightB at h
  simpa using h
theorem light_room {n : Nat} {fs : List Fd} (hl : fs.length = n) (h : lightB n fs = true) : room fs ≤ 404000 := by
  obtain ⟨h1, h2⟩ := lightB_spec h
  have : ∀ (l : List Fd), (∀ f ∈ l, f.n ≤ 2000) → room l ≤ 2020 * l.length := by
    intro l
    induction l with
    | nil => simp [room]
    | cons f r ih =>
      intro hl
      have := ih fun g hg => hl g (by simp [hg])
      have := hl f (by simp)
      simp only [room, List.map_cons, List.sum_cons, List.length_cons] at *
      omega
  have := this fs h2
  omega

def lightAt (fs : List Fd) (k : Nat) : Prop := (fs.take k).all (fun f => decide (f.n ≤ 2000)) = true
theorem lightAt_next {fs : List Fd} {k : Nat} {f : Fd} (h : lightAt fs k) (ht : fs.take (k + 1) = fs.take k ++ [f]) (hf : f.n ≤ 2000) : lightAt fs (k + 1) := by
  unfold lightAt at h ⊢
  rw [ht, List.all_append, h]
  simpa using hf
theorem light_no {n : Nat} {fs : List Fd} {k : Nat} {f : Fd} (hk : fs[k]? = some f) (hf : 2000 < f.n) : false = lightB n fs := by
  have hm : f ∈ fs := List.mem_of_getElem? hk
  unfold lightB
  have : (fs.all fun f => decide (f.n ≤ 2000)) = false := by
    rw [List.all_eq_false]
    exact ⟨f, hm, by simpa using hf⟩
  rw [this]
  simp
theorem light_yes {n : Nat} {fs : List Fd} {k : Nat} (h : lightAt fs k) (hk : fs.length ≤ k) (hn : n ≤ 200) : true = lightB n fs := by
  unfold lightAt at h
  rw [List.take_of_length_le hk] at h
  unfold lightB
  rw [h]
  simpa using hn

set_option maxHeartbeats 400000 in
theorem light_any (A : Option Addr) (n c : Nat) (fs : List Fd) (w : World) (hf : FHolds w w.heap.size A n fs) (hn : n ≤ maxLen) (hfc : ∀ f ∈ fs, f.n ≤ maxLen) :
    Calls Try.prog 18 #[.slice A n c] w fun e w' => e = .returned (.bool (lightB n fs)) ∧ Below w.heap.size w w' := by
  unfold maxLen at hn
  have HF := hide hf
  have HFC := hide hfc
  clear hf hfc
  by_cases hlong : 200 < n
  · go_enter Try.func18, Try.ntmps18
    go_wp2
    go_ret
    exact ⟨ret_bool (by unfold lightB; have : ¬ n ≤ 200 := by omega
                        simp [this]), Below.refl _ _⟩
  · go_enter Try.func18, Try.ntmps18
    go_wp2
    go_loopw [10] (fun i wr => ∃ k : Nat, k ≤ n ∧ i = .int .i64 k ∧ lightAt fs k ∧ Below w.heap.size w wr) (fun i _ => n - (intOf i).toNat)
    case atStart => exact ⟨0, by omega, rfl, by simp [lightAt], Below.refl _ _⟩
    case round =>
      obtain ⟨k, hk, rfl, hat, hbel⟩ := hrel
      by_cases hlt : k < n
      · obtain ⟨f, b, off, hfk, hok, rfl, hbB, c0, c1, c2, c3, htk⟩ := (HF.out.below hbel).at_ hlt
        have hfn : f.n ≤ maxLen := HFC.out f (List.mem_of_getElem? hfk)
        obtain ⟨num, text, v, a, fn, fc, fb⟩ := f
        simp only at c0 c1 c2 c3 hfn
        unfold maxLen at hfn
        have Htk := hide htk
        have Hfk := hide hfk
        have Hat := hide hat
        have hsz := hbel.size
        clear htk hok hfk hat
        by_cases h2 : 2000 < fn
        · go_wp2
          go_ret
          exact ⟨ret_bool (light_no Hfk.out h2), hbel.alloc hsz _⟩
        · go_wp2
          go_roundw
          case rel => exact ⟨k + 1, by omega, by go_num, lightAt_next Hat.out Htk.out (by simp only; omega), hbel.alloc hsz _⟩
          case measure => simp [intOf]; omega
      · go_wp2
        go_ret
        exact ⟨ret_bool (light_yes hat (by have := HF.out.1; omega) (by omega)), hbel⟩

/-- The cells of fields, one behind the other. -/
def fcells (fs : List Fd) : List Value := (fs.map fun f => f.cells.toList).flatten
theorem fcells_snoc (fs : List Fd) (f : Fd) : fcells (fs ++ [f]) = fcells fs ++ [.int .i64 f.num, .bool f.text, .int .u64 f.v, .slice f.a f.n f.c] := by simp [fcells, Fd.cells]
theorem fcells_len : ∀ (fs : List Fd), (fcells fs).length = fs.length * 4
  | [] => rfl
  | f :: r => by
    have := fcells_len r
    simp only [fcells, Fd.cells, List.map_cons, List.flatten_cons, List.length_append, List.length_cons, List.length_nil] at *
    omega
theorem fcells_get : ∀ (fs : List Fd) (i j : Nat) (f : Fd) (u : Value), fs[i]? = some f → f.cells[j]? = some u → (fcells fs)[i * 4 + j]? = some u
  | [], i, j, f, u, h, _ => by simp at h
  | g :: r, 0, j, f, u, h, hu => by
    simp at h
    subst h
    have hj : j < 4 := by
      have := (Array.getElem?_eq_some_iff.1 hu).1
      simpa [Fd.cells] using this
    have e : fcells (g :: r) = g.cells.toList ++ fcells r := by simp [fcells]
    rw [e, Nat.zero_mul, Nat.zero_add, List.getElem?_append_left (by simpa [Fd.cells] using hj)]
    simpa using hu
  | g :: r, i + 1, j, f, u, h, hu => by
    simp at h
    have ih := fcells_get r i j f u h hu
    have e : fcells (g :: r) = g.cells.toList ++ fcells r := by simp [fcells]
    have e4 : g.cells.toList.length = 4 := by simp [Fd.cells]
    rw [e, List.getElem?_append_right (by rw [e4]; omega), e4, show (i + 1) * 4 + j - 4 = i * 4 + j from by omega]
    exact ih

/-- A row of the call's own holds fields. -/
theorem FHolds.of_own {w : World} {base e n : Nat} {v : Value} {fs : List Fd} (h : w.ownsRow base e 4 v n (fcells fs)) (hok : ∀ f ∈ fs, f.ok w w.heap.size) :
    ∃ A c, v = .slice A n c ∧ n ≤ c ∧ FHolds w w.heap.size A n fs := by
  have hl : fs.length = n := by
    have := h.1
    rw [fcells_len] at this
    omega
  rcases h.2 with ⟨rfl, rfl⟩ | ⟨g, cap, cur, rfl, _, hg, hnc, _, hs, ht⟩
  · exact ⟨none, 0, rfl, Nat.le_refl _, hl, hok, fun h => by omega⟩
  · refine ⟨some ⟨g, 0, none⟩, cap, rfl, hnc, hl, hok, fun hn => ⟨g, 0, rfl, (Array.getElem?_eq_some_iff.1 hg).1, fun i f hi j u hu => ?_⟩⟩
    have h1 := fcells_get fs i j f u hi hu
    have := h.cells (g := g) rfl (i * 4 + j) u h1
    rw [Addr.add_lit] at this
    simpa using this
theorem fcells_cell (fs : List Fd) : ∀ u ∈ fcells fs, u.oneCell' = true := by
  intro u hu
  obtain ⟨y, hy, huy⟩ := List.mem_flatten.1 hu
  obtain ⟨f, _, rfl⟩ := List.mem_map.1 hy
  simp [Fd.cells] at huy
  rcases huy with rfl | rfl | rfl | rfl <;> rfl
end Go.Proofs.Ytjfcakpglbpeaaa
