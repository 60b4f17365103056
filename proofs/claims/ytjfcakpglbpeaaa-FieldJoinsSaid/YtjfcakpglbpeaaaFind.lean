/- The walks over field.Find and droverref01.Find: the last field of a number. -/
import Derived.Test.YtjfcakpglbpeaaaApartKit
import Derived.Handy
namespace Go.Proofs.Ytjfcakpglbpeaaa
open Go.RowKit

/-- The last one of that number. -/
def pfind (ps : List PF) (m : Int) : PF × Bool := match ps.reverse.find? (fun p => p.1 == m) with
  | some p => (p, true)
  | none => (pz, false)
theorem pfind_nil (m : Int) : pfind [] m = (pz, false) := rfl
theorem pfind_snoc (ps : List PF) (p : PF) (m : Int) : pfind (ps ++ [p]) m = if p.1 = m then (p, true) else pfind ps m := by
  unfold pfind
  rw [List.reverse_append]
  by_cases h : p.1 = m
  · simp [h]
  · have : (p.1 == m) = false := by simpa using h
    simp [this, h]
theorem pfind_append (ps qs : List PF) (m : Int) : pfind (ps ++ qs) m = if (pfind qs m).2 then pfind qs m else pfind ps m := by
  unfold pfind
  rw [List.reverse_append, List.find?_append]
  cases h : qs.reverse.find? (fun p => p.1 == m) <;> simp

/-- Where the loop stands: what lies behind the first k has not the number. -/
def FindAt (fs : List Fd) (m : Int) (k : Nat) : Prop := pfind (fs.map Fd.pf) m = pfind ((fs.take k).map Fd.pf) m
theorem findAt_start {fs : List Fd} {n : Nat} (h : fs.length = n) (m : Int) : FindAt fs m n := by
  unfold FindAt
  rw [List.take_of_length_le (by omega)]
theorem FindAt.hit {fs : List Fd} {m : Int} {k : Nat} {f : Fd} (h : FindAt fs m (k + 1)) (ht : fs.take (k + 1) = fs.take k ++ [f]) (hm : f.num = m) : pfind (fs.map Fd.pf) m = (f.pf, true) := by
  unfold FindAt at h
  rw [h, ht, List.map_append, List.map_cons, List.map_nil, pfind_snoc, if_pos (by exact hm)]
theorem FindAt.miss {fs : List Fd} {m : Int} {k : Nat} {f : Fd} (h : FindAt fs m (k + 1)) (ht : fs.take (k + 1) = fs.take k ++ [f]) (hm : f.num ≠ m) : FindAt fs m k := by
  unfold FindAt at h ⊢
  rw [h, ht, List.map_append, List.map_cons, List.map_nil, pfind_snoc, if_neg (by exact hm)]
theorem FindAt.none {fs : List Fd} {m : Int} (h : FindAt fs m 0) : pfind (fs.map Fd.pf) m = (pz, false) := h

/-- What Find tells. -/
def FindIs (w : World) (q : PF × Bool) (e : Ending) (w' : World) : Prop :=
  ∃ f : Fd, e = .returned (.tuple #[.agg #[.int .i64 f.num, .bool f.text, .int .u64 f.v, .slice f.a f.n f.c], .bool q.2]) ∧ f.pf = q.1 ∧ f.ok w' w'.heap.size ∧ Later w w'

theorem fz_ok (w : World) (B : Nat) : fz.ok w B := ⟨⟨by decide, by decide⟩, by decide, Nat.le_refl _, Holds.nil_ _ _⟩
theorem Fd.ok.later {w w' : World} {f : Fd} (h : f.ok w w.heap.size) (hl : Later w w') : f.ok w' w'.heap.size := ⟨h.1, h.2.1, h.2.2.1, h.2.2.2.later hl⟩

set_option maxHeartbeats 1000000 in
set_option maxRecDepth 100000 in
theorem find_any (A : Option Addr) (n c : Nat) (fs : List Fd) (m : Int) (w : World) (hf : FHolds w w.heap.size A n fs) (hn : n ≤ 1099511627000) (hfc : ∀ f ∈ fs, f.n ≤ 1099511627000) :
    Calls Try.prog 21 #[.slice A n c, .int .i64 m] w (FindIs w (pfind (fs.map Fd.pf) m)) := by
  have HF := hide hf
  have HFC := hide hfc
  have H0 := hide (findAt_start hf.1 m)
  clear hf hfc
  go_enter Try.func21, Try.ntmps21
  go_wp2
  go_loopw [6] (fun i wr => ∃ k : Nat, k ≤ n ∧ i = .int .i64 ((k : Int) - 1) ∧ FindAt fs m k ∧ Below (w.heap.size + 1) (w.alloc (.cells #[.int .i64 0, .bool false, .int .u64 0, .slice none 0 0] 34)) wr) (fun i _ => ((intOf i) + 1).toNat)
  case atStart => exact ⟨n, by omega, by rfl, H0.out, Below.refl _ _⟩
  case round =>
    obtain ⟨k, hk, rfl, hat, hbel⟩ := hrel
    have hbel' := hbel
    rw [show w.heap.size + 1 = (w.alloc (.cells #[.int .i64 0, .bool false, .int .u64 0, .slice none 0 0] 34)).heap.size by simp] at hbel'
    have Hat := hide hat
    have Hl := hide (show Later w wr from (Later.alloc w _).trans hbel')
    have hsz := hbel'.size
    simp at hsz
    have Hb := hide hbel'
    clear hat hbel hbel' H0
    by_cases hlt : 0 < k
    · obtain ⟨j, rfl⟩ : ∃ j, k = j + 1 := ⟨k - 1, by omega⟩
      have ej : ((j + 1 : Nat) : Int) - 1 = (j : Int) := by omega
      rw [ej]
      obtain ⟨f, b, off, hfk, hok, rfl, hbB, q0, q1, q2, q3, htk⟩ := (HF.out.later Hl.out).at_ (k := j) (by omega)
      have hfn : f.n ≤ 1099511627000 := HFC.out f (List.mem_of_getElem? hfk)
      obtain ⟨num, text, v, a, fn, fc, fb⟩ := f
      simp only at q0 q1 q2 q3 hfn
      have Htk := hide htk
      have Hok := hide hok
      clear htk hfk hok ej
      by_cases hm : num = m
      · have hm2 : (num == m) = true := by simpa using hm
        have Hm := hide (Hat.out.hit Htk.out hm)
        clear hm
        have hB1 : Hid (Box (wr.alloc (.cells #[.int .i64 num, .bool text, .int .u64 v, .slice a fn fc] 34)) wr.heap.size 34 (.int .i64 num) (.bool text) (.int .u64 v) (.slice a fn fc)) := Box.new _ _ _ _ _ _
        go_wp2_with (fail)
        refine (clone_any a fn fc _ fb _ (Hok.out.2.2.2.later (Later.alloc _ _)) (Nat.le_refl _) hfn).mono ?_
        rintro e w2 ⟨A3, n3, c3, rfl, o3, hh3, hc3, b3⟩
        have O3 := hide o3
        have B3 := hide b3
        obtain ⟨hc, hf⟩ := bcell b3
        have s3 := b3.size
        simp at s3
        have hz : wr.heap.size < w2.heap.size := by omega
        have hz0 : w.heap.size < w2.heap.size := by omega
        have hne : w.heap.size ≠ wr.heap.size := by omega
        have b4 := (Hb.out.mono (Nat.le_refl _)).trans (((Below.refl (w.alloc (.cells #[.int .i64 0, .bool false, .int .u64 0, .slice none 0 0] 34)).heap.size wr).alloc (by simp; omega) (.cells #[.int .i64 num, .bool text, .int .u64 v, .slice a fn fc] 34)).trans (b3.mono (by simp; omega)))
        have r0 : w2.cell? ⟨w.heap.size, 0, none⟩ = some (.int .i64 0) := by rw [b4.cell (p := ⟨w.heap.size, 0, none⟩) (by simp)]; go_simp
        have r1 : w2.cell? ⟨w.heap.size, 1, none⟩ = some (.bool false) := by rw [b4.cell (p := ⟨w.heap.size, 1, none⟩) (by simp)]; go_simp
        have r2 : w2.cell? ⟨w.heap.size, 2, none⟩ = some (.int .u64 0) := by rw [b4.cell (p := ⟨w.heap.size, 2, none⟩) (by simp)]; go_simp
        have r3 : w2.cell? ⟨w.heap.size, 3, none⟩ = some (.slice none 0 0) := by rw [b4.cell (p := ⟨w.heap.size, 3, none⟩) (by simp)]; go_simp
        have fr : ∀ o, w2.frozen? ⟨w.heap.size, o, none⟩ = false := fun o => by rw [b4.frozen (p := ⟨w.heap.size, o, none⟩) (by simp)]; go_simp
        have B4 := hide b4
        clear o3 hh3 b3 b4
        go_wp2
        refine bodyPost_ret (v := .tuple #[.agg #[.int .i64 num, .bool text, .int .u64 v, .slice A3 n3 c3], .bool true]) (by simp [results, Try.results21, go_sem, r0, r1, r2, r3]) rfl ⟨⟨num, text, v, A3, n3, c3, fb⟩, by rw [Hm.out], by rw [Hm.out]; rfl, ?_, ?_⟩
        · have key : ∀ w' : World, (∀ g, wr.heap.size + 1 ≤ g → w'.heap[g]? = w2.heap[g]?) → Fd.ok w' w'.heap.size ⟨num, text, v, A3, n3, c3, fb⟩ := fun w' hk => by
            have ho := own_same (base := wr.heap.size + 1) (by simpa using O3.out) hk
            exact ⟨Hok.out.1, Hok.out.2.1, (own_holds ho Hok.out.2.2.2.2.1).1, (own_holds ho Hok.out.2.2.2.2.1).2⟩
          refine key _ fun g hg => ?_
          repeat rw [Below.heap_setCell _ _ _ _ (by simp; omega)]
        · have b5 : Below w.heap.size w w2 := (Later.alloc w _).trans (B4.out.mono (by simp))
          show Below _ _ _
          go_grown
      · have hm2 : (num == m) = false := by simpa using hm
        have Hm := hide (Hat.out.miss Htk.out hm)
        clear hm
        go_wp2
        go_roundw
        case rel => exact ⟨j, by omega, by first | rfl | go_num, Hm.out, (Hb.out.mono (by simp)).alloc (by omega) _⟩
        case measure => simp [intOf]
    · obtain rfl : k = 0 := by omega
      have Hn := hide Hat.out.none
      have r0 : wr.cell? ⟨w.heap.size, 0, none⟩ = some (.int .i64 0) := by rw [Hb.out.cell (p := ⟨w.heap.size, 0, none⟩) (by simp)]; go_simp
      have r1 : wr.cell? ⟨w.heap.size, 1, none⟩ = some (.bool false) := by rw [Hb.out.cell (p := ⟨w.heap.size, 1, none⟩) (by simp)]; go_simp
      have r2 : wr.cell? ⟨w.heap.size, 2, none⟩ = some (.int .u64 0) := by rw [Hb.out.cell (p := ⟨w.heap.size, 2, none⟩) (by simp)]; go_simp
      have r3 : wr.cell? ⟨w.heap.size, 3, none⟩ = some (.slice none 0 0) := by rw [Hb.out.cell (p := ⟨w.heap.size, 3, none⟩) (by simp)]; go_simp
      have fr : ∀ o, wr.frozen? ⟨w.heap.size, o, none⟩ = false := fun o => by rw [Hb.out.frozen (p := ⟨w.heap.size, o, none⟩) (by simp)]; go_simp
      go_wp2
      refine bodyPost_ret (v := .tuple #[.agg #[.int .i64 0, .bool false, .int .u64 0, .slice none 0 0], .bool false]) (by simp [results, Try.results21, go_sem, r0, r1, r2, r3]) rfl ⟨fz, by rw [Hn.out]; rfl, by rw [Hn.out]; rfl, fz_ok _ _, ?_⟩
      have b5 : Below w.heap.size w wr := Hl.out
      show Below _ _ _
      go_grown
end Go.Proofs.Ytjfcakpglbpeaaa
