/- Texts merged: PartJ, OrderR, OrderS, OrderV, OrderV2, Token, LitW, AppendAt, Tokens, RefB, RefT, TokA, CutRow, Want, Chain. -/
import Derived.Test.YtdahnjcoflifbaaDoorBaseD1
import Derived.Maps.AppendAt
import Derived.Shelf.Strconv.Clone
import Derived.Laws.Slices
/- The library's IndexFunc over the parts; numbers out of digits. -/
namespace Go.Proofs.YtdahnjcoflifbaaDoor
open Go.RowKit

theorem sorts_kind (c : Nat) (h : c < 256) : (sorts.findIdx? (fun s => s.2.1 c)) = if kindB c = 0 then none else some (kindB c - 1) := by
  have : ∀ c : Fin 256, (sorts.findIdx? (fun s => s.2.1 c.1)) = if kindB c.1 = 0 then none else some (kindB c.1 - 1) := by decide +kernel
  exact this ⟨c, h⟩
theorem find_map (l : List PartD) (c : Nat) : (l.findIdx? (fun p => p.fb c)) = ((l.map (fun p => (p.k, p.fb, p.fg))).findIdx? (fun s => s.2.1 c)) := by
  induction l with
  | nil => rfl
  | cons p l ih => rw [List.map_cons, List.findIdx?_cons, List.findIdx?_cons, ih]
theorem find_hit {l : List PartD} {c q : Nat} {p : PartD} (h0 : (l.take q).any (fun p => p.fb c) = false) (hp : l[q]? = some p) (h1 : p.fb c = true) : l.findIdx? (fun p => p.fb c) = some q := by
  induction l generalizing q with
  | nil => simp at hp
  | cons x l ih =>
    cases q with
    | zero =>
      simp at hp
      subst hp
      rw [List.findIdx?_cons, if_pos h1]
    | succ q =>
      simp only [List.take_succ_cons, List.any_cons, Bool.or_eq_false_iff] at h0
      simp at hp
      rw [List.findIdx?_cons, if_neg (by rw [h0.1]; simp), ih h0.2 hp]
      rfl
theorem find_miss {l : List PartD} {c : Nat} (h0 : l.any (fun p => p.fb c) = false) : l.findIdx? (fun p => p.fb c) = none := by
  induction l with
  | nil => rfl
  | cons x l ih =>
    simp only [List.any_cons, Bool.or_eq_false_iff] at h0
    rw [List.findIdx?_cons, if_neg (by rw [h0.1]; simp), ih h0.2]
    rfl

theorem take_end {r : List UInt8} {f : Nat → Bool} {q : Nat} {c : UInt8} (h : ∀ y ∈ r.take q, f y.toNat = true) (hc : r[q]? = some c) (hf : f c.toNat = false) : (r.takeWhile (fun c => f c.toNat)).length = q := by
  induction r generalizing q with
  | nil => simp at hc
  | cons a r ih =>
    cases q with
    | zero =>
      simp at hc
      subst hc
      simp [hf]
    | succ q =>
      simp at hc
      have h0 := h a (by simp)
      rw [List.takeWhile_cons_of_pos (by simpa using h0), List.length_cons, ih (fun y hy => h y (by simp [hy])) hc]
theorem take_whole {r : List UInt8} {f : Nat → Bool} (h : ∀ y ∈ r, f y.toNat = true) : (r.takeWhile (fun c => f c.toNat)).length = r.length := by
  induction r with
  | nil => rfl
  | cons a r ih =>
    rw [List.takeWhile_cons_of_pos (by simpa using h a (by simp)), List.length_cons, ih (fun y hy => h y (by simp [hy])), List.length_cons]

section
variable {w : World}
set_option maxHeartbeats 2000000 in
set_option maxRecDepth 100000 in
theorem index_parts {A : Option Addr} {n cap b1 b2 q0 : Nat} {s : ByteArray} {c : UInt8} {l : List PartD} (h1 : w.cell? ⟨b1, 0, none⟩ = some (.string s)) (h2 : w.cell? ⟨b2, 0, none⟩ = some (.int .i64 (q0 : Int))) (hq0 : q0 < s.size) (hc : s.data.toList[q0]? = some c) (h : PartsAt w (.slice A n cap) l) (hn : n = l.length) (hs : n ≤ 100) :
    Calls Tryd.prog 39 #[.slice A n cap, .func (.func 40) #[] #[.pointer (some ⟨b1, 0, none⟩), .pointer (some ⟨b2, 0, none⟩)]] w fun e w' => e = .returned (.int .i64 (match l.findIdx? (fun p => p.fb c.toNat) with | none => -1 | some j => (j : Int))) ∧ Later w w' := by
  have H := hide h
  have HN := hide hn
  have H1 := hide h1
  have H2 := hide h2
  have HQ := hide hq0
  have HC := hide hc
  have eg : ∀ (args : Array Value) (w : World), (callFunc 40 args).run Tryd.prog w = .ok (.enter 40 args) w := enters_begins
  clear h hn h1 h2 hq0 hc
  obtain ⟨r, hr⟩ : ∃ r, l.findIdx? (fun p => p.fb c.toNat) = r := ⟨_, rfl⟩
  rw [hr]
  have HR := hide hr
  clear hr
  go_enter Tryd.func39, Tryd.ntmps39
  go_wp2
  go_loopw [8] (fun i wr => ∃ q : Nat, q ≤ n ∧ i = .int .i64 (q : Int) ∧ (l.take q).any (fun p => p.fb c.toNat) = false ∧ Later w wr) (fun i _ => n - (intOf i).toNat)
  case atStart => exact ⟨0, by omega, rfl, by simp, Later.refl _⟩
  case round =>
    obtain ⟨q, hq, rfl, hall, hlat⟩ := hrel
    have HA := hide hall
    have HL := hide hlat
    clear hall hlat
    by_cases hlt : q < n
    · obtain ⟨k, off, p, rfl, hnc, hp, hkb, hrow, hset, _⟩ := (H.out.later HL.out).at_ hlt
      have HP := hide hp
      have C := hide (begins_any wr p s c q0 b1 b2 (later_cell HL.out H1.out) (later_cell HL.out H2.out) hset HQ.out HC.out)
      obtain ⟨t, ht⟩ : ∃ t, p.fb c.toNat = t := ⟨_, rfl⟩
      rw [ht] at C
      have HT := hide ht
      obtain ⟨c0, c1, c2⟩ := range3 hrow
      unfold PartD.cells at C
      unfold SetV.val at c1 c2 C
      clear hp ht hset hrow
      go_wp2_with (fail)
      refine C.out.mono ?_
      rintro e w1 ⟨rfl, hl⟩
      have HL1 := hide (HL.out.trans hl)
      clear hl C c0 c1 c2
      cases t with
      | false =>
        go_wp2
        go_roundw
        case rel =>
          refine ⟨q + 1, by omega, by go_num, ?_, HL1.out⟩
          rw [List.take_add_one, HP.out, List.any_append, HA.out]
          simp [HT.out]
        case measure => simp [intOf]; omega
      | true =>
        obtain rfl : some q = r := by rw [← HR.out]; exact (find_hit HA.out HP.out HT.out).symm
        go_wp2
        go_ret
        exact ⟨rfl, HL1.out⟩
    · have hall : l.any (fun p => p.fb c.toNat) = false := by
        have h1 := HA.out
        rwa [List.take_of_length_le (by have := HN.out; omega)] at h1
      obtain rfl : none = r := by rw [← HR.out]; exact (find_miss hall).symm
      clear hall
      go_wp2
      go_ret
      exact ⟨rfl, HL.out⟩
/-- Which of the parts a byte begins. -/
theorem index_sorts {A : Option Addr} {n cap b1 b2 q0 : Nat} {s : ByteArray} {c : UInt8} {l : List PartD} (h1 : w.cell? ⟨b1, 0, none⟩ = some (.string s)) (h2 : w.cell? ⟨b2, 0, none⟩ = some (.int .i64 (q0 : Int))) (hq0 : q0 < s.size) (hc : s.data.toList[q0]? = some c) (h : PartsAt w (.slice A n cap) l) (hs : l.map (fun p => (p.k, p.fb, p.fg)) = sorts) (hn : n = 5) :
    Calls Tryd.prog 39 #[.slice A n cap, .func (.func 40) #[] #[.pointer (some ⟨b1, 0, none⟩), .pointer (some ⟨b2, 0, none⟩)]] w fun e w' => e = .returned (.int .i64 ((kindB c.toNat : Int) - 1)) ∧ Later w w' := by
  have hl : l.length = 5 := by have := congrArg List.length hs; simpa [sorts] using this
  refine (index_parts h1 h2 hq0 hc h (by omega) (by omega)).mono fun e w' ⟨he, hl⟩ => ⟨?_, hl⟩
  rw [he, find_map, hs, sorts_kind _ c.toNat_lt]
  split
  · rename_i hk
    split at hk
    · rename_i h0
      rw [h0]
      rfl
    · cases hk
  · rename_i j hk
    split at hk
    · cases hk
    · injection hk with hk
      refine ret_int ?_
      omega

def valStep (n : Nat) (c : UInt8) : Nat := min 1000000 (10 * n + (c.toNat - 48))
theorem valF_fold (l : List UInt8) : valF l = l.foldl valStep 0 := rfl
set_option maxHeartbeats 2000000 in
set_option maxRecDepth 100000 in
theorem value_any (l : List UInt8) (hl : ∀ c ∈ l, digitB c.toNat = true) (hn : l.length ≤ 3000) :
    Calls Tryd.prog 63 #[.string ⟨l.toArray⟩] w fun e w' => e = .returned (.int .i64 (valF l : Int)) ∧ Later w w' := by
  have HD := hide hl
  clear hl
  have hsize : (⟨l.toArray⟩ : ByteArray).size = l.length := by simp [ByteArray.size]
  obtain ⟨s, hs⟩ : ∃ s : ByteArray, (⟨l.toArray⟩ : ByteArray) = s := ⟨_, rfl⟩
  rw [hs] at hsize ⊢
  have hget : ∀ (q : Nat) (h : q < s.size), ∃ c ∈ l, l[q]? = some c ∧ (s[q]'h).toNat = c.toNat := fun q h => by
    subst hs
    obtain ⟨c, h1, h2, _⟩ := byte_at _ q h
    exact ⟨c, List.mem_of_getElem? (by simpa using h1), by simpa using h1, h2⟩
  have HS := hide hsize
  have HG := hide hget
  clear hsize hget hs
  go_enter Tryd.func63, Tryd.ntmps63
  go_wp2
  go_loopw [3] (fun v wr => ∃ (pos n : Nat), v = .int .i64 (n : Int) ∧ pos ≤ l.length ∧ n ≤ 1000000 ∧ (l.drop pos).foldl valStep n = valF l ∧ wr.heap[w.heap.size]? = some (.stringIter s pos) ∧ Later w wr) (fun _ wr => s.size - wr.iterPos w.heap.size)
  case atStart => exact ⟨0, 0, rfl, by omega, by omega, rfl, World.iter_heap w s 0, (Below.refl _ w).alloc (Nat.le_refl _) _⟩
  case round =>
    obtain ⟨pos, n, rfl, hpl, hn1, hfold, hit, hbw⟩ := hrel
    have HF := hide hfold
    have hsz : w.heap.size < wr.heap.size := (Array.getElem?_eq_some_iff.1 hit).1
    clear hfold
    by_cases hp : pos < s.size
    · obtain ⟨c, hcm, hcl, hx⟩ := HG.out pos hp
      have hdig := HD.out c hcm
      simp only [digitB, Bool.and_eq_true, decide_eq_true_eq] at hdig
      have hnx : ∀ ty, (Instr.next (.pointer (some ⟨w.heap.size, 0, none⟩)) true ty).run Tryd.prog wr = _ := fun ty => Lib.run_next_ascii_at wr w.heap.size s pos ty hit hp (by omega)
      have HC := hide hcl
      have HIT := hide (Lib.iterAt_heap wr w.heap.size s pos (pos + 1) hit)
      have HIT0 := hide hit
      have HBW := hide (Lib.below_iterAt hbw (Nat.le_refl _) s (pos + 1))
      obtain ⟨x, hxx⟩ : ∃ x : Nat, c.toNat = x + 48 := ⟨c.toNat - 48, by omega⟩
      have HX := hide hxx
      rw [hxx] at hx
      have hx9 : x ≤ 9 := by omega
      simp only [hx] at hnx
      clear hcl hcm hit hbw hxx hx hdig
      go_wp2
      have hv : valStep n c = min 1000000 (10 * n + x) := by
        unfold valStep
        rw [HX.out]
        simp
      have hlen : pos < l.length := by have := HS.out; omega
      refine ⟨⟨pos + 1, valStep n c, ?_, by omega, by rw [hv]; omega, ?_, HIT.out, HBW.out⟩, ?_⟩
      · rw [hv]
        congr 1
        omega
      · rw [← HF.out, List.drop_eq_getElem_cons hlen, List.foldl_cons]
        have : l[pos] = c := by
          have := HC.out
          rw [List.getElem?_eq_getElem hlen] at this
          injection this
        rw [this]
      · simp only [World.iterPos, HIT.out, HIT0.out]
        omega
    · have hnx : ∀ ty, (Instr.next (.pointer (some ⟨w.heap.size, 0, none⟩)) true ty).run Tryd.prog wr = _ := fun ty => Lib.run_next_end_at wr w.heap.size s pos ty hit hp
      have hfin : n = valF l := by
        rw [← HF.out, List.drop_of_length_le (by have := HS.out; omega)]
        rfl
      subst hfin
      go_wp2
      go_ret
      exact ⟨rfl, hbw⟩

/-- A token in memory. -/
def Tok.cells (t : Tok) : List Value := [.int .i64 (t.k : Int), .string ⟨t.s.toArray⟩, .int .i64 (t.n : Int), .int .i64 (t.at_ : Int)]
theorem Tok.one (t : Tok) : ∀ u ∈ t.cells, u.oneCell' = true := by simp [Tok.cells, Value.oneCell']

set_option maxHeartbeats 2000000 in
set_option maxRecDepth 100000 in
theorem length_any (p : PartD) (b : UInt8) (r : List UInt8) (hp : SetAt w p.g p.fg) (hn : r.length ≤ 3000) :
    Calls Tryd.prog 41 #[.agg p.cells.toArray, .string ⟨(b :: r).toArray⟩] w fun e w' => e = .returned (.int .i64 (((r.takeWhile (fun c => p.fg c.toNat)).length + 1 : Nat) : Int)) ∧ Later w w' := by
  have HB : Hid (Later w (w.alloc (.cells p.cells.toArray 85 (0, 0)))) := (Below.refl _ _).alloc (Nat.le_refl _) _
  have d3 : (w.alloc (.cells p.cells.toArray 85 (0, 0))).cell? ⟨w.heap.size, 2, none⟩ = some p.g.val := by
    have := cell_of_row _ w.heap.size 2 _ _ _ (heap_alloc_new w (.cells p.cells.toArray 85 (0, 0)))
    exact this.trans (by simp [PartD.cells])
  have D3 := hide d3
  have HP := hide hp
  have eg := hp.1
  obtain ⟨k, bb, ⟨F, cs⟩, fb, fg⟩ := p
  unfold PartD.cells SetV.val at *
  simp only at *
  obtain ⟨s, hs⟩ : ∃ s : ByteArray, (⟨(b :: r).toArray⟩ : ByteArray) = s := ⟨_, rfl⟩
  have hsize : s.size = r.length + 1 := by rw [← hs]; simp [ByteArray.size]
  have hget : ∀ (q : Nat) (h : q + 1 < s.size), ∃ c, r[q]? = some c ∧ (s[q + 1]'h).toNat = c.toNat ∧ c.toNat < 256 := fun q h => by
    subst hs
    obtain ⟨c, h1, h2, h3⟩ := byte_at _ (q + 1) h
    exact ⟨c, by simpa using h1, h2, h3⟩
  rw [hs]
  have HS := hide hsize
  have HG := hide hget
  clear hp d3 hs hsize hget
  unfold Enters at eg
  go_enter Tryd.func41, Tryd.ntmps41
  go_wp2
  go_loopw [5] (fun v wr => ∃ q : Nat, v = .int .i64 ((q + 1 : Nat) : Int) ∧ q ≤ r.length ∧ (∀ c ∈ r.take q, fg c.toNat = true) ∧ Later (w.alloc (.cells #[.int .i64 (k : Int), .func (.func bb.F) #[] bb.cs, .func (.func F) #[] cs] 85 (0, 0))) wr) (fun v _ => r.length + 1 - (intOf v).toNat)
  case atStart => exact ⟨0, rfl, by omega, by simp, Later.refl _⟩
  case round =>
    obtain ⟨q, rfl, hq, hall, hlat⟩ := hrel
    have HA := hide hall
    have HL := hide hlat
    clear hall hlat
    by_cases hlt : q < r.length
    · obtain ⟨c, hcr, hx, h256⟩ := HG.out q (by have := HS.out; omega)
      obtain ⟨x, hxx⟩ : ∃ x, c.toNat = x := ⟨_, rfl⟩
      rw [hxx] at hx h256
      have d3 := later_cell (HL.out.trans (Later.drew _)) D3.out
      have C := hide ((HP.out.later (HB.out.trans HL.out)).2 wr.drew x (Later.drew _) (by omega))
      have hwr := wrap32 x (by omega)
      have hqs : ((q + 1 : Nat) : Int) < (s.size : Int) := by have := HS.out; omega
      have HC := hide hcr
      have HX := hide hxx
      clear hcr hxx
      simp only at C
      go_wp2_with (fail)
      refine wp_region_L (by kernel_rfl) ?_
      refine wpAnyL_take (i := 0) (d := some 6) (v := ?vaa0) rfl rfl (by kernel_rfl) (by kernel_rfl) (by kernel_rfl) (fun _ _ _ h => h) (by rfl) ?yaa0 ?_
      case yaa0 => (intro w' hw'; go_simp; try (with_reducible rfl))
      simp only [Act.put]; try simp only [List.setIfInBounds_toArray]; try simp only [List.set_cons_zero, List.set_cons_succ]
      refine wpAnyL_take (i := 1) (d := some 7) (v := ?vaa1) rfl rfl (by kernel_rfl) (by kernel_rfl) (by kernel_rfl) (fun _ _ _ h => h) (by rfl) ?yaa1 ?_
      case yaa1 => (intro w' hw'; go_simp; try (with_reducible rfl))
      simp only [Act.put]; try simp only [List.setIfInBounds_toArray]; try simp only [List.set_cons_zero, List.set_cons_succ]
      refine wpAnyL_take (i := 2) (d := some 8) (v := ?vaa2) rfl rfl (by kernel_rfl) (by kernel_rfl) (by kernel_rfl) (fun _ _ _ h => h) (by rfl) ?yaa2 ?_
      case yaa2 => (intro w' hw'; go_simp; try (with_reducible rfl))
      simp only [Act.put]; try simp only [List.setIfInBounds_toArray]; try simp only [List.set_cons_zero, List.set_cons_succ]
      refine wpAnyL_take (i := 3) (d := some 9) (v := .bool true) rfl rfl (by kernel_rfl) (by kernel_rfl) (by kernel_rfl) (fun _ _ _ h => h) (by rfl) ?yaa3 ?_
      case yaa3 => (intro w' hw'; go_simp; try omega)
      simp only [Act.put]; try simp only [List.setIfInBounds_toArray]; try simp only [List.set_cons_zero, List.set_cons_succ]
      refine wpAnyL_take (i := 4) (d := some 10) (v := ?vaa4) rfl rfl (by kernel_rfl) (by kernel_rfl) (by kernel_rfl) (fun _ _ _ h => h) (by rfl) ?yaa4 ?_
      case yaa4 => (intro w' hw'; go_simp; try (with_reducible rfl))
      simp only [Act.put]; try simp only [List.setIfInBounds_toArray]; try simp only [List.set_cons_zero, List.set_cons_succ]
      refine wpAnyL_take (i := 5) (d := some 11) (v := ?vaa5) rfl rfl (by kernel_rfl) (by kernel_rfl) (by kernel_rfl) (fun _ _ _ h => h) (by rfl) ?yaa5 ?_
      case yaa5 => (intro w' hw'; go_simp; try (with_reducible rfl))
      simp only [Act.put]; try simp only [List.setIfInBounds_toArray]; try simp only [List.set_cons_zero, List.set_cons_succ]
      refine wpAnyL_take (i := 6) (d := some 12) (v := ?vaa6) rfl rfl (by kernel_rfl) (by kernel_rfl) (by kernel_rfl) (fun _ _ _ h => h) (by rfl) ?yaa6 ?_
      case yaa6 => (intro w' hw'; have y := later_cell hw' d3; go_simp; try (with_reducible rfl))
      simp only [Act.put]; try simp only [List.setIfInBounds_toArray]; try simp only [List.set_cons_zero, List.set_cons_succ]
      refine wpAnyL_take (i := 7) (d := some 13) (v := ?vaa7) rfl rfl (by kernel_rfl) (by kernel_rfl) (by kernel_rfl) (fun _ _ _ h => h) (by rfl) ?yaa7 ?_
      case yaa7 => (intro w' hw'; go_simp; try (with_reducible rfl))
      simp only [Act.put]; try simp only [List.setIfInBounds_toArray]; try simp only [List.set_cons_zero, List.set_cons_succ]
      refine wpAnyL_take (i := 8) (d := some 14) (v := ?vaa8) rfl rfl (by kernel_rfl) (by kernel_rfl) (by kernel_rfl) (fun _ _ _ h => h) (by rfl) ?yaa8 ?_
      case yaa8 => (intro w' hw'; go_simp; try (with_reducible rfl))
      simp only [Act.put]; try simp only [List.setIfInBounds_toArray]; try simp only [List.set_cons_zero, List.set_cons_succ]
      refine wpAnyL_take (i := 9) (d := some 15) (v := .int .u8 (x : Int)) rfl rfl (by kernel_rfl) (by kernel_rfl) (by kernel_rfl) (fun _ _ _ h => h) (by rfl) ?yaa9 ?_
      case yaa9 => (intro w' hw'; go_simp; try (intro h; exfalso; omega))
      simp only [Act.put]; try simp only [List.setIfInBounds_toArray]; try simp only [List.set_cons_zero, List.set_cons_succ]
      refine wpAnyL_take (i := 10) (d := some 16) (v := ?vaa10) rfl rfl (by kernel_rfl) (by kernel_rfl) (by kernel_rfl) (fun _ _ _ h => h) (by rfl) ?yaa10 ?_
      case yaa10 => (intro w' hw'; go_simp; try (with_reducible rfl))
      simp only [Act.put]; try simp only [List.setIfInBounds_toArray]; try simp only [List.set_cons_zero, List.set_cons_succ]
      refine wpAnyL_only (i := 11) rfl (by kernel_rfl) (by rfl) fun K hK => ?_
      go_simp
      refine C.out.mono ?_
      rintro e w1 ⟨rfl, hl⟩
      have HL1 := hide (HL.out.trans ((Later.drew _).trans hl))
      refine hK.out _ _ hl ?_
      clear hl
      clear hK K
      try (simp only [Act.put]; try simp only [List.setIfInBounds_toArray]; try simp only [List.set_cons_zero, List.set_cons_succ])
      refine wpAnyL_take (i := 12) (d := some 18) (v := ?vaa12) rfl rfl (by kernel_rfl) (by kernel_rfl) (by kernel_rfl) (fun _ _ _ h => h) (by rfl) ?yaa12 ?_
      case yaa12 => (intro w' hw'; go_simp; try (with_reducible rfl))
      simp only [Act.put]; try simp only [List.setIfInBounds_toArray]; try simp only [List.set_cons_zero, List.set_cons_succ]
      refine wpAnyL_done (by kernel_rfl) ?_ _
      cases hf : fg x with
      | true =>
        go_wp2
        go_roundw
        case rel =>
          refine ⟨q + 1, by go_num, by omega, ?_, HL1.out⟩
          intro y hy
          rw [List.take_add_one, HC.out] at hy
          simp only [Option.toList_some, List.mem_append, List.mem_singleton] at hy
          rcases hy with hy | rfl
          · exact HA.out y hy
          · rw [HX.out]; exact hf
        case measure => simp [intOf]; omega
      | false =>
        go_wp2
        go_ret
        refine ⟨ret_int ?_, HB.out.trans HL1.out⟩
        rw [take_end HA.out HC.out (by rw [HX.out]; exact hf)]
        omega
    · have hqs : ¬ ((q + 1 : Nat) : Int) < (s.size : Int) := by have := HS.out; omega
      have hqe : q = r.length := by omega
      go_wp2_with (fail)
      refine wp_region_L (by kernel_rfl) ?_
      refine wpAnyL_take (i := 0) (d := some 6) (v := ?vab0) rfl rfl (by kernel_rfl) (by kernel_rfl) (by kernel_rfl) (fun _ _ _ h => h) (by rfl) ?yab0 ?_
      case yab0 => (intro w' hw'; go_simp; try (with_reducible rfl))
      simp only [Act.put]; try simp only [List.setIfInBounds_toArray]; try simp only [List.set_cons_zero, List.set_cons_succ]
      refine wpAnyL_take (i := 1) (d := some 7) (v := ?vab1) rfl rfl (by kernel_rfl) (by kernel_rfl) (by kernel_rfl) (fun _ _ _ h => h) (by rfl) ?yab1 ?_
      case yab1 => (intro w' hw'; go_simp; try (with_reducible rfl))
      simp only [Act.put]; try simp only [List.setIfInBounds_toArray]; try simp only [List.set_cons_zero, List.set_cons_succ]
      refine wpAnyL_take (i := 2) (d := some 8) (v := ?vab2) rfl rfl (by kernel_rfl) (by kernel_rfl) (by kernel_rfl) (fun _ _ _ h => h) (by rfl) ?yab2 ?_
      case yab2 => (intro w' hw'; go_simp; try (with_reducible rfl))
      simp only [Act.put]; try simp only [List.setIfInBounds_toArray]; try simp only [List.set_cons_zero, List.set_cons_succ]
      refine wpAnyL_take (i := 3) (d := some 9) (v := .bool false) rfl rfl (by kernel_rfl) (by kernel_rfl) (by kernel_rfl) (fun _ _ _ h => h) (by rfl) ?yab3 ?_
      case yab3 => (intro w' hw'; go_simp; try omega)
      simp only [Act.put]; try simp only [List.setIfInBounds_toArray]; try simp only [List.set_cons_zero, List.set_cons_succ]
      refine wpAnyL_take (i := 4) (d := some 10) (v := ?vab4) rfl rfl (by kernel_rfl) (by kernel_rfl) (by kernel_rfl) (fun _ _ _ h => h) (by rfl) ?yab4 ?_
      case yab4 => (intro w' hw'; go_simp; try (with_reducible rfl))
      simp only [Act.put]; try simp only [List.setIfInBounds_toArray]; try simp only [List.set_cons_zero, List.set_cons_succ]
      refine wpAnyL_pass (i := 5) (d := some 11) rfl rfl (by kernel_rfl) (by kernel_rfl) (by kernel_rfl) (fun _ _ _ h => h) (by rfl) ?_
      try (simp only [Act.put]; try simp only [List.setIfInBounds_toArray]; try simp only [List.set_cons_zero, List.set_cons_succ])
      refine wpAnyL_pass (i := 6) (d := some 12) rfl rfl (by kernel_rfl) (by kernel_rfl) (by kernel_rfl) (fun _ _ _ h => h) (by rfl) ?_
      try (simp only [Act.put]; try simp only [List.setIfInBounds_toArray]; try simp only [List.set_cons_zero, List.set_cons_succ])
      refine wpAnyL_pass (i := 7) (d := some 13) rfl rfl (by kernel_rfl) (by kernel_rfl) (by kernel_rfl) (fun _ _ _ h => h) (by rfl) ?_
      try (simp only [Act.put]; try simp only [List.setIfInBounds_toArray]; try simp only [List.set_cons_zero, List.set_cons_succ])
      refine wpAnyL_pass (i := 8) (d := some 14) rfl rfl (by kernel_rfl) (by kernel_rfl) (by kernel_rfl) (fun _ _ _ h => h) (by rfl) ?_
      try (simp only [Act.put]; try simp only [List.setIfInBounds_toArray]; try simp only [List.set_cons_zero, List.set_cons_succ])
      refine wpAnyL_pass (i := 9) (d := some 15) rfl rfl (by kernel_rfl) (by kernel_rfl) (by kernel_rfl) (fun _ _ _ h => h) (by rfl) ?_
      try (simp only [Act.put]; try simp only [List.setIfInBounds_toArray]; try simp only [List.set_cons_zero, List.set_cons_succ])
      refine wpAnyL_pass (i := 10) (d := some 16) rfl rfl (by kernel_rfl) (by kernel_rfl) (by kernel_rfl) (fun _ _ _ h => h) (by rfl) ?_
      try (simp only [Act.put]; try simp only [List.setIfInBounds_toArray]; try simp only [List.set_cons_zero, List.set_cons_succ])
      refine wpAnyL_pass (i := 11) (d := some 17) rfl rfl (by kernel_rfl) (by kernel_rfl) (by kernel_rfl) (fun _ _ _ h => h) (by rfl) ?_
      try (simp only [Act.put]; try simp only [List.setIfInBounds_toArray]; try simp only [List.set_cons_zero, List.set_cons_succ])
      refine wpAnyL_take (i := 12) (d := some 18) (v := ?vab12) rfl rfl (by kernel_rfl) (by kernel_rfl) (by kernel_rfl) (fun _ _ _ h => h) (by rfl) ?yab12 ?_
      case yab12 => (intro w' hw'; go_simp; try (with_reducible rfl))
      simp only [Act.put]; try simp only [List.setIfInBounds_toArray]; try simp only [List.set_cons_zero, List.set_cons_succ]
      refine wpAnyL_done (by kernel_rfl) ?_ _
      go_wp2
      go_ret
      refine ⟨ret_int ?_, HB.out.trans (HL.out.trans (Later.drew _))⟩
      rw [take_whole (by have := HA.out; rwa [hqe, List.take_length] at this)]
      omega
end
end Go.Proofs.YtdahnjcoflifbaaDoor
/- A region whose order is open, of calls that turn but one part of memory beside operations that read another: as text Order, over whatever relation of worlds. -/
namespace Go.Proofs.YtdahnjcoflifbaaDoor
open Go.RowKit

/-- A relation of worlds that goes on. -/
def Pre (R : World → World → Prop) : Prop := (∀ w, R w w) ∧ ∀ {a b c : World}, R a b → R b c → R a c
theorem pre_grown (r : Option Nat) : Pre (fun a b => a.grownBy b r) := ⟨fun w => World.grownBy.refl w r, fun h k => h.trans k⟩

section
variable {P : Program} {ops : Array Oper} {Q : Exit → Act → World → Prop} {md : Region.Mode} {R : World → World → Prop}

/-- Whatever order is picked from here on, and behind each operation the world is a later one. -/
def wpAnyR (R : World → World → Prop) (P : Program) (md : Region.Mode) (ops : Array Oper) (Q : Exit → Act → World → Prop) : Nat → Array Bool → Act → World → Prop
  | 0, listed, a, w => Region.ready md ops listed = [] ∧ Q .normal a w
  | fuel + 1, listed, a, w =>
    (Region.ready md ops listed = [] → Q .normal a w) ∧
    ∀ i ∈ Region.ready md ops listed, wpOp P ops Q i (fun a' w' => R w w' ∧ wpAnyR R P md ops Q fuel (listed.setIfInBounds i true) a' w') a w

theorem wpAny_of_R : ∀ (fuel : Nat) (listed : Array Bool) (a : Act) (w : World), wpAnyR R P md ops Q fuel listed a w → wpAny P md ops Q fuel listed a w
  | 0, _, _, _, h => h
  | fuel + 1, _, _, _, h => ⟨h.1, fun i hi => wpOp_mono (fun a' w' h' => wpAny_of_R fuel _ a' w' h'.2) (h.2 i hi)⟩

/-- What yields its value in all later worlds does so in those that are later than a later one. -/
theorem yields_rel {o : Oper} {v : Value} {a : Act} {w w' : World} (h : YieldsIf P ops (R w) o v a) (hR : Pre R) (hl : R w w') : YieldsIf P ops (R w') o v a :=
  h.imp (fun ⟨hw, hv⟩ => ⟨hw, fun u hu => hv u (hR.2 hl hu)⟩) id

/-- Such an operation, if it may come up, may come up at once. -/
theorem wpAnyR_first (hR : Pre R) {i : Nat} {oi : Oper} {v : Value} (hi : ops[i]? = some oi) (hsel : ∀ (j : Nat) (o : Oper) cs b, ops[j]? = some o → o.op ≠ .select cs b)
    (hQ : ∀ c a w, Q (.panic c) (a.put oi.dst v) w → Q (.panic c) a w) :
    ∀ (fuel : Nat) (listed : Array Bool) (a : Act) (w : World),
      (∀ j oj, ops[j]? = some oj → j ≠ i → listed.getD j true = false → (∀ e ∈ oj.after, Region.binds md e = true → e.on ≠ i) → oi.apart ops oj = true) →
      i ∈ Region.ready md ops listed → YieldsIf P ops (R w) oi v a →
      wpAnyR R P md ops Q fuel (listed.setIfInBounds i true) (a.put oi.dst v) w → wpAnyR R P md ops Q (fuel + 1) listed a w := by
  intro fuel
  induction fuel with
  | zero =>
    intro listed a w _ hr hy H
    refine ⟨fun h => (by rw [h] at hr; cases hr), fun j hj => ?_⟩
    by_cases hji : j = i
    · subst hji
      exact hy.wpOp hi (hR.1 w) ⟨hR.1 w, H⟩
    · have := ready_mono hj hji
      rw [H.1] at this
      cases this
  | succ fuel ih =>
    intro listed a w hfree hr hy H
    refine ⟨fun h => (by rw [h] at hr; cases hr), fun j hj => ?_⟩
    by_cases hji : j = i
    · subst hji
      exact hy.wpOp hi (hR.1 w) ⟨hR.1 w, H⟩
    · have h1 := H.2 j (ready_mono hj hji)
      obtain ⟨hjun, oj, hoj, hall⟩ := mem_ready.1 hj
      have hnot : ∀ e ∈ oj.after, Region.binds md e = true → e.on ≠ i := fun e he hb heq => by
        have q1 := hall e he hb
        have q0 := (mem_ready.1 hr).1
        rw [heq] at q1
        rcases Nat.lt_or_ge i listed.size with h' | h'
        · simp [h'] at q0 q1
          rw [q0] at q1
          cases q1
        · simp [Array.getElem?_eq_none h'] at q1
      have h2 := wpOp_putIf hoj (hfree j oj hoj hji hjun hnot) (fun cs b => hsel i oi cs b hi) (fun cs b => hsel j oj cs b hoj) hQ hy h1
      have hfree' : ∀ k ok, ops[k]? = some ok → k ≠ i → (listed.setIfInBounds j true).getD k true = false →
          (∀ e ∈ ok.after, Region.binds md e = true → e.on ≠ i) → oi.apart ops ok = true := fun k ok hk hki hun hno => by
        refine hfree k ok hk hki ?_ hno
        by_cases hjk : j = k
        · subst hjk; exact hjun
        · rw [getD_set_ne true hjk] at hun; exact hun
      refine wpOp_mono (fun a' w' h3 => ⟨h3.2.1, ih (listed.setIfInBounds j true) a' w' hfree' (ready_mono hr (Ne.symm hji)) (yields_rel h3.1 hR h3.2.1) ?_⟩) h2
      rw [Array.setIfInBounds_comm _ _ hji]
      exact h3.2.2

/-- The moves: an operation that may come up at once; the one that must; the end; the beginning. -/
theorem wpAnyR_take (hR : Pre R) {i : Nat} {oi : Oper} {d : Option Tmp} {v : Value} {fuel : Nat} {listed : Array Bool} {a : Act} {w : World} (hi : ops[i]? = some oi) (hd : oi.dst = d)
    (hs : Region.noSelect ops = true) (hf : Region.free md ops listed i = true) (hr : (Region.ready md ops listed).contains i = true)
    (hQ : ∀ c a w, Q (.panic c) (a.put d v) w → Q (.panic c) a w) (hw : Region.wanted oi (yielded ops a.tmps) = true) (hy : ∀ w', R w w' → (execOp a.eval oi).run P w' = .ok (.value v) w')
    (h : wpAnyR R P md ops Q fuel (listed.setIfInBounds i true) (a.put d v) w) : wpAnyR R P md ops Q (fuel + 1) listed a w := by
  subst hd
  exact wpAnyR_first hR hi (Region.noSelect_spec hs) hQ fuel listed a w (Region.free_spec hi hf) (by simpa using hr) (.inl ⟨hw, hy⟩) h

theorem wpAnyR_pass (hR : Pre R) {i : Nat} {oi : Oper} {d : Option Tmp} {fuel : Nat} {listed : Array Bool} {a : Act} {w : World} (hi : ops[i]? = some oi) (hd : oi.dst = d)
    (hs : Region.noSelect ops = true) (hf : Region.free md ops listed i = true) (hr : (Region.ready md ops listed).contains i = true)
    (hQ : ∀ c a w, Q (.panic c) (a.put d undef) w → Q (.panic c) a w) (hw : Region.wanted oi (yielded ops a.tmps) = false)
    (h : wpAnyR R P md ops Q fuel (listed.setIfInBounds i true) (a.put d undef) w) : wpAnyR R P md ops Q (fuel + 1) listed a w := by
  subst hd
  exact wpAnyR_first hR hi (Region.noSelect_spec hs) hQ fuel listed a w (Region.free_spec hi hf) (by simpa using hr) (.inr ⟨hw, rfl⟩) h

theorem wpAnyR_only {i : Nat} {o : Oper} {fuel : Nat} {listed : Array Bool} {a : Act} {w : World} (ho : ops[i]? = some o) (hr : Region.ready md ops listed = [i]) (hw : Region.wanted o (yielded ops a.tmps) = true)
    (h : ∀ K' : Act → World → Prop, Hid (∀ a' w', R w w' → wpAnyR R P md ops Q fuel (listed.setIfInBounds i true) a' w' → K' a' w') → Oper.wp P o a w K' Q) : wpAnyR R P md ops Q (fuel + 1) listed a w := by
  refine ⟨fun h0 => absurd (hr ▸ h0) (by simp), fun j hj => ?_⟩
  rw [hr] at hj
  obtain rfl : j = i := by simpa using hj
  refine wpOp_step ho fun K' hK => ?_
  rw [if_pos hw]
  exact h K' fun a' w' hl hn => hK a' w' ⟨hl, hn⟩

theorem wpAnyR_two {i j : Nat} {oi oj : Oper} {fuel : Nat} {listed : Array Bool} {a : Act} {w : World} (hoi : ops[i]? = some oi) (hoj : ops[j]? = some oj) (hr : Region.ready md ops listed = [i, j])
    (hwi : Region.wanted oi (yielded ops a.tmps) = true) (hwj : Region.wanted oj (yielded ops a.tmps) = true)
    (hi : ∀ K' : Act → World → Prop, Hid (∀ a' w', R w w' → wpAnyR R P md ops Q fuel (listed.setIfInBounds i true) a' w' → K' a' w') → Oper.wp P oi a w K' Q)
    (hj : ∀ K' : Act → World → Prop, Hid (∀ a' w', R w w' → wpAnyR R P md ops Q fuel (listed.setIfInBounds j true) a' w' → K' a' w') → Oper.wp P oj a w K' Q) : wpAnyR R P md ops Q (fuel + 1) listed a w := by
  refine ⟨fun h0 => absurd (hr ▸ h0) (by simp), fun k hk => ?_⟩
  rw [hr] at hk
  rcases List.mem_cons.1 hk with rfl | hk
  · refine wpOp_step hoi fun K' hK => ?_
    rw [if_pos hwi]
    exact hi K' fun a' w' hl hn => hK a' w' ⟨hl, hn⟩
  · obtain rfl : k = j := by simpa using hk
    refine wpOp_step hoj fun K' hK => ?_
    rw [if_pos hwj]
    exact hj K' fun a' w' hl hn => hK a' w' ⟨hl, hn⟩

theorem wpAnyR_done {listed : Array Bool} {a : Act} {w : World} (hr : Region.ready md ops listed = []) (h : Q .normal a w) : ∀ fuel, wpAnyR R P md ops Q fuel listed a w
  | 0 => ⟨hr, h⟩
  | _ + 1 => ⟨fun _ => h, by rw [hr]; simp⟩

theorem wp_region_R {id : Nat} {a : Act} {w : World} (hm : P.follows .mixedOrders = true)
    (h : wpAnyR R P .any ops Q ops.size (Array.replicate ops.size false) a w.drew) : (Code.region id ops true).wp P Q a w :=
  wp_region_any hm (wpAny_of_R _ _ _ _ h)
end

end Go.Proofs.YtdahnjcoflifbaaDoor
/- A region whose order is open, some of whose operations write what others read: the writers wait for those; what reads the same in all worlds may come up at once, and so may what all writers wait for. -/
namespace Go.Proofs.YtdahnjcoflifbaaDoor
open Go.RowKit

section
variable {P : Program} {ops : Array Oper} {Q : Exit → Act → World → Prop} {md : Region.Mode} {S : Nat → Bool}

/-- Whatever order is picked from here on; behind each operation that is no writer the world is a later one. -/
def wpAnyS (S : Nat → Bool) (P : Program) (md : Region.Mode) (ops : Array Oper) (Q : Exit → Act → World → Prop) : Nat → Array Bool → Act → World → Prop
  | 0, listed, a, w => Region.ready md ops listed = [] ∧ Q .normal a w
  | fuel + 1, listed, a, w =>
    (Region.ready md ops listed = [] → Q .normal a w) ∧
    ∀ i ∈ Region.ready md ops listed, wpOp P ops Q i (fun a' w' => (S i = false → Later w w') ∧ wpAnyS S P md ops Q fuel (listed.setIfInBounds i true) a' w') a w

theorem wpAny_of_S : ∀ (fuel : Nat) (listed : Array Bool) (a : Act) (w : World), wpAnyS S P md ops Q fuel listed a w → wpAny P md ops Q fuel listed a w
  | 0, _, _, _, h => h
  | fuel + 1, _, _, _, h => ⟨h.1, fun i hi => wpOp_mono (fun a' w' h' => wpAny_of_S fuel _ a' w' h'.2) (h.2 i hi)⟩

/-- What is listed stands behind what it waits for. -/
def Closed (md : Region.Mode) (ops : Array Oper) (listed : Array Bool) : Prop := ∀ m om, ops[m]? = some om → listed.getD m false = true → ∀ e ∈ om.after, Region.binds md e = true → listed.getD e.on false = true
def closedB (md : Region.Mode) (ops : Array Oper) (listed : Array Bool) : Bool :=
  (List.range ops.size).all fun m => !listed.getD m false || (match ops[m]? with | some o => o.after.all (fun e => !Region.binds md e || listed.getD e.on false) | none => true)
theorem closed_spec {listed : Array Bool} (h : closedB md ops listed = true) : Closed md ops listed := by
  intro m om hm hl e he hb
  unfold closedB at h
  rw [List.all_eq_true] at h
  have h1 := h m (by rw [List.mem_range]; exact (Array.getElem?_eq_some_iff.1 hm).1)
  rw [hm, hl] at h1
  simp only [Bool.not_true, Bool.false_or] at h1
  rw [Array.all_eq_true] at h1
  obtain ⟨k, hk, rfl⟩ := Array.mem_iff_getElem.1 he
  have h2 := h1 k hk
  rw [hb] at h2
  simpa using h2
theorem getD_set_listed {listed : Array Bool} {j k : Nat} (h : (listed.setIfInBounds j true).getD k false = true) : k = j ∨ listed.getD k false = true := by
  by_cases e : j = k
  · exact .inl e.symm
  · rw [getD_set_ne false e] at h
    exact .inr h
theorem getD_set_more {listed : Array Bool} {j k : Nat} (h : listed.getD k false = true) : (listed.setIfInBounds j true).getD k false = true := by
  by_cases e : j = k
  · subst e
    have hj : j < listed.size := by
      rcases Nat.lt_or_ge j listed.size with h' | h'
      · exact h'
      · simp [Array.getElem?_eq_none h'] at h
    simp [hj]
  · rw [getD_set_ne false e]
    exact h
theorem Closed.next {listed : Array Bool} (h : Closed md ops listed) {j : Nat} (hj : j ∈ Region.ready md ops listed) : Closed md ops (listed.setIfInBounds j true) := by
  obtain ⟨_, oj, hoj, hall⟩ := mem_ready.1 hj
  intro m om hm hl e he hb
  rcases getD_set_listed hl with rfl | hl
  · rw [hoj] at hm
    obtain rfl := Option.some.inj hm
    exact getD_set_more (hall e he hb)
  · exact getD_set_more (h m om hm hl e he hb)
/-- The operation j waits for i. -/
def reaches (md : Region.Mode) (ops : Array Oper) : Nat → Nat → Nat → Bool
  | 0, _, _ => false
  | f + 1, j, i => match ops[j]? with | some o => o.after.any (fun e => Region.binds md e && (e.on == i || reaches md ops f e.on i)) | none => false
theorem reaches_spec {listed : Array Bool} (hc : Closed md ops listed) {i : Nat} : ∀ (f j : Nat) (oj : Oper), ops[j]? = some oj → (∀ e ∈ oj.after, Region.binds md e = true → listed.getD e.on false = true) → reaches md ops f j i = true → listed.getD i false = true
  | 0, _, _, _, _, h => by simp [reaches] at h
  | f + 1, j, oj, hj, hall, h => by
    unfold reaches at h
    rw [hj] at h
    simp only at h
    rw [Array.any_eq_true] at h
    obtain ⟨k, hk, h2⟩ := h
    simp only [Bool.and_eq_true, Bool.or_eq_true, beq_iff_eq] at h2
    have hl := hall _ (Array.getElem_mem hk) h2.1
    rcases h2.2 with h3 | h3
    · rw [← h3]; exact hl
    · rcases hm : ops[oj.after[k].on]? with _ | om
      · cases f with
        | zero => simp [reaches] at h3
        | succ f => unfold reaches at h3; rw [hm] at h3; cases h3
      · exact reaches_spec hc f _ om hm (fun e he hb => hc _ om hm hl e he hb) h3

/-- Such an operation, if it may come up, may come up at once. -/
theorem wpAnyS_first (T : World → World → Prop) (hT : Pre T) {i : Nat} {oi : Oper} {v : Value} (hi : ops[i]? = some oi) (hsel : ∀ (j : Nat) (o : Oper) cs b, ops[j]? = some o → o.op ≠ .select cs b)
    (hQ : ∀ c a w, Q (.panic c) (a.put oi.dst v) w → Q (.panic c) a w)
    (hst : ∀ (listed : Array Bool) (j : Nat), Closed md ops listed → i ∈ Region.ready md ops listed → j ∈ Region.ready md ops listed → ∀ w w' : World, (S j = false → Later w w') → T w w') :
    ∀ (fuel : Nat) (listed : Array Bool) (a : Act) (w : World), Closed md ops listed →
      (∀ j oj, ops[j]? = some oj → j ≠ i → listed.getD j true = false → (∀ e ∈ oj.after, Region.binds md e = true → e.on ≠ i) → oi.apart ops oj = true) →
      i ∈ Region.ready md ops listed → YieldsIf P ops (T w) oi v a →
      wpAnyS S P md ops Q fuel (listed.setIfInBounds i true) (a.put oi.dst v) w → wpAnyS S P md ops Q (fuel + 1) listed a w := by
  intro fuel
  induction fuel with
  | zero =>
    intro listed a w _ _ hr hy H
    refine ⟨fun h => (by rw [h] at hr; cases hr), fun j hj => ?_⟩
    by_cases hji : j = i
    · subst hji
      exact hy.wpOp hi (hT.1 w) ⟨fun _ => Later.refl w, H⟩
    · have := ready_mono hj hji
      rw [H.1] at this
      cases this
  | succ fuel ih =>
    intro listed a w hcl hfree hr hy H
    refine ⟨fun h => (by rw [h] at hr; cases hr), fun j hj => ?_⟩
    by_cases hji : j = i
    · subst hji
      exact hy.wpOp hi (hT.1 w) ⟨fun _ => Later.refl w, H⟩
    · have h1 := H.2 j (ready_mono hj hji)
      obtain ⟨hjun, oj, hoj, hall⟩ := mem_ready.1 hj
      have hnot : ∀ e ∈ oj.after, Region.binds md e = true → e.on ≠ i := fun e he hb heq => by
        have q1 := hall e he hb
        have q0 := (mem_ready.1 hr).1
        rw [heq] at q1
        rcases Nat.lt_or_ge i listed.size with h' | h'
        · simp [h'] at q0 q1
          rw [q0] at q1
          cases q1
        · simp [Array.getElem?_eq_none h'] at q1
      have h2 := wpOp_putIf hoj (hfree j oj hoj hji hjun hnot) (fun cs b => hsel i oi cs b hi) (fun cs b => hsel j oj cs b hoj) hQ hy h1
      have hfree' : ∀ k ok, ops[k]? = some ok → k ≠ i → (listed.setIfInBounds j true).getD k true = false →
          (∀ e ∈ ok.after, Region.binds md e = true → e.on ≠ i) → oi.apart ops ok = true := fun k ok hk hki hun hno => by
        refine hfree k ok hk hki ?_ hno
        by_cases hjk : j = k
        · subst hjk; exact hjun
        · rw [getD_set_ne true hjk] at hun; exact hun
      refine wpOp_mono (fun a' w' h3 => ⟨h3.2.1, ih (listed.setIfInBounds j true) a' w' (hcl.next hj) hfree' (ready_mono hr (Ne.symm hji)) (yields_rel h3.1 hT (hst listed j hcl hr hj w w' h3.2.1)) ?_⟩) h2
      rw [Array.setIfInBounds_comm _ _ hji]
      exact h3.2.2

/-- All writers wait for the operation i. -/
def waited (S : Nat → Bool) (md : Region.Mode) (ops : Array Oper) (i : Nat) : Bool := (List.range ops.size).all fun j => !S j || reaches md ops ops.size j i
theorem waited_spec {i : Nat} (h : waited S md ops i = true) {listed : Array Bool} (hc : Closed md ops listed) (hi : i ∈ Region.ready md ops listed) {j : Nat} (hj : j ∈ Region.ready md ops listed) : S j = false := by
  obtain ⟨_, oj, hoj, hall⟩ := mem_ready.1 hj
  have hun := (mem_ready.1 hi).1
  unfold waited at h
  rw [List.all_eq_true] at h
  have h1 := h j (by rw [List.mem_range]; exact (Array.getElem?_eq_some_iff.1 hoj).1)
  simp only [Bool.or_eq_true, Bool.not_eq_true'] at h1
  rcases h1 with h1 | h1
  · exact h1
  · have h2 := reaches_spec hc _ j oj hoj hall h1
    rcases Nat.lt_or_ge i listed.size with h' | h'
    · simp [h'] at hun h2
      rw [hun] at h2
      cases h2
    · simp [Array.getElem?_eq_none h'] at h2

theorem pre_later : Pre Later := ⟨Later.refl, fun h k => Later.trans h k⟩
theorem pre_all : Pre (fun _ _ => True) := ⟨fun _ => trivial, fun _ _ => trivial⟩

/-- The moves: an operation that all writers wait for; one that reads no memory; one that is not wanted; the one that must; a writer; the end; the beginning. -/
theorem wpAnyS_take {i : Nat} {oi : Oper} {d : Option Tmp} {v : Value} {fuel : Nat} {listed : Array Bool} {a : Act} {w : World} (hi : ops[i]? = some oi) (hd : oi.dst = d)
    (hs : Region.noSelect ops = true) (hcl : closedB md ops listed = true) (hwt : waited S md ops i = true) (hf : Region.free md ops listed i = true) (hr : (Region.ready md ops listed).contains i = true)
    (hQ : ∀ c a w, Q (.panic c) (a.put d v) w → Q (.panic c) a w) (hw : Region.wanted oi (yielded ops a.tmps) = true) (hy : ∀ w', Later w w' → (execOp a.eval oi).run P w' = .ok (.value v) w')
    (h : wpAnyS S P md ops Q fuel (listed.setIfInBounds i true) (a.put d v) w) : wpAnyS S P md ops Q (fuel + 1) listed a w := by
  subst hd
  exact wpAnyS_first Later pre_later hi (Region.noSelect_spec hs) hQ (fun _ _ hc h1 h2 _ _ hl => hl (waited_spec hwt hc h1 h2)) fuel listed a w (closed_spec hcl) (Region.free_spec hi hf) (by simpa using hr) (.inl ⟨hw, hy⟩) h
theorem wpAnyS_pure {i : Nat} {oi : Oper} {d : Option Tmp} {v : Value} {fuel : Nat} {listed : Array Bool} {a : Act} {w : World} (hi : ops[i]? = some oi) (hd : oi.dst = d)
    (hs : Region.noSelect ops = true) (hcl : closedB md ops listed = true) (hf : Region.free md ops listed i = true) (hr : (Region.ready md ops listed).contains i = true)
    (hQ : ∀ c a w, Q (.panic c) (a.put d v) w → Q (.panic c) a w) (hw : Region.wanted oi (yielded ops a.tmps) = true) (hy : ∀ w', (execOp a.eval oi).run P w' = .ok (.value v) w')
    (h : wpAnyS S P md ops Q fuel (listed.setIfInBounds i true) (a.put d v) w) : wpAnyS S P md ops Q (fuel + 1) listed a w := by
  subst hd
  exact wpAnyS_first (fun _ _ => True) pre_all hi (Region.noSelect_spec hs) hQ (fun _ _ _ _ _ _ _ _ => trivial) fuel listed a w (closed_spec hcl) (Region.free_spec hi hf) (by simpa using hr) (.inl ⟨hw, fun w' _ => hy w'⟩) h
theorem wpAnyS_pass {i : Nat} {oi : Oper} {d : Option Tmp} {fuel : Nat} {listed : Array Bool} {a : Act} {w : World} (hi : ops[i]? = some oi) (hd : oi.dst = d)
    (hs : Region.noSelect ops = true) (hcl : closedB md ops listed = true) (hf : Region.free md ops listed i = true) (hr : (Region.ready md ops listed).contains i = true)
    (hQ : ∀ c a w, Q (.panic c) (a.put d undef) w → Q (.panic c) a w) (hw : Region.wanted oi (yielded ops a.tmps) = false)
    (h : wpAnyS S P md ops Q fuel (listed.setIfInBounds i true) (a.put d undef) w) : wpAnyS S P md ops Q (fuel + 1) listed a w := by
  subst hd
  exact wpAnyS_first (fun _ _ => True) pre_all hi (Region.noSelect_spec hs) hQ (fun _ _ _ _ _ _ _ _ => trivial) fuel listed a w (closed_spec hcl) (Region.free_spec hi hf) (by simpa using hr) (.inr ⟨hw, rfl⟩) h
theorem wpAnyS_only {i : Nat} {o : Oper} {fuel : Nat} {listed : Array Bool} {a : Act} {w : World} (ho : ops[i]? = some o) (hr : Region.ready md ops listed = [i]) (hw : Region.wanted o (yielded ops a.tmps) = true)
    (h : ∀ K' : Act → World → Prop, Hid (∀ a' w', Later w w' → wpAnyS S P md ops Q fuel (listed.setIfInBounds i true) a' w' → K' a' w') → Oper.wp P o a w K' Q) : wpAnyS S P md ops Q (fuel + 1) listed a w := by
  refine ⟨fun h0 => absurd (hr ▸ h0) (by simp), fun j hj => ?_⟩
  rw [hr] at hj
  obtain rfl : j = i := by simpa using hj
  refine wpOp_step ho fun K' hK => ?_
  rw [if_pos hw]
  exact h K' fun a' w' hl hn => hK a' w' ⟨fun _ => hl, hn⟩
theorem wpAnyS_write {i : Nat} {o : Oper} {fuel : Nat} {listed : Array Bool} {a : Act} {w : World} (ho : ops[i]? = some o) (hS : S i = true) (hr : Region.ready md ops listed = [i]) (hw : Region.wanted o (yielded ops a.tmps) = true)
    (h : ∀ K' : Act → World → Prop, Hid (∀ a' w', wpAnyS S P md ops Q fuel (listed.setIfInBounds i true) a' w' → K' a' w') → Oper.wp P o a w K' Q) : wpAnyS S P md ops Q (fuel + 1) listed a w := by
  refine ⟨fun h0 => absurd (hr ▸ h0) (by simp), fun j hj => ?_⟩
  rw [hr] at hj
  obtain rfl : j = i := by simpa using hj
  refine wpOp_step ho fun K' hK => ?_
  rw [if_pos hw]
  exact h K' fun a' w' hn => hK a' w' ⟨(fun h0 => by rw [hS] at h0; cases h0), hn⟩
theorem wpAnyS_done {listed : Array Bool} {a : Act} {w : World} (hr : Region.ready md ops listed = []) (h : Q .normal a w) : ∀ fuel, wpAnyS S P md ops Q fuel listed a w
  | 0 => ⟨hr, h⟩
  | _ + 1 => ⟨fun _ => h, by rw [hr]; simp⟩
theorem wp_region_S (S : Nat → Bool) {id : Nat} {a : Act} {w : World} (hm : P.follows .mixedOrders = true)
    (h : wpAnyS S P .any ops Q ops.size (Array.replicate ops.size false) a w.drew) : (Code.region id ops true).wp P Q a w :=
  wp_region_any hm (wpAny_of_S _ _ _ _ h)
end

end Go.Proofs.YtdahnjcoflifbaaDoor
/- As text OrderS, over whatever relation of worlds that goes on: operations that are no writers leave a world of that relation. -/
namespace Go.Proofs.YtdahnjcoflifbaaDoor
open Go.RowKit

section
variable {P : Program} {ops : Array Oper} {Q : Exit → Act → World → Prop} {md : Region.Mode} {S : Nat → Bool} {R : World → World → Prop}

/-- Whatever order is picked from here on; behind each operation that is no writer the world is a later one. -/
def wpAnyV (R : World → World → Prop) (S : Nat → Bool) (P : Program) (md : Region.Mode) (ops : Array Oper) (Q : Exit → Act → World → Prop) : Nat → Array Bool → Act → World → Prop
  | 0, listed, a, w => Region.ready md ops listed = [] ∧ Q .normal a w
  | fuel + 1, listed, a, w =>
    (Region.ready md ops listed = [] → Q .normal a w) ∧
    ∀ i ∈ Region.ready md ops listed, wpOp P ops Q i (fun a' w' => (S i = false → R w w') ∧ wpAnyV R S P md ops Q fuel (listed.setIfInBounds i true) a' w') a w

theorem wpAny_of_V : ∀ (fuel : Nat) (listed : Array Bool) (a : Act) (w : World), wpAnyV R S P md ops Q fuel listed a w → wpAny P md ops Q fuel listed a w
  | 0, _, _, _, h => h
  | fuel + 1, _, _, _, h => ⟨h.1, fun i hi => wpOp_mono (fun a' w' h' => wpAny_of_V fuel _ a' w' h'.2) (h.2 i hi)⟩

/-- Such an operation, if it may come up, may come up at once. -/
theorem wpAnyV_first (hR : Pre R) (T : World → World → Prop) (hT : Pre T) {i : Nat} {oi : Oper} {v : Value} (hi : ops[i]? = some oi) (hsel : ∀ (j : Nat) (o : Oper) cs b, ops[j]? = some o → o.op ≠ .select cs b)
    (hQ : ∀ c a w, Q (.panic c) (a.put oi.dst v) w → Q (.panic c) a w)
    (hst : ∀ (listed : Array Bool) (j : Nat), Closed md ops listed → i ∈ Region.ready md ops listed → j ∈ Region.ready md ops listed → ∀ w w' : World, (S j = false → R w w') → T w w') :
    ∀ (fuel : Nat) (listed : Array Bool) (a : Act) (w : World), Closed md ops listed →
      (∀ j oj, ops[j]? = some oj → j ≠ i → listed.getD j true = false → (∀ e ∈ oj.after, Region.binds md e = true → e.on ≠ i) → oi.apart ops oj = true) →
      i ∈ Region.ready md ops listed → YieldsIf P ops (T w) oi v a →
      wpAnyV R S P md ops Q fuel (listed.setIfInBounds i true) (a.put oi.dst v) w → wpAnyV R S P md ops Q (fuel + 1) listed a w := by
  intro fuel
  induction fuel with
  | zero =>
    intro listed a w _ _ hr hy H
    refine ⟨fun h => (by rw [h] at hr; cases hr), fun j hj => ?_⟩
    by_cases hji : j = i
    · subst hji
      exact hy.wpOp hi (hT.1 w) ⟨fun _ => hR.1 w, H⟩
    · have := ready_mono hj hji
      rw [H.1] at this
      cases this
  | succ fuel ih =>
    intro listed a w hcl hfree hr hy H
    refine ⟨fun h => (by rw [h] at hr; cases hr), fun j hj => ?_⟩
    by_cases hji : j = i
    · subst hji
      exact hy.wpOp hi (hT.1 w) ⟨fun _ => hR.1 w, H⟩
    · have h1 := H.2 j (ready_mono hj hji)
      obtain ⟨hjun, oj, hoj, hall⟩ := mem_ready.1 hj
      have hnot : ∀ e ∈ oj.after, Region.binds md e = true → e.on ≠ i := fun e he hb heq => by
        have q1 := hall e he hb
        have q0 := (mem_ready.1 hr).1
        rw [heq] at q1
        rcases Nat.lt_or_ge i listed.size with h' | h'
        · simp [h'] at q0 q1
          rw [q0] at q1
          cases q1
        · simp [Array.getElem?_eq_none h'] at q1
      have h2 := wpOp_putIf hoj (hfree j oj hoj hji hjun hnot) (fun cs b => hsel i oi cs b hi) (fun cs b => hsel j oj cs b hoj) hQ hy h1
      have hfree' : ∀ k ok, ops[k]? = some ok → k ≠ i → (listed.setIfInBounds j true).getD k true = false →
          (∀ e ∈ ok.after, Region.binds md e = true → e.on ≠ i) → oi.apart ops ok = true := fun k ok hk hki hun hno => by
        refine hfree k ok hk hki ?_ hno
        by_cases hjk : j = k
        · subst hjk; exact hjun
        · rw [getD_set_ne true hjk] at hun; exact hun
      refine wpOp_mono (fun a' w' h3 => ⟨h3.2.1, ih (listed.setIfInBounds j true) a' w' (hcl.next hj) hfree' (ready_mono hr (Ne.symm hji)) (yields_rel h3.1 hT (hst listed j hcl hr hj w w' h3.2.1)) ?_⟩) h2
      rw [Array.setIfInBounds_comm _ _ hji]
      exact h3.2.2

/-- The moves: an operation that all writers wait for; one that reads no memory; one that is not wanted; the one that must; a writer; the end; the beginning. -/
theorem wpAnyV_take (hR : Pre R) {i : Nat} {oi : Oper} {d : Option Tmp} {v : Value} {fuel : Nat} {listed : Array Bool} {a : Act} {w : World} (hi : ops[i]? = some oi) (hd : oi.dst = d)
    (hs : Region.noSelect ops = true) (hcl : closedB md ops listed = true) (hwt : waited S md ops i = true) (hf : Region.free md ops listed i = true) (hr : (Region.ready md ops listed).contains i = true)
    (hQ : ∀ c a w, Q (.panic c) (a.put d v) w → Q (.panic c) a w) (hw : Region.wanted oi (yielded ops a.tmps) = true) (hy : ∀ w', R w w' → (execOp a.eval oi).run P w' = .ok (.value v) w')
    (h : wpAnyV R S P md ops Q fuel (listed.setIfInBounds i true) (a.put d v) w) : wpAnyV R S P md ops Q (fuel + 1) listed a w := by
  subst hd
  exact wpAnyV_first hR R hR hi (Region.noSelect_spec hs) hQ (fun _ _ hc h1 h2 _ _ hl => hl (waited_spec hwt hc h1 h2)) fuel listed a w (closed_spec hcl) (Region.free_spec hi hf) (by simpa using hr) (.inl ⟨hw, hy⟩) h
theorem wpAnyV_pure (hR : Pre R) {i : Nat} {oi : Oper} {d : Option Tmp} {v : Value} {fuel : Nat} {listed : Array Bool} {a : Act} {w : World} (hi : ops[i]? = some oi) (hd : oi.dst = d)
    (hs : Region.noSelect ops = true) (hcl : closedB md ops listed = true) (hf : Region.free md ops listed i = true) (hr : (Region.ready md ops listed).contains i = true)
    (hQ : ∀ c a w, Q (.panic c) (a.put d v) w → Q (.panic c) a w) (hw : Region.wanted oi (yielded ops a.tmps) = true) (hy : ∀ w', (execOp a.eval oi).run P w' = .ok (.value v) w')
    (h : wpAnyV R S P md ops Q fuel (listed.setIfInBounds i true) (a.put d v) w) : wpAnyV R S P md ops Q (fuel + 1) listed a w := by
  subst hd
  exact wpAnyV_first hR (fun _ _ => True) pre_all hi (Region.noSelect_spec hs) hQ (fun _ _ _ _ _ _ _ _ => trivial) fuel listed a w (closed_spec hcl) (Region.free_spec hi hf) (by simpa using hr) (.inl ⟨hw, fun w' _ => hy w'⟩) h
theorem wpAnyV_pass (hR : Pre R) {i : Nat} {oi : Oper} {d : Option Tmp} {fuel : Nat} {listed : Array Bool} {a : Act} {w : World} (hi : ops[i]? = some oi) (hd : oi.dst = d)
    (hs : Region.noSelect ops = true) (hcl : closedB md ops listed = true) (hf : Region.free md ops listed i = true) (hr : (Region.ready md ops listed).contains i = true)
    (hQ : ∀ c a w, Q (.panic c) (a.put d undef) w → Q (.panic c) a w) (hw : Region.wanted oi (yielded ops a.tmps) = false)
    (h : wpAnyV R S P md ops Q fuel (listed.setIfInBounds i true) (a.put d undef) w) : wpAnyV R S P md ops Q (fuel + 1) listed a w := by
  subst hd
  exact wpAnyV_first hR (fun _ _ => True) pre_all hi (Region.noSelect_spec hs) hQ (fun _ _ _ _ _ _ _ _ => trivial) fuel listed a w (closed_spec hcl) (Region.free_spec hi hf) (by simpa using hr) (.inr ⟨hw, rfl⟩) h
theorem wpAnyV_only (_ : Pre R) {i : Nat} {o : Oper} {fuel : Nat} {listed : Array Bool} {a : Act} {w : World} (ho : ops[i]? = some o) (hr : Region.ready md ops listed = [i]) (hw : Region.wanted o (yielded ops a.tmps) = true)
    (h : ∀ K' : Act → World → Prop, Hid (∀ a' w', R w w' → wpAnyV R S P md ops Q fuel (listed.setIfInBounds i true) a' w' → K' a' w') → Oper.wp P o a w K' Q) : wpAnyV R S P md ops Q (fuel + 1) listed a w := by
  refine ⟨fun h0 => absurd (hr ▸ h0) (by simp), fun j hj => ?_⟩
  rw [hr] at hj
  obtain rfl : j = i := by simpa using hj
  refine wpOp_step ho fun K' hK => ?_
  rw [if_pos hw]
  exact h K' fun a' w' hl hn => hK a' w' ⟨fun _ => hl, hn⟩
theorem wpAnyV_write {i : Nat} {o : Oper} {fuel : Nat} {listed : Array Bool} {a : Act} {w : World} (ho : ops[i]? = some o) (hS : S i = true) (hr : Region.ready md ops listed = [i]) (hw : Region.wanted o (yielded ops a.tmps) = true)
    (h : ∀ K' : Act → World → Prop, Hid (∀ a' w', wpAnyV R S P md ops Q fuel (listed.setIfInBounds i true) a' w' → K' a' w') → Oper.wp P o a w K' Q) : wpAnyV R S P md ops Q (fuel + 1) listed a w := by
  refine ⟨fun h0 => absurd (hr ▸ h0) (by simp), fun j hj => ?_⟩
  rw [hr] at hj
  obtain rfl : j = i := by simpa using hj
  refine wpOp_step ho fun K' hK => ?_
  rw [if_pos hw]
  exact h K' fun a' w' hn => hK a' w' ⟨(fun h0 => by rw [hS] at h0; cases h0), hn⟩
theorem wpAnyV_done {listed : Array Bool} {a : Act} {w : World} (hr : Region.ready md ops listed = []) (h : Q .normal a w) : ∀ fuel, wpAnyV R S P md ops Q fuel listed a w
  | 0 => ⟨hr, h⟩
  | _ + 1 => ⟨fun _ => h, by rw [hr]; simp⟩
theorem wp_region_V (R : World → World → Prop) (S : Nat → Bool) {id : Nat} {a : Act} {w : World} (hm : P.follows .mixedOrders = true)
    (h : wpAnyV R S P .any ops Q ops.size (Array.replicate ops.size false) a w.drew) : (Code.region id ops true).wp P Q a w :=
  wp_region_any hm (wpAny_of_V _ _ _ _ h)
end

end Go.Proofs.YtdahnjcoflifbaaDoor
/- Two operations of a region that may both come up next, both of which leave a world of the relation. -/
namespace Go.Proofs.YtdahnjcoflifbaaDoor
open Go.RowKit

section
variable {P : Program} {ops : Array Oper} {Q : Exit → Act → World → Prop} {md : Region.Mode} {S : Nat → Bool} {R : World → World → Prop}
theorem wpAnyV_two {i j : Nat} {oi oj : Oper} {fuel : Nat} {listed : Array Bool} {a : Act} {w : World} (hoi : ops[i]? = some oi) (hoj : ops[j]? = some oj) (hr : Region.ready md ops listed = [i, j])
    (hwi : Region.wanted oi (yielded ops a.tmps) = true) (hwj : Region.wanted oj (yielded ops a.tmps) = true)
    (hi : ∀ K' : Act → World → Prop, Hid (∀ a' w', R w w' → wpAnyV R S P md ops Q fuel (listed.setIfInBounds i true) a' w' → K' a' w') → Oper.wp P oi a w K' Q)
    (hj : ∀ K' : Act → World → Prop, Hid (∀ a' w', R w w' → wpAnyV R S P md ops Q fuel (listed.setIfInBounds j true) a' w' → K' a' w') → Oper.wp P oj a w K' Q) : wpAnyV R S P md ops Q (fuel + 1) listed a w := by
  refine ⟨fun h0 => absurd (hr ▸ h0) (by simp), fun k hk => ?_⟩
  rw [hr] at hk
  rcases List.mem_cons.1 hk with rfl | hk
  · refine wpOp_step hoi fun K' hK => ?_
    rw [if_pos hwi]
    exact hi K' fun a' w' hl hn => hK a' w' ⟨fun _ => hl, hn⟩
  · obtain rfl : k = j := by simpa using hk
    refine wpOp_step hoj fun K' hK => ?_
    rw [if_pos hwj]
    exact hj K' fun a' w' hl hn => hK a' w' ⟨fun _ => hl, hn⟩
end
end Go.Proofs.YtdahnjcoflifbaaDoor
/- A token made. -/
namespace Go.Proofs.YtdahnjcoflifbaaDoor
open Go.RowKit

section
variable {w : World}
theorem clone_any (s : ByteArray) (w : World) (h : s.size ≤ 10000) : Calls Tryd.prog 62 #[.string s] w fun e w' => e = .returned (.string s) ∧ Later w w' := by
  have C := hide (Any.stringslite_Clone (P := Tryd.prog) (ρ := Tryd.cloneA_ren) { Tryd.cloneA with } s w (by omega))
  go_enter Tryd.func62, Tryd.ntmps62
  go_wp2_with (fail)
  refine C.out.mono ?_
  rintro e w1 ⟨rfl, hl⟩
  have HL : Hid (Later w w1) := hl
  clear C hl
  go_wp2
  go_ret
  exact ⟨rfl, HL.out⟩
theorem cells4 {W : World} {g : Nat} {t : TypeId} {a b c d : Value} (h : W.heap[g]? = some (.cells #[a, b, c, d] t (0, 0))) : W.cell? ⟨g, 0, none⟩ = some a ∧ W.cell? ⟨g, 1, none⟩ = some b ∧ W.cell? ⟨g, 2, none⟩ = some c ∧ W.cell? ⟨g, 3, none⟩ = some d :=
  ⟨by simpa using cell_of_row W g 0 _ _ _ h, by simpa using cell_of_row W g 1 _ _ _ h, by simpa using cell_of_row W g 2 _ _ _ h, by simpa using cell_of_row W g 3 _ _ _ h⟩
def zeroTok : Array Value := #[.int .i64 0, .string ⟨#[]⟩, .int .i64 0, .int .i64 0]

set_option maxHeartbeats 4000000 in
set_option maxRecDepth 100000 in
theorem token_any (p : PartD) (l : List UInt8) (n : Nat) (hd : p.k = 2 → ∀ c ∈ l, digitB c.toNat = true) (hl : l.length ≤ 3000) :
    Calls Tryd.prog 42 #[.agg p.cells.toArray, .string ⟨l.toArray⟩, .int .i64 (n : Int)] w fun e w' => e = .returned (.agg (Tok.mk p.k l (if p.k = 2 then valF l else 0) n).cells.toArray) ∧ Later w w' := by
  obtain ⟨W, hW⟩ : ∃ W, W = (w.alloc (.cells p.cells.toArray 85 (0, 0))).alloc (.cells zeroTok 88 (0, 0)) := ⟨_, rfl⟩
  have L0 : Hid (Later w W) := by rw [hW]; exact ((Below.refl _ _).alloc (Nat.le_refl _) _).alloc (by simp) _
  have X1 : Hid (W.heap[w.heap.size]? = some (.cells p.cells.toArray 85 (0, 0))) := by rw [hW]; exact heap_alloc2_old w _ _
  have X2 : Hid (W.heap[w.heap.size + 1]? = some (.cells zeroTok 88 (0, 0))) := by rw [hW]; exact heap_alloc2_new w _ _
  have d0 : W.cell? ⟨w.heap.size, 0, none⟩ = some (.int .i64 (p.k : Int)) := (cell_of_row _ w.heap.size 0 _ _ _ X1.out).trans (by simp [PartD.cells])
  have D0 := hide d0
  have HD := hide hd
  have hsize : (⟨l.toArray⟩ : ByteArray).size ≤ 10000 := by simp [ByteArray.size]; omega
  obtain ⟨k, bb, gg, fb, fg⟩ := p
  have HV := fun (h : k = 2) W' => hide (value_any (w := W') l (HD.out h) hl)
  obtain ⟨s, hs⟩ : ∃ s : ByteArray, (⟨l.toArray⟩ : ByteArray) = s := ⟨_, rfl⟩
  unfold Tok.cells
  simp only at D0 HV ⊢
  rw [hs] at hsize HV ⊢
  have CC := fun W' => clone_any s W' hsize
  have HW := hide hW
  clear hW d0 hd hs hsize HD
  unfold PartD.cells SetV.val at *
  have HT : Hid (#[.int .i64 (k : Int), .string s, .int .i64 0, .int .i64 (n : Int)] = #[Value.int .i64 (k : Int), .string s, .int .i64 0, .int .i64 (n : Int)]) := rfl
  simp only at *
  go_enter Tryd.func42, Tryd.ntmps42
  go_wp2_with (fail)
  rw [← zeroTok, ← HW.out]
  refine wp_region_V Later (fun j => j == 7) (by kernel_rfl) ?_
  refine wpAnyV_take pre_later (i := 0) (d := some 8) (v := ?vaa0) rfl rfl (by kernel_rfl) (by kernel_rfl) (by kernel_rfl) (by kernel_rfl) (by kernel_rfl) (fun _ _ _ h => h) (by rfl) ?yaa0 ?_
  case yaa0 => (intro w' hw'; go_simp; try (with_reducible rfl))
  simp only [Act.put]; try simp only [List.setIfInBounds_toArray]; try simp only [List.set_cons_zero, List.set_cons_succ]
  refine wpAnyV_take pre_later (i := 1) (d := some 9) (v := ?vaa1) rfl rfl (by kernel_rfl) (by kernel_rfl) (by kernel_rfl) (by kernel_rfl) (by kernel_rfl) (fun _ _ _ h => h) (by rfl) ?yaa1 ?_
  case yaa1 => (intro w' hw'; have y := later_cell hw' (later_cell (Later.drew _) D0.out); go_simp; try (with_reducible rfl))
  simp only [Act.put]; try simp only [List.setIfInBounds_toArray]; try simp only [List.set_cons_zero, List.set_cons_succ]
  refine wpAnyV_take pre_later (i := 2) (d := some 10) (v := ?vaa2) rfl rfl (by kernel_rfl) (by kernel_rfl) (by kernel_rfl) (by kernel_rfl) (by kernel_rfl) (fun _ _ _ h => h) (by rfl) ?yaa2 ?_
  case yaa2 => (intro w' hw'; go_simp; try (with_reducible rfl))
  simp only [Act.put]; try simp only [List.setIfInBounds_toArray]; try simp only [List.set_cons_zero, List.set_cons_succ]
  refine wpAnyV_take pre_later (i := 4) (d := some 12) (v := ?vaa4) rfl rfl (by kernel_rfl) (by kernel_rfl) (by kernel_rfl) (by kernel_rfl) (by kernel_rfl) (fun _ _ _ h => h) (by rfl) ?yaa4 ?_
  case yaa4 => (intro w' hw'; go_simp; try (with_reducible rfl))
  simp only [Act.put]; try simp only [List.setIfInBounds_toArray]; try simp only [List.set_cons_zero, List.set_cons_succ]
  refine wpAnyV_two (i := 3) (j := 6) rfl rfl (by kernel_rfl) (by rfl) (by rfl) (fun K hK => ?_) (fun K hK => ?_)
  · go_simp
    refine (CC _).mono ?_
    rintro e w1 ⟨rfl, hl1⟩
    have L1 := hide ((L0.out.trans (Later.drew _)).trans hl1)
    have D1 := hide (later_cell ((Later.drew _).trans hl1) D0.out)
    have XB1 := hide ((Below.block ((Later.drew _).trans hl1) (w.heap.size + 1) (lt_of_block X2.out)).trans X2.out)
    refine hK.out _ _ hl1 ?_
    clear hl1
    clear hK K
    try (simp only [Act.put]; try simp only [List.setIfInBounds_toArray]; try simp only [List.set_cons_zero, List.set_cons_succ])
    refine wpAnyV_take pre_later (i := 5) (d := some 13) (v := ?vaax5) rfl rfl (by kernel_rfl) (by kernel_rfl) (by kernel_rfl) (by kernel_rfl) (by kernel_rfl) (fun _ _ _ h => h) (by rfl) ?yaax5 ?_
    case yaax5 => (intro w' hw'; go_simp; try (with_reducible rfl))
    simp only [Act.put]; try simp only [List.setIfInBounds_toArray]; try simp only [List.set_cons_zero, List.set_cons_succ]
    refine wpAnyV_only pre_later (i := 6) rfl (by kernel_rfl) (by rfl) fun K hK => ?_
    go_simp
    obtain ⟨w2, hw2⟩ : ∃ w2, w2 = w1.alloc (.cells zeroTok 88 (0, 0)) := ⟨_, rfl⟩
    obtain ⟨g, hg⟩ : ∃ g, g = w1.heap.size := ⟨_, rfl⟩
    have M2 : Hid (Later w1 w2) := by rw [hw2]; exact (Below.refl _ _).alloc (Nat.le_refl _) _
    have XA : Hid (w2.heap[g]? = some (.cells zeroTok 88 (0, 0))) := by rw [hw2, hg]; exact heap_alloc_new _ _
    have L2 := hide ((L1.out).trans M2.out)
    have D2 := hide (later_cell M2.out D1.out)
    have XB0 := hide ((Below.block M2.out (w.heap.size + 1) (lt_of_block XB1.out)).trans XB1.out)
    have hgw : Hid (w.heap.size + 1 < g) := by rw [hg]; exact lt_of_block XB1.out
    have e1 := hw2.symm
    have e2 := hg.symm
    unfold zeroTok at e1
    simp only [e2, e1]
    refine hK.out _ _ M2.out ?_
    clear hw2 hg e1 e2
    clear hK K
    try (simp only [Act.put]; try simp only [List.setIfInBounds_toArray]; try simp only [List.set_cons_zero, List.set_cons_succ])
    refine wpAnyV_write (i := 7) rfl rfl (by kernel_rfl) (by rfl) fun K hK => ?_
    refine wp_store_box 88 _ _ (by rfl) g 0 #[.int .i64 (k : Int), .string s, .int .i64 0, .int .i64 (n : Int)] (by rfl) (by rfl) 88 _ XA.out (by kernel_rfl) (by exact Nat.le_of_ble_eq_true rfl) (by simp [Value.oneCell']) ?_
    intro w3 hb3 hg3
    have HB3 : Hid (w3.heap[g]? = some (.cells #[.int .i64 (k : Int), .string s, .int .i64 0, .int .i64 (n : Int)] 88 (0, 0))) := hb3
    have HG3 := hide hg3
    clear hb3 hg3
    refine hK.out _ _ ?_
    clear hK K
    try simp only [Act.put]
    refine wpAnyV_done (by kernel_rfl) ?_ _
    have D3 : Hid (w3.cell? ⟨w.heap.size, 0, none⟩ = some (.int .i64 (k : Int))) := (World.cell?_of_block (HG3.out.block w.heap.size (by have := lt_of_block XB0.out; omega) (by intro e; have := Option.some.inj e; have := hgw.out; omega))).trans D2.out
    have XB3 : Hid (w3.heap[w.heap.size + 1]? = some (.cells zeroTok 88 (0, 0))) := (HG3.out.block _ (lt_of_block XB0.out) (by intro e; have := Option.some.inj e; have := hgw.out; omega)).trans XB0.out
    have L3 : Hid (Later w w3) := Below.trans L2.out (below_grown (B := w.heap.size) HG3.out (by have := hgw.out; omega) (by have := lt_of_block XB0.out; omega))
    have d3 := D3.out
    obtain ⟨c0, c1, c2, c3⟩ := cells4 HB3.out
    have f2 := frozen_of_row w3 g 2 _ _ HB3.out
    by_cases hk : k = 2
    · have hkb : ((k : Int) == 2) = true := by rw [beq_iff_eq]; omega
      have CV := HV hk w3
      go_wp2_with (fail)
      refine CV.out.mono ?_
      rintro e w4 ⟨rfl, hl4⟩
      have X4 := hide ((Below.block hl4 g (lt_of_block HB3.out)).trans HB3.out)
      have Y4 := hide ((Below.block hl4 (w.heap.size + 1) (lt_of_block XB3.out)).trans XB3.out)
      have e4 := hide (later_cell hl4 D3.out)
      have L4 := hide (L3.out.trans hl4)
      clear hl4 CV c0 c1 c2 c3 f2 d3
      obtain ⟨c0, c1, c2, c3⟩ := cells4 X4.out
      have f2 := frozen_of_row w4 g 2 _ _ X4.out
      have Y5 : Hid ((w4.setCell ⟨g, 2, none⟩ (.int .i64 (valF l : Int))).heap[w.heap.size + 1]? = some (.cells zeroTok 88 (0, 0))) := ((grown_set w4 g 2 _).block _ (lt_of_block Y4.out) (by intro e; have := Option.some.inj e; have := hgw.out; omega)).trans Y4.out
      have L5 : Hid (Later w (w4.setCell ⟨g, 2, none⟩ (.int .i64 (valF l : Int)))) := Below.trans L4.out (below_grown (B := w.heap.size) (grown_set w4 g 2 _) (by have := hgw.out; omega) (by have := Below.size L4.out; omega))
      go_wp2_with (refine wpList_store_box (by rfl) 88 _ _ (by rfl) (w.heap.size + 1) 0 #[.int .i64 2, .string s, .int .i64 (valF l : Int), .int .i64 (n : Int)] (by rfl) (by rfl) 88 _ Y5.out (by kernel_rfl) (by exact Nat.le_of_ble_eq_true rfl) (by simp [Value.oneCell']) ?_; intro w7 hb7 hg7)
      refine bodyPost_ret (results_cell_row Tryd.results42 _ _ (w.heap.size + 1) 88 _ (0, 0) _ (by rfl) hb7 Tryd.underlying88 (by rfl) (by kernel_rfl)) (by rfl) ⟨by simp [putAt, zeroTok], ?_⟩
      exact Below.trans L5.out (below_grown (B := w.heap.size) hg7 (by omega) (by have := Below.size L5.out; omega))
    · have hkb : ((k : Int) == 2) = false := by rw [beq_eq_false_iff_ne]; omega
      go_wp2_with (refine wpList_store_box (by rfl) 88 _ _ (by rfl) (w.heap.size + 1) 0 #[.int .i64 ((k : Int)), .string s, .int .i64 0, .int .i64 (n : Int)] (by rfl) (by rfl) 88 _ XB3.out (by kernel_rfl) (by exact Nat.le_of_ble_eq_true rfl) (by simp [Value.oneCell']) ?_; intro w7 hb7 hg7)
      refine bodyPost_ret (results_cell_row Tryd.results42 _ _ (w.heap.size + 1) 88 _ (0, 0) _ (by rfl) hb7 Tryd.underlying88 (by rfl) (by kernel_rfl)) (by rfl) ⟨by simp [putAt, zeroTok], ?_⟩
      exact Below.trans L3.out (below_grown (B := w.heap.size) hg7 (by omega) (by have := Below.size L3.out; omega))
  · go_simp
    obtain ⟨w2, hw2⟩ : ∃ w2, w2 = (W.alloc (.cells zeroTok 88 (0, 0))).drew := ⟨_, rfl⟩
    obtain ⟨g, hg⟩ : ∃ g, g = W.heap.size := ⟨_, rfl⟩
    have M2 : Hid (Later W.drew w2) := by have b : Later W w2 := (by rw [hw2]; exact ((Below.refl _ _).alloc (Nat.le_refl _) _).drew); exact ⟨b.os, b.tape, b.output, b.size, b.block⟩
    have XA : Hid (w2.heap[g]? = some (.cells zeroTok 88 (0, 0))) := by rw [hw2, hg]; exact heap_alloc_new _ _
    have L2 := hide ((L0.out.trans (Later.drew _)).trans M2.out)
    have D2 := hide (later_cell M2.out (later_cell (Later.drew _) D0.out))
    have XB0 := hide ((Below.block ((Later.drew _).trans M2.out) (w.heap.size + 1) (lt_of_block X2.out)).trans X2.out)
    have hgw : Hid (w.heap.size + 1 < g) := by rw [hg]; exact lt_of_block X2.out
    have e1 := hw2.symm
    have e2 := hg.symm
    unfold zeroTok at e1
    simp only [e2, e1]
    refine hK.out _ _ M2.out ?_
    clear hw2 hg e1 e2
    clear hK K
    try (simp only [Act.put]; try simp only [List.setIfInBounds_toArray]; try simp only [List.set_cons_zero, List.set_cons_succ])
    refine wpAnyV_only pre_later (i := 3) rfl (by kernel_rfl) (by rfl) fun K hK => ?_
    go_simp
    refine (CC _).mono ?_
    rintro e w1 ⟨rfl, hl1⟩
    have L1 := hide ((L2.out).trans hl1)
    have XA1 := hide ((Below.block hl1 g (lt_of_block XA.out)).trans XA.out)
    have D1 := hide (later_cell hl1 D2.out)
    have XB1 := hide ((Below.block hl1 (w.heap.size + 1) (lt_of_block XB0.out)).trans XB0.out)
    refine hK.out _ _ hl1 ?_
    clear hl1
    clear hK K
    try (simp only [Act.put]; try simp only [List.setIfInBounds_toArray]; try simp only [List.set_cons_zero, List.set_cons_succ])
    refine wpAnyV_take pre_later (i := 5) (d := some 13) (v := ?vaay5) rfl rfl (by kernel_rfl) (by kernel_rfl) (by kernel_rfl) (by kernel_rfl) (by kernel_rfl) (fun _ _ _ h => h) (by rfl) ?yaay5 ?_
    case yaay5 => (intro w' hw'; go_simp; try (with_reducible rfl))
    simp only [Act.put]; try simp only [List.setIfInBounds_toArray]; try simp only [List.set_cons_zero, List.set_cons_succ]
    refine wpAnyV_write (i := 7) rfl rfl (by kernel_rfl) (by rfl) fun K hK => ?_
    refine wp_store_box 88 _ _ (by rfl) g 0 #[.int .i64 (k : Int), .string s, .int .i64 0, .int .i64 (n : Int)] (by rfl) (by rfl) 88 _ XA1.out (by kernel_rfl) (by exact Nat.le_of_ble_eq_true rfl) (by simp [Value.oneCell']) ?_
    intro w3 hb3 hg3
    have HB3 : Hid (w3.heap[g]? = some (.cells #[.int .i64 (k : Int), .string s, .int .i64 0, .int .i64 (n : Int)] 88 (0, 0))) := hb3
    have HG3 := hide hg3
    clear hb3 hg3
    refine hK.out _ _ ?_
    clear hK K
    try simp only [Act.put]
    refine wpAnyV_done (by kernel_rfl) ?_ _
    have D3 : Hid (w3.cell? ⟨w.heap.size, 0, none⟩ = some (.int .i64 (k : Int))) := (World.cell?_of_block (HG3.out.block w.heap.size (by have := lt_of_block XB1.out; omega) (by intro e; have := Option.some.inj e; have := hgw.out; omega))).trans D1.out
    have XB3 : Hid (w3.heap[w.heap.size + 1]? = some (.cells zeroTok 88 (0, 0))) := (HG3.out.block _ (lt_of_block XB1.out) (by intro e; have := Option.some.inj e; have := hgw.out; omega)).trans XB1.out
    have L3 : Hid (Later w w3) := Below.trans L1.out (below_grown (B := w.heap.size) HG3.out (by have := hgw.out; omega) (by have := lt_of_block XB1.out; omega))
    have d3 := D3.out
    obtain ⟨c0, c1, c2, c3⟩ := cells4 HB3.out
    have f2 := frozen_of_row w3 g 2 _ _ HB3.out
    by_cases hk : k = 2
    · have hkb : ((k : Int) == 2) = true := by rw [beq_iff_eq]; omega
      have CV := HV hk w3
      go_wp2_with (fail)
      refine CV.out.mono ?_
      rintro e w4 ⟨rfl, hl4⟩
      have X4 := hide ((Below.block hl4 g (lt_of_block HB3.out)).trans HB3.out)
      have Y4 := hide ((Below.block hl4 (w.heap.size + 1) (lt_of_block XB3.out)).trans XB3.out)
      have e4 := hide (later_cell hl4 D3.out)
      have L4 := hide (L3.out.trans hl4)
      clear hl4 CV c0 c1 c2 c3 f2 d3
      obtain ⟨c0, c1, c2, c3⟩ := cells4 X4.out
      have f2 := frozen_of_row w4 g 2 _ _ X4.out
      have Y5 : Hid ((w4.setCell ⟨g, 2, none⟩ (.int .i64 (valF l : Int))).heap[w.heap.size + 1]? = some (.cells zeroTok 88 (0, 0))) := ((grown_set w4 g 2 _).block _ (lt_of_block Y4.out) (by intro e; have := Option.some.inj e; have := hgw.out; omega)).trans Y4.out
      have L5 : Hid (Later w (w4.setCell ⟨g, 2, none⟩ (.int .i64 (valF l : Int)))) := Below.trans L4.out (below_grown (B := w.heap.size) (grown_set w4 g 2 _) (by have := hgw.out; omega) (by have := Below.size L4.out; omega))
      go_wp2_with (refine wpList_store_box (by rfl) 88 _ _ (by rfl) (w.heap.size + 1) 0 #[.int .i64 2, .string s, .int .i64 (valF l : Int), .int .i64 (n : Int)] (by rfl) (by rfl) 88 _ Y5.out (by kernel_rfl) (by exact Nat.le_of_ble_eq_true rfl) (by simp [Value.oneCell']) ?_; intro w7 hb7 hg7)
      refine bodyPost_ret (results_cell_row Tryd.results42 _ _ (w.heap.size + 1) 88 _ (0, 0) _ (by rfl) hb7 Tryd.underlying88 (by rfl) (by kernel_rfl)) (by rfl) ⟨by simp [putAt, zeroTok], ?_⟩
      exact Below.trans L5.out (below_grown (B := w.heap.size) hg7 (by omega) (by have := Below.size L5.out; omega))
    · have hkb : ((k : Int) == 2) = false := by rw [beq_eq_false_iff_ne]; omega
      go_wp2_with (refine wpList_store_box (by rfl) 88 _ _ (by rfl) (w.heap.size + 1) 0 #[.int .i64 ((k : Int)), .string s, .int .i64 0, .int .i64 (n : Int)] (by rfl) (by rfl) 88 _ XB3.out (by kernel_rfl) (by exact Nat.le_of_ble_eq_true rfl) (by simp [Value.oneCell']) ?_; intro w7 hb7 hg7)
      refine bodyPost_ret (results_cell_row Tryd.results42 _ _ (w.heap.size + 1) 88 _ (0, 0) _ (by rfl) hb7 Tryd.underlying88 (by rfl) (by kernel_rfl)) (by rfl) ⟨by simp [putAt, zeroTok], ?_⟩
      exact Below.trans L3.out (below_grown (B := w.heap.size) hg7 (by omega) (by have := Below.size L3.out; omega))
end
end Go.Proofs.YtdahnjcoflifbaaDoor
/- A literal slice of one struct, and append of such a slice to a row, at an operation of a region that draws its order. -/
namespace Go.Proofs.YtdahnjcoflifbaaDoor
open Go.RowKit

section
variable {P : Program} {w : World} {op : Oper} {a : Act} {K : Act → World → Prop} {Q : Exit → Act → World → Prop}
theorem wp_buildSlice_one (t e : TypeId) (x : Operand) (ho : op.op = .buildSlice t 1 #[(0, x)]) (i : TypeInfo) (z : Value) (k : Nat) (ht : P.underlying t = some (.slice e)) (hi : P.info? e = some i) (hz : i.zero = some z) (hs : i.size = k) (hk : 0 < k) (hk2 : k ≤ 16777216)
    (cells : Array Value) (hx : a.eval x = .agg cells) (hc : cells.size = k)
    (h : K (a.put op.dst (.slice (some ⟨w.heap.size, 0, none⟩) 1 1)) (w.alloc (.cells cells e (0, 0)))) : op.wp P a w K Q := by
  have hr := run_buildSlice_one (P := P) (w := w) t e i z k ht hi hz hs hk hk2 cells hc
  unfold Oper.wp
  simp [execOp, ho, hx, hr, Result.andThen]
  exact h
/-- A literal slice of one struct is a slice of it, in a new block. -/
theorem flat_one (w : World) (e k : Nat) (cells : Array Value) (hc : cells.size = k) (h1 : ∀ u ∈ cells.toList, u.oneCell' = true) (F : Nat → Prop) (hF : F w.heap.size) :
    FlatAt F (w.alloc (.cells cells e (0, 0))) k (.slice (some ⟨w.heap.size, 0, none⟩) 1 1) 1 cells.toList := by
  have hb : (w.alloc (.cells cells e (0, 0))).heap[w.heap.size]? = some (.cells cells e (0, 0)) := heap_alloc_new _ _
  refine ⟨by simp [hc], h1, some ⟨w.heap.size, 0, none⟩, 1, rfl, Nat.le_refl _, by unfold maxLen; omega, (fun h => by cases h), fun _ => ⟨w.heap.size, 0, rfl, hF, lt_of_block hb, fun j u hj => ?_⟩⟩
  rw [cell_of_row _ _ _ _ _ _ hb, Nat.zero_add]
  simpa using hj
theorem wp_append_flat (s x : Operand) (t : TypeId)
    (ho : op.op = .call { callee := .builtin .append, args := #[s, x], argTypes := #[t, t] })
    (base : Nat) (e : TypeId) (i : TypeInfo) (z : Value) (k bytes : Nat) (ht : P.underlying t = some (.slice e)) (hi : P.info? e = some i) (hz : i.zero = some z)
    (hsize : i.size = k) (hby : i.bytes = bytes) (hzs : z.cells.size = k) (hk : 0 < k)
    (v : Value) (n : Nat) (xs : List Value) (hs : a.eval s = v) (hown : w.ownsRow base e k v n xs)
    (g c m : Nat) (ys : List Value) (hx : a.eval x = .slice (some ⟨g, 0, none⟩) m c) (F : Nat → Prop) (hl : FlatAt F w k (.slice (some ⟨g, 0, none⟩) m c) m ys) (hm : 0 < m) (hroom : n + m ≤ maxLen) (hbytes : (n + m) * bytes ≤ 140737488355328) (hbase : base ≤ w.heap.size)
    (h : ∀ v' w', w'.ownsRow base e k v' (n + m) (xs ++ ys) → w.grownBy w' v.ownBlock → (v'.ownBlock = v.ownBlock ∨ v'.ownBlock = some w.heap.size) → K (a.put op.dst v') w') : op.wp P a w K Q := by
  obtain ⟨hlen, h1, A', c', hv, h3, h4, h5, h6⟩ := hl
  obtain ⟨rfl, rfl⟩ : some ⟨g, 0, none⟩ = A' ∧ c = c' := by injection hv with e1 _ e3; exact ⟨e1, e3⟩
  obtain ⟨v', w', hr, h2, h3, _, h5⟩ := run_append_own_at (P := P) w base t op.type e i z k bytes ht hi hz hsize hby hzs hk v n xs hown ⟨g, 0, none⟩ m c ys hlen
      (fun j u hu => by
        obtain ⟨b, off, h, _, _, hr⟩ := h6 hm
        injection h with h
        injection h with e1 e2
        subst e1 e2
        rw [Addr.add_lit]
        exact hr j u hu) h1 hroom hbytes hbase
  unfold Oper.wp execOp
  simp only [ho, resolve, invoke, builtin, Sem.run_bind, Sem.run_pure, Result.andThen_ok, List.map_toArray, List.map_cons, List.map_nil, hs, hx, hr]
  exact h v' w' h2 h3 h5
end
end Go.Proofs.YtdahnjcoflifbaaDoor
/- Append of a slice of structs to a row of the call's own, and where the row lies behind it. -/
namespace Go.Proofs.YtdahnjcoflifbaaDoor
open Go.RowKit
section
variable {P : Program} {w : World}
theorem wpList_append_flat_to {ops : Array Oper} {rest : List Oper} {o : Oper} {a : Act} {Q : Exit → Act → World → Prop} (hgd : o.guard = none) (s x : Operand) (t : TypeId)
    (ho : o.op = .call { callee := .builtin .append, args := #[s, x], argTypes := #[t, t] })
    (base : Nat) (e : TypeId) (i : TypeInfo) (z : Value) (k bytes : Nat) (ht : P.underlying t = some (.slice e)) (hi : P.info? e = some i) (hz : i.zero = some z)
    (hsize : i.size = k) (hby : i.bytes = bytes) (hzs : z.cells.size = k) (hk : 0 < k)
    (v : Value) (n : Nat) (xs : List Value) (hs : a.eval s = v) (hown : w.ownsRow base e k v n xs)
    (g c m : Nat) (ys : List Value) (hx : a.eval x = .slice (some ⟨g, 0, none⟩) m c) (F : Nat → Prop) (hl : FlatAt F w k (.slice (some ⟨g, 0, none⟩) m c) m ys) (hm : 0 < m) (hroom : n + m ≤ maxLen) (hbytes : (n + m) * bytes ≤ 140737488355328) (hbase : base ≤ w.heap.size)
    (h : ∀ v' w', w'.ownsRow base e k v' (n + m) (xs ++ ys) → w.grownBy w' v.ownBlock → (v'.ownBlock = v.ownBlock ∨ v'.ownBlock = some w.heap.size) → wpList P ops Q rest (a.put o.dst v') w') : wpList P ops Q (o :: rest) a w :=
  wpList_plain hgd fun _ hK => wp_append_flat s x t ho base e i z k bytes ht hi hz hsize hby hzs hk v n xs hs hown g c m ys hx F hl hm hroom hbytes hbase (fun v' w' h1 h2 h3 => hK _ _ (h v' w' h1 h2 h3))
end
end Go.Proofs.YtdahnjcoflifbaaDoor
/- The tokens of a text: the call. -/
namespace Go.Proofs.YtdahnjcoflifbaaDoor
open Go.RowKit

theorem own_stays {w w' : World} {base e k n : Nat} {v : Value} {xs : List Value} (h : w.ownsRow base e k v n xs) (hk : ∀ q, v.ownBlock = some q → w'.heap[q]? = w.heap[q]?) : w'.ownsRow base e k v n xs := by
  obtain ⟨h1, h2⟩ := h
  refine ⟨h1, ?_⟩
  rcases h2 with h2 | ⟨g, cap, cur, rfl, hg, hh, h3⟩
  · exact .inl h2
  · exact .inr ⟨g, cap, cur, rfl, hg, (hk g rfl).trans hh, h3⟩
theorem own_later {w w' : World} {base e k n : Nat} {v : Value} {xs : List Value} (h : w.ownsRow base e k v n xs) (hl : Later w w') : w'.ownsRow base e k v n xs := own_stays h fun q hq => Below.block hl q (h.lt q hq).2
theorem own_type {w : World} {base e k n q : Nat} {v : Value} {xs : List Value} (h : w.ownsRow base e k v n xs) (hq : v.ownBlock = some q) : ∃ cs, w.heap[q]? = some (.cells cs e (0, 0)) := by
  rcases h.2 with ⟨rfl, _⟩ | ⟨g, cap, cur, rfl, _, hh, _⟩
  · simp [Value.ownBlock] at hq
  · simp [Value.ownBlock] at hq
    subst hq
    exact ⟨_, hh⟩
/-- A row stays where one block of another type is turned. -/
theorem own_apart {w w' : World} {base e k n g t : Nat} {v : Value} {xs : List Value} {cs : Array Value} (h : w.ownsRow base e k v n xs) (hg : w.heap[g]? = some (.cells cs t (0, 0))) (hne : e ≠ t) (hw : w.grownBy w' (some g)) : w'.ownsRow base e k v n xs :=
  own_stays h fun q hq => hw.block q (h.lt q hq).2 (fun e2 => by
    obtain ⟨c2, h2⟩ := own_type h hq
    have := Option.some.inj e2
    subst this
    rw [h2] at hg
    injection hg with hg
    injection hg with _ ht
    exact hne ht)
theorem apart_own {w : World} {base e k n g t : Nat} {v : Value} {xs : List Value} {cs : Array Value} (h : w.ownsRow base e k v n xs) (hg : w.heap[g]? = some (.cells cs t (0, 0))) (hne : e ≠ t) : some g ≠ v.ownBlock := fun e2 => by
  obtain ⟨c2, h2⟩ := own_type h e2.symm
  rw [h2] at hg
  injection hg with hg
  injection hg with _ ht
  exact hne ht

/-- A row of tokens, of the call's own. -/
def TokRow (base : Nat) (w : World) (v : Value) (ts : List Tok) : Prop := w.ownsRow base 88 4 v ts.length (ts.flatMap Tok.cells)
theorem tok_cells_len (ts : List Tok) : (ts.flatMap Tok.cells).length = ts.length * 4 := flat_len Tok.cells 4 ts fun _ _ => rfl
theorem TokRow.nil_ (base : Nat) (w : World) : TokRow base w (.slice none 0 0) [] := World.ownsRow_nil w base _ 4
theorem info_tok : (Tryd.prog.info? 88).map (fun i => (i.zero, i.size, i.bytes)) = some (some (.agg #[.int .i64 0, .string ⟨#[]⟩, .int .i64 0, .int .i64 0]), 4, 40) := by kernel_rfl
/-- What Tokens answers. -/
def Told (w : World) (l : List UInt8) (e : Ending) (w' : World) : Prop :=
  ∃ v, e = .returned (.tuple #[v, .int .i64 ((answer l).2.1 : Int), .int .i64 ((answer l).2.2 : Int)]) ∧ TokRow w.heap.size w' v (answer l).1 ∧ Later w w'

theorem sort_at {l : List PartD} (h : l.map (fun p => (p.k, p.fb, p.fg)) = sorts) {j : Nat} {p : PartD} (hp : l[j]? = some p) : sorts[j]? = some (p.k, p.fb, p.fg) := by
  rw [← h, List.getElem?_map, hp]
  rfl
theorem sorts_go : ∀ (kk : Nat) (q : Nat × (Nat → Bool) × (Nat → Bool)), kk ≠ 0 → kk ≤ 5 → sorts[kk - 1]? = some q → q.1 = (if kk ≤ 3 then kk else 0) ∧ q.2.2 = goB kk := by
  intro kk q h0 h5 hq
  have : kk = 1 ∨ kk = 2 ∨ kk = 3 ∨ kk = 4 ∨ kk = 5 := by omega
  rcases this with rfl | rfl | rfl | rfl | rfl <;> (obtain rfl := Option.some.inj hq; exact ⟨rfl, funext fun c => rfl⟩)

theorem extract_list (s : ByteArray) (i j : Nat) : s.extract i j = ⟨((s.data.toList.drop i).take (j - i)).toArray⟩ := by
  have := ByteArray.extract_mk s.data.toList i j
  simpa using this
theorem kind_two {b : Nat} (h : kindB b = 2) : digitB b = true := by
  unfold kindB at h
  by_cases h1 : smallB b = true
  · simp [h1] at h
  · by_cases h2 : digitB b = true
    · exact h2
    · simp [h1, h2] at h
      repeat' split at h
      all_goals simp at h
/-- The number that a pointer leads to. -/
def ptrInt (v : Value) (w : World) : Nat := match v with
  | .pointer (some p) => match w.cell? p with
    | some (.int _ n) => n.toNat
    | _ => 0
  | _ => 0

theorem drop_next {L r : List UInt8} {b : UInt8} {a : Nat} (h : L.drop a = b :: r) (k : Nat) : L.drop (a + ((more k r).length + 1)) = rest k r := by
  rw [← List.drop_drop, h, List.drop_succ_cons]
  have e := List.drop_left (l₁ := more k r) (l₂ := rest k r)
  rwa [more_rest] at e
/-- Behind a round: the place is turned in its box, and a new box takes it over. -/
theorem round_next {w1 wr W : World} {g a a' : Nat} {v : Value} {acc : List Tok} {L : List UInt8} {z : Int} (cg : wr.cell? ⟨g, 0, none⟩ = some (.int .i64 (a : Int))) (hg : ∃ x, W.heap[g]? = some (.cells #[x] 3 (0, 0))) (hge : w1.heap.size ≤ g) (hrow : TokRow w1.heap.size W v acc) (hl : Later w1 W)
    (hz : z = (a' : Int)) (haa : a < a') (haL : a' ≤ L.length) (hacc : acc.length ≤ a') (hto : ahead acc (toks (L.drop a') a') = toks L 0) :
    (∃ (g_1 a_1 : Nat) (acc : List Tok), Value.pointer (some ⟨W.heap.size, 0, none⟩) = .pointer (some ⟨g_1, 0, none⟩) ∧ a_1 ≤ L.length ∧ acc.length ≤ a_1 ∧ ahead acc (toks (L.drop a_1) a_1) = toks L 0 ∧
      ((W.setCell ⟨g, 0, none⟩ (.int .i64 z)).alloc (.cells #[.int .i64 z] 3 (0, 0))).heap[g_1]? = some (.cells #[.int .i64 (a_1 : Int)] 3 (0, 0)) ∧ w1.heap.size ≤ g_1 ∧ TokRow w1.heap.size ((W.setCell ⟨g, 0, none⟩ (.int .i64 z)).alloc (.cells #[.int .i64 z] 3 (0, 0))) v acc ∧ Later w1 ((W.setCell ⟨g, 0, none⟩ (.int .i64 z)).alloc (.cells #[.int .i64 z] 3 (0, 0)))) ∧
    L.length - ptrInt (.pointer (some ⟨W.heap.size, 0, none⟩)) ((W.setCell ⟨g, 0, none⟩ (.int .i64 z)).alloc (.cells #[.int .i64 z] 3 (0, 0))) < L.length - ptrInt (.pointer (some ⟨g, 0, none⟩)) wr := by
  subst hz
  obtain ⟨x, hg⟩ := hg
  have hn : ((W.setCell ⟨g, 0, none⟩ (.int .i64 (a' : Int))).alloc (.cells #[.int .i64 (a' : Int)] 3 (0, 0))).heap[W.heap.size]? = some (.cells #[.int .i64 (a' : Int)] 3 (0, 0)) := by
    have := heap_alloc_new (W.setCell ⟨g, 0, none⟩ (.int .i64 (a' : Int))) (.cells #[.int .i64 (a' : Int)] 3 (0, 0))
    simpa using this
  have hsz := Below.size hl
  have hset := grown_set W g 0 (.int .i64 (a' : Int))
  have hl2 : Later w1 (W.setCell ⟨g, 0, none⟩ (.int .i64 (a' : Int))) := Below.trans hl (below_grown (B := w1.heap.size) hset hge hsz)
  refine ⟨⟨W.heap.size, a', acc, rfl, haL, hacc, hto, hn, hsz, (own_apart hrow hg (by decide) hset).alloc _, hl2.alloc (Below.size hl2) _⟩, ?_⟩
  have e1 : ptrInt (.pointer (some ⟨g, 0, none⟩)) wr = a := by simp [ptrInt, cg]
  have e2 : ptrInt (.pointer (some ⟨W.heap.size, 0, none⟩)) ((W.setCell ⟨g, 0, none⟩ (.int .i64 (a' : Int))).alloc (.cells #[.int .i64 (a' : Int)] 3 (0, 0))) = a' := by
    have := cell_of_row _ W.heap.size 0 _ _ _ hn
    unfold ptrInt
    simp only [this]
    simp
  rw [e1, e2]
  omega

section
variable {w : World}
set_option maxHeartbeats 8000000 in
set_option maxRecDepth 100000 in
theorem tokens_any (s : ByteArray) (hs : s.size ≤ 9223372036854775807) : Calls Tryd.prog 19 #[.string s] w (Told w s.data.toList) := by
  obtain ⟨L, hL⟩ : ∃ L, L = s.data.toList := ⟨_, rfl⟩
  have hlen : L.length = s.size := by rw [hL, Array.length_toList]; rfl
  rw [← hL]
  have HL := hide hL
  have HLEN := hide hlen
  have X0 := hide (heap_alloc_new w (.cells #[.string s] 9 (0, 0)))
  have L0 : Hid (Later w (w.alloc (.cells #[.string s] 9 (0, 0)))) := (Below.refl _ _).alloc (Nat.le_refl _) _
  by_cases hbig : 400 < L.length
  · have h400 : 400 < (s.size : Int) := by omega
    clear hL hlen
    go_enter Tryd.func19, Tryd.ntmps19
    go_wp2
    go_ret3
    have e : answer L = ([], 0, 12) := by unfold answer; rw [if_pos hbig]
    unfold Told
    rw [e]
    exact ⟨_, rfl, TokRow.nil_ _ _, L0.out⟩
  · have h400 : ¬ 400 < (s.size : Int) := by omega
    have hn400 : L.length ≤ 400 := by omega
    obtain ⟨i0, hi, hz0, hz1, hz2⟩ := info_parts info_tok
    have HI := hide hi
    have HZ0 := hide hz0
    have HZ1 := hide hz1
    have HZ2 := hide hz2
    clear hL hlen hbig hi hz0 hz1 hz2
    go_enter Tryd.func19, Tryd.ntmps19
    go_wp2_with (fail)
    refine (parts_any (w := w.alloc (.cells #[.string s] 9 (0, 0)))).mono ?_
    rintro e w1 ⟨A, rfl, ⟨l, hp, hsorts⟩, hl1⟩
    have HP := hide hp
    have HSO := hide hsorts
    have X1 := hide ((Below.block hl1 w.heap.size (lt_of_block X0.out)).trans X0.out)
    have L1 := hide (L0.out.trans hl1)
    clear hp hsorts hl1 X0 L0 h400
    go_wp2_with (fail)
    go_loopw [5, 7] (fun v5 v7 wr => ∃ (g a : Nat) (acc : List Tok), v7 = .pointer (some ⟨g, 0, none⟩) ∧ a ≤ L.length ∧ acc.length ≤ a ∧ ahead acc (toks (L.drop a) a) = toks L 0 ∧ wr.heap[g]? = some (.cells #[.int .i64 (a : Int)] 3 (0, 0)) ∧ w1.heap.size ≤ g ∧ TokRow w1.heap.size wr v5 acc ∧ Later w1 wr) (fun _ v7 wr => L.length - ptrInt v7 wr)
    case atStart =>
      refine ⟨w1.heap.size, 0, [], rfl, by omega, by simp, ?_, heap_alloc_new _ _, Nat.le_refl _, TokRow.nil_ _ _, (Below.refl _ _).alloc (Nat.le_refl _) _⟩
      rw [List.drop_zero]
      exact ahead_nil _ (toks_none _ _)
    case round =>
      obtain ⟨g, a, acc, rfl, ha, hacc, hto, hg, hge, hrow, hlat⟩ := hrel
      have HTO := hide hto
      have HG := hide hg
      have HGE := hide hge
      have HR := hide hrow
      have HLA := hide hlat
      have cg : wr.cell? ⟨g, 0, none⟩ = some (.int .i64 (a : Int)) := by simpa using cell_of_row wr g 0 _ _ _ hg
      have cs : wr.cell? ⟨w.heap.size, 0, none⟩ = some (.string s) := cell_later X1.out hlat
      have HCG := hide cg
      clear hto hg hge hrow hlat
      by_cases hlt : a < L.length
      · obtain ⟨b, hb⟩ : ∃ b, L[a]? = some b := ⟨_, List.getElem?_eq_getElem hlt⟩
        have hd : L.drop a = b :: L.drop (a + 1) := by
          rw [List.drop_eq_getElem_cons hlt]
          rw [List.getElem?_eq_getElem hlt] at hb
          injection hb with hb
          rw [hb]
        have hls : (a : Int) < (s.size : Int) := by have := HLEN.out; omega
        have C := hide (index_sorts cs cg (by have := HLEN.out; omega) (by rw [← HL.out]; exact hb) (HP.out.later HLA.out) HSO.out rfl)
        have HD := hide hd
        obtain ⟨r, hr⟩ : ∃ r, L.drop (a + 1) = r := ⟨_, rfl⟩
        rw [hr] at HD
        have HRR := hide hr
        clear hb hd hr
        obtain ⟨kk, hkk⟩ : ∃ kk, kindB b.toNat = kk := ⟨_, rfl⟩
        rw [hkk] at C
        have HK := hide hkk
        clear hkk
        cases kk with
        | zero =>
          go_wp2_with (fail)
          refine C.out.mono ?_
          rintro e w2 ⟨rfl, hl2⟩
          have cg2 := later_cell hl2 cg
          have HL2 := hide (HLA.out.trans hl2)
          clear hl2 C cg cs
          rw [show ((0 : Nat) : Int) - 1 = -1 from rfl]
          go_wp2_with (fail)
          go_region
          go_wp2_with (fail)
          go_ret3
          have hto := HTO.out
          rw [HD.out, toks_bad r a HK.out] at hto
          have e : answer L = ([], a, 11) := by
            unfold answer
            rw [if_neg (by omega), ← hto]
            rfl
          unfold Told
          rw [e]
          exact ⟨_, rfl, TokRow.nil_ _ _, L1.out.trans (HL2.out.trans (Later.drew _))⟩
        | succ j =>
          rw [show ((j + 1 : Nat) : Int) - 1 = (j : Int) from by omega] at C
          go_wp2_with (fail)
          refine C.out.mono ?_
          rintro e w2 ⟨rfl, hl2⟩
          have hj5 : j < 5 := by
            have := kind_cases b.toNat
            have := HK.out
            omega
          obtain ⟨pb, poff, p, rfl, _, hpj, hpbl, hprow, hsb, hsg⟩ := (HP.out.later (HLA.out.trans hl2)).at_ hj5
          obtain ⟨c0, c1, c2⟩ := range3 hprow
          obtain ⟨hk3, hgo⟩ := sorts_go (j + 1) _ (by omega) (by omega) (sort_at HSO.out hpj)
          simp only at hk3 hgo
          have HK3 := hide hk3
          have HGO := hide hgo
          have HSG := hide hsg
          have cg2 := later_cell hl2 cg
          have cs2 := later_cell hl2 cs
          have HR2 := hide (own_later HR.out hl2)
          have HG2 := hide ((Below.block hl2 g (lt_of_block HG.out)).trans HG.out)
          have HL2 := hide (HLA.out.trans hl2)
          have hj0 : (0 : Int) ≤ (j : Int) := by omega
          have hj5' : (j : Int) < 5 := by omega
          obtain ⟨k, pb1, pg1, fb, fg⟩ := p
          simp only [SetV.val] at c0 c1 c2
          simp only at HK3 HGO HSG
          clear hk3 hgo hsg hsb hprow hpj hl2 C cg cs HR HG
          obtain ⟨W2, hW2⟩ : ∃ W2, W2 = w2.alloc (.cells #[.int .i64 (k : Int), .func (.func pb1.F) #[] pb1.cs, .func (.func pg1.F) #[] pg1.cs] 85 (0, 0)) := ⟨_, rfl⟩
          obtain ⟨g2, hg2⟩ : ∃ g2, g2 = w2.heap.size := ⟨_, rfl⟩
          have XP : Hid (W2.heap[g2]? = some (.cells #[.int .i64 (k : Int), .func (.func pb1.F) #[] pb1.cs, .func (.func pg1.F) #[] pg1.cs] 85 (0, 0))) := by rw [hW2, hg2]; exact heap_alloc_new _ _
          have M2 : Hid (Later w2 W2) := by rw [hW2]; exact (Below.refl _ _).alloc (Nat.le_refl _) _
          have cg3 := later_cell M2.out cg2
          have cs3 := later_cell M2.out cs2
          have HR3 := hide (own_later HR2.out M2.out)
          have HG3 := hide ((Below.block M2.out g (lt_of_block HG2.out)).trans HG2.out)
          have HL3 := hide (HL2.out.trans M2.out)
          have HSG3 := hide (HSG.out.later M2.out)
          have HW2 := hide hW2.symm
          have HG2E := hide hg2.symm
          clear hW2 hg2
          go_wp2_with (fail)
          have hw2 := HW2.out
          have hg2e := HG2E.out
          simp only [hw2, hg2e]
          clear hw2 hg2e c0 c1 c2 cg2 cs2 HR2 HG2 HL2 HSG HW2 HG2E M2
          obtain ⟨m, hm⟩ : ∃ m, (more (j + 1) r).length = m := ⟨_, rfl⟩
          have hrl : r.length + 1 + a = L.length := by
            have := congrArg List.length HD.out
            simp at this
            omega
          have hmr : m ≤ r.length := by
            have := rest_len (j + 1) r
            omega
          have CL := hide (length_any (w := W2.drew) ⟨k, pb1, pg1, fb, fg⟩ b r (HSG3.out.later (Later.drew _)) (by omega))
          have hlenv : (r.takeWhile (fun c => fg c.toNat)).length = m := by rw [HGO.out]; exact hm
          rw [hlenv] at CL
          have HM := hide hm
          have hale : a ≤ s.size := by have := HLEN.out; omega
          have hex : s.extract a s.size = ⟨(b :: r).toArray⟩ := by
            rw [extract_list, ← HL.out, HD.out, List.take_of_length_le (by have := HLEN.out; simp; omega)]
          have HEX := hide hex
          have HALE := hide hale
          have hwr : IntKind.i64.wrap ((a : Int) + ((m : Int) + 1)) = ((a + (m + 1) : Nat) : Int) := by
            rw [wrap_small _ (by omega) (by omega)]
            omega
          unfold PartD.cells SetV.val at CL
          simp only at CL
          have HWR := hide hwr
          clear hm hlenv hex hwr hale
          refine wp_region_L (by kernel_rfl) ?_
          refine wpAnyL_take (i := 0) (d := some 29) (v := ?vaa0) rfl rfl (by kernel_rfl) (by kernel_rfl) (by kernel_rfl) (fun _ _ _ h => h) (by rfl) ?yaa0 ?_
          case yaa0 => (intro w' hw'; have y := later_cell ((Later.drew _).trans hw') cg3; go_simp; try (with_reducible rfl))
          simp only [Act.put]; try simp only [List.setIfInBounds_toArray]; try simp only [List.set_cons_zero, List.set_cons_succ]
          refine wpAnyL_take (i := 1) (d := some 30) (v := .agg #[.int .i64 (k : Int), .func (.func pb1.F) #[] pb1.cs, .func (.func pg1.F) #[] pg1.cs]) rfl rfl (by kernel_rfl) (by kernel_rfl) (by kernel_rfl) (fun _ _ _ h => h) (by rfl) ?yaa1 ?_
          case yaa1 => (intro w' hw'; exact exec_load_box 85 _ (by rfl) g2 0 (by rfl) 85 _ ((Below.block ((Later.drew _).trans hw') g2 (lt_of_block XP.out)).trans XP.out) 3 _ Tryd.underlying85 (by rfl) (by kernel_rfl) [.int .i64 (k : Int), .func (.func pb1.F) #[] pb1.cs, .func (.func pg1.F) #[] pg1.cs] (by rfl) (by rfl))
          simp only [Act.put]; try simp only [List.setIfInBounds_toArray]; try simp only [List.set_cons_zero, List.set_cons_succ]
          refine wpAnyL_take (i := 2) (d := some 31) (v := ?vaa2) rfl rfl (by kernel_rfl) (by kernel_rfl) (by kernel_rfl) (fun _ _ _ h => h) (by rfl) ?yaa2 ?_
          case yaa2 => (intro w' hw'; have y := later_cell ((Later.drew _).trans hw') cs3; go_simp; try (with_reducible rfl))
          simp only [Act.put]; try simp only [List.setIfInBounds_toArray]; try simp only [List.set_cons_zero, List.set_cons_succ]
          refine wpAnyL_take (i := 3) (d := some 32) (v := ?vaa3) rfl rfl (by kernel_rfl) (by kernel_rfl) (by kernel_rfl) (fun _ _ _ h => h) (by rfl) ?yaa3 ?_
          case yaa3 => (intro w' hw'; have y := later_cell ((Later.drew _).trans hw') cg3; go_simp; try (with_reducible rfl))
          simp only [Act.put]; try simp only [List.setIfInBounds_toArray]; try simp only [List.set_cons_zero, List.set_cons_succ]
          refine wpAnyL_take (i := 4) (d := some 33) (v := .string ⟨(b :: r).toArray⟩) rfl rfl (by kernel_rfl) (by kernel_rfl) (by kernel_rfl) (fun _ _ _ h => h) (by rfl) ?yaa4 ?_
          case yaa4 => (intro w' hw'; go_simp; rw [if_pos HALE.out, HEX.out])
          simp only [Act.put]; try simp only [List.setIfInBounds_toArray]; try simp only [List.set_cons_zero, List.set_cons_succ]
          refine wpAnyL_only (i := 5) rfl (by kernel_rfl) (by rfl) fun K hK => ?_
          go_simp
          refine CL.out.mono ?_
          rintro e w3 ⟨rfl, hl3⟩
          have M3 := hide ((Later.drew W2).trans hl3)
          refine hK.out _ _ hl3 ?_
          clear hl3
          clear hK K
          try (simp only [Act.put]; try simp only [List.setIfInBounds_toArray]; try simp only [List.set_cons_zero, List.set_cons_succ])
          refine wpAnyL_take (i := 6) (d := some 35) (v := .int .i64 ((a + (m + 1) : Nat) : Int)) rfl rfl (by kernel_rfl) (by kernel_rfl) (by kernel_rfl) (fun _ _ _ h => h) (by rfl) ?yaa6 ?_
          case yaa6 => (intro w' hw'; go_simp; rw [HWR.out]; omega)
          simp only [Act.put]; try simp only [List.setIfInBounds_toArray]; try simp only [List.set_cons_zero, List.set_cons_succ]
          refine wpAnyL_take (i := 7) (d := some 10) (v := ?vaa7) rfl rfl (by kernel_rfl) (by kernel_rfl) (by kernel_rfl) (fun _ _ _ h => h) (by rfl) ?yaa7 ?_
          case yaa7 => (intro w' hw'; go_simp; try (with_reducible rfl))
          simp only [Act.put]; try simp only [List.setIfInBounds_toArray]; try simp only [List.set_cons_zero, List.set_cons_succ]
          refine wpAnyL_done (by kernel_rfl) ?_ _
          have XP3 := hide ((Below.block M3.out g2 (lt_of_block XP.out)).trans XP.out)
          have HR4 := hide (own_later HR3.out M3.out)
          have HG4 := hide ((Below.block M3.out g (lt_of_block HG3.out)).trans HG3.out)
          have HL4 := hide (HL3.out.trans M3.out)
          have cg4 := later_cell M3.out cg3
          have cs4 := later_cell M3.out cs3
          have fg4 : w3.frozen? ⟨g, 0, none⟩ = false := frozen_of_row w3 g 0 _ _ HG4.out
          have ck4 : w3.cell? ⟨g2, 0, none⟩ = some (.int .i64 (k : Int)) := by simpa using cell_of_row w3 g2 0 _ _ _ XP3.out
          clear XP HR3 HG3 HL3 cg3 cs3 M3 CL HSG3
          have HTN := hide (toks_cons (b := b) r a (by rw [HK.out]; omega))
          by_cases hj3 : j + 1 ≤ 3
          · have hk : k = j + 1 := by rw [HK3.out, if_pos hj3]
            subst hk
            have hkb : (((j + 1 : Nat) : Int) == 0) = false := by rw [beq_eq_false_iff_ne]; omega
            go_wp2_with (fail)
            obtain ⟨T, hT⟩ : ∃ T, T = tokOf (j + 1) b r a := ⟨_, rfl⟩
            have HT := hide hT
            have CT := hide (token_any (w := w3.drew) ⟨j + 1, pb1, pg1, fb, fg⟩ (b :: more (j + 1) r) a (fun h2 => by
              simp only at h2
              have hk2 := HK.out
              rw [h2] at hk2 ⊢
              intro c hc
              rcases List.mem_cons.1 hc with rfl | hc
              · exact kind_two hk2
              · have := more_all 2 r c hc
                simpa [goB] using this) (by have := HM.out; simp; omega))
            have hTc : (Tok.mk (j + 1) (b :: more (j + 1) r) (if j + 1 = 2 then valF (b :: more (j + 1) r) else 0) a) = T := hT.symm
            simp only [hTc] at CT
            have hex2 : s.extract a (a + (m + 1)) = ⟨(b :: more (j + 1) r).toArray⟩ := by
              rw [extract_list, ← HL.out, HD.out, show a + (m + 1) - a = m + 1 from by omega, List.take_succ_cons]
              have e := List.take_left (l₁ := more (j + 1) r) (l₂ := rest (j + 1) r)
              rw [more_rest, HM.out] at e
              rw [e]
            have HEX2 := hide hex2
            unfold PartD.cells SetV.val at CT
            simp only at CT
            clear hT hTc hex2
            refine wp_region_V Later (fun j => j == 9) (by kernel_rfl) ?_
            refine wpAnyV_take pre_later (i := 0) (d := some 39) (v := ?vab0) rfl rfl (by kernel_rfl) (by kernel_rfl) (by kernel_rfl) (by kernel_rfl) (by kernel_rfl) (fun _ _ _ h => h) (by rfl) ?yab0 ?_
            case yab0 => (intro w' hw'; go_simp; try (with_reducible rfl))
            simp only [Act.put]; try simp only [List.setIfInBounds_toArray]; try simp only [List.set_cons_zero, List.set_cons_succ]
            refine wpAnyV_take pre_later (i := 1) (d := some 40) (v := .agg #[.int .i64 ((j + 1 : Nat) : Int), .func (.func pb1.F) #[] pb1.cs, .func (.func pg1.F) #[] pg1.cs]) rfl rfl (by kernel_rfl) (by kernel_rfl) (by kernel_rfl) (by kernel_rfl) (by kernel_rfl) (fun _ _ _ h => h) (by rfl) ?yab1 ?_
            case yab1 => (intro w' hw'; exact exec_load_box 85 _ (by rfl) g2 0 (by rfl) 85 _ ((Below.block ((Later.drew _).trans hw') g2 (lt_of_block XP3.out)).trans XP3.out) 3 _ Tryd.underlying85 (by rfl) (by kernel_rfl) [.int .i64 ((j + 1 : Nat) : Int), .func (.func pb1.F) #[] pb1.cs, .func (.func pg1.F) #[] pg1.cs] (by rfl) (by rfl))
            simp only [Act.put]; try simp only [List.setIfInBounds_toArray]; try simp only [List.set_cons_zero, List.set_cons_succ]
            refine wpAnyV_take pre_later (i := 2) (d := some 41) (v := ?vab2) rfl rfl (by kernel_rfl) (by kernel_rfl) (by kernel_rfl) (by kernel_rfl) (by kernel_rfl) (fun _ _ _ h => h) (by rfl) ?yab2 ?_
            case yab2 => (intro w' hw'; have y := later_cell ((Later.drew _).trans hw') cs4; go_simp; try (with_reducible rfl))
            simp only [Act.put]; try simp only [List.setIfInBounds_toArray]; try simp only [List.set_cons_zero, List.set_cons_succ]
            refine wpAnyV_take pre_later (i := 3) (d := some 42) (v := ?vab3) rfl rfl (by kernel_rfl) (by kernel_rfl) (by kernel_rfl) (by kernel_rfl) (by kernel_rfl) (fun _ _ _ h => h) (by rfl) ?yab3 ?_
            case yab3 => (intro w' hw'; have y := later_cell ((Later.drew _).trans hw') cg4; go_simp; try (with_reducible rfl))
            simp only [Act.put]; try simp only [List.setIfInBounds_toArray]; try simp only [List.set_cons_zero, List.set_cons_succ]
            refine wpAnyV_take pre_later (i := 4) (d := some 43) (v := ?vab4) rfl rfl (by kernel_rfl) (by kernel_rfl) (by kernel_rfl) (by kernel_rfl) (by kernel_rfl) (fun _ _ _ h => h) (by rfl) ?yab4 ?_
            case yab4 => (intro w' hw'; go_simp; try (with_reducible rfl))
            simp only [Act.put]; try simp only [List.setIfInBounds_toArray]; try simp only [List.set_cons_zero, List.set_cons_succ]
            refine wpAnyV_take pre_later (i := 5) (d := some 44) (v := .string ⟨(b :: more (j + 1) r).toArray⟩) rfl rfl (by kernel_rfl) (by kernel_rfl) (by kernel_rfl) (by kernel_rfl) (by kernel_rfl) (fun _ _ _ h => h) (by rfl) ?yab5 ?_
            case yab5 => (intro w' hw'; go_simp; rw [if_pos ⟨by omega, by have := HLEN.out; omega⟩, if_pos (by omega), show ((a : Int) + ((m : Int) + 1)).toNat = a + (m + 1) from by omega, HEX2.out])
            simp only [Act.put]; try simp only [List.setIfInBounds_toArray]; try simp only [List.set_cons_zero, List.set_cons_succ]
            refine wpAnyV_take pre_later (i := 6) (d := some 45) (v := ?vab6) rfl rfl (by kernel_rfl) (by kernel_rfl) (by kernel_rfl) (by kernel_rfl) (by kernel_rfl) (fun _ _ _ h => h) (by rfl) ?yab6 ?_
            case yab6 => (intro w' hw'; have y := later_cell ((Later.drew _).trans hw') cg4; go_simp; try (with_reducible rfl))
            simp only [Act.put]; try simp only [List.setIfInBounds_toArray]; try simp only [List.set_cons_zero, List.set_cons_succ]
            refine wpAnyV_only pre_later (i := 7) rfl (by kernel_rfl) (by rfl) fun K hK => ?_
            go_simp
            refine CT.out.mono ?_
            rintro e w4 ⟨rfl, hl4⟩
            have M4 := hide ((Later.drew w3).trans hl4)
            refine hK.out _ _ hl4 ?_
            clear hl4
            clear hK K
            try (simp only [Act.put]; try simp only [List.setIfInBounds_toArray]; try simp only [List.set_cons_zero, List.set_cons_succ])
            refine wpAnyV_only pre_later (i := 8) rfl (by kernel_rfl) (by rfl) fun K hK => ?_
            refine wp_buildSlice_one 45 88 _ (by rfl) i0 _ 4 Tryd.underlying45 HI.out HZ0.out HZ1.out (by omega) (by omega) T.cells.toArray (by rfl) (by rfl) ?_
            obtain ⟨w5, hw5⟩ : ∃ w5, w5 = w4.alloc (.cells T.cells.toArray 88 (0, 0)) := ⟨_, rfl⟩
            have F5 : Hid (FlatAt (fun _ => True) w5 4 (.slice (some ⟨w4.heap.size, 0, none⟩) 1 1) 1 T.cells) := by rw [hw5]; exact flat_one w4 88 4 T.cells.toArray (by rfl) (by simpa using T.one) _ trivial
            have M5 : Hid (Later w4 w5) := by rw [hw5]; exact (Below.refl _ _).alloc (Nat.le_refl _) _
            rw [← hw5]
            refine hK.out _ _ M5.out (?_ : wpAnyV _ _ _ _ _ _ _ _ (Act.put _ (some 47) _) _)
            clear hw5
            clear hK K
            try (simp only [Act.put]; try simp only [List.setIfInBounds_toArray]; try simp only [List.set_cons_zero, List.set_cons_succ])
            refine wpAnyV_write (i := 9) rfl rfl (by kernel_rfl) (by rfl) fun K hK => ?_
            refine wp_append_flat _ _ 45 (by rfl) w1.heap.size 88 i0 _ 4 40 Tryd.underlying45 HI.out HZ0.out HZ1.out HZ2.out (by rfl) (by omega) u5 acc.length (acc.flatMap Tok.cells) (by rfl) (own_later (own_later HR4.out M4.out) M5.out) w4.heap.size 1 1 T.cells (by rfl) _ F5.out (by omega) (by unfold maxLen; omega) (by omega) (by have := Below.size HL4.out; have := Below.size M4.out; have := Below.size M5.out; omega) ?_
            intro v6 w6 ho6 hg6 _
            have HR6 : Hid (TokRow w1.heap.size w6 v6 (acc ++ [T])) := by
              show World.ownsRow _ _ _ _ _ _ _
              rw [List.length_append, List.flatMap_append]
              simpa using ho6
            have HG6 := hide hg6
            clear ho6 hg6
            refine hK.out _ _ (?_ : wpAnyV _ _ _ _ _ _ _ _ (Act.put _ (some 48) _) _)
            clear hK K
            try (simp only [Act.put]; try simp only [List.setIfInBounds_toArray]; try simp only [List.set_cons_zero, List.set_cons_succ])
            refine wpAnyV_pure pre_later (i := 10) (d := some 5) (v := ?vab10) rfl rfl (by kernel_rfl) (by kernel_rfl) (by kernel_rfl) (by kernel_rfl) (fun _ _ _ h => h) (by rfl) ?yab10 ?_
            case yab10 => (intro w'; go_simp; try (with_reducible rfl))
            simp only [Act.put]; try simp only [List.setIfInBounds_toArray]; try simp only [List.set_cons_zero, List.set_cons_succ]
            refine wpAnyV_done (by kernel_rfl) ?_ _
            have HR5 := hide (own_later (own_later HR4.out M4.out) M5.out)
            have HG5 := hide ((Below.block M5.out g (by have := Below.size M4.out; have := lt_of_block HG4.out; omega)).trans ((Below.block M4.out g (lt_of_block HG4.out)).trans HG4.out))
            have hg7 := HG6.out.block g (lt_of_block HG5.out) (apart_own HR5.out HG5.out (by decide))
            have HG7 := hide (hg7.trans HG5.out)
            have cg7 : w6.cell? ⟨g, 0, none⟩ = some (.int .i64 (a : Int)) := by simpa using cell_of_row w6 g 0 _ _ _ HG7.out
            have fg7 : w6.frozen? ⟨g, 0, none⟩ = false := frozen_of_row w6 g 0 _ _ HG7.out
            have HL5 := hide (HL4.out.trans (M4.out.trans M5.out))
            have HL7 : Hid (Later w1 w6) := Below.trans HL5.out (later_own HR5.out (Below.size HL5.out) HG6.out)
            clear hg7 HR5 HG5 HL5 M4 M5 cg4 cs4 ck4 fg4 CT HR4 HG4 HL4
            go_wp2_with (fail)
            refine round_next HCG.out ⟨_, HG7.out⟩ HGE.out HR6.out HL7.out (a' := a + (m + 1)) (by omega) (by omega) (by omega) (by simp; omega) ?_
            have hto := HTO.out
            rw [HD.out, HTN.out, HK.out, if_pos hj3, ← HT.out, HM.out, ahead_ahead] at hto
            rw [← hto, ← HM.out, drop_next HD.out (j + 1), HM.out, show a + (m + 1) = a + 1 + m from by omega]
          · have hk : k = 0 := by rw [HK3.out, if_neg hj3]
            subst hk
            go_wp2_with (fail)
            refine round_next HCG.out ⟨_, HG4.out⟩ HGE.out HR4.out HL4.out (a' := a + (m + 1)) (by omega) (by omega) (by omega) (by omega) ?_
            have hto := HTO.out
            rw [HD.out, HTN.out, HK.out, if_neg hj3, HM.out, ahead_ahead, List.append_nil] at hto
            rw [← hto, ← HM.out, drop_next HD.out (j + 1), HM.out, show a + (m + 1) = a + 1 + m from by omega]
      · have hls : ¬ (a : Int) < (s.size : Int) := by have := HLEN.out; omega
        go_wp2_with (fail)
        go_ret3
        have hae : a = L.length := by omega
        have hto := HTO.out
        rw [hae, List.drop_length, toks_nil] at hto
        have e : answer L = (acc, 0, 0) := by
          unfold answer
          rw [if_neg (by omega), ← hto]
          simp [ahead]
        unfold Told
        rw [e]
        exact ⟨_, rfl, own_base HR.out (Below.size L1.out), L1.out.trans HLA.out⟩
end
end Go.Proofs.YtdahnjcoflifbaaDoor
/- The document's kinds of bytes, and its names. -/
namespace Go.Proofs.YtdahnjcoflifbaaDoor
open Go.RowKit

section
variable {w : World}
theorem refSmall_any (b : Nat) : Calls Tryd.prog 49 #[.int .u8 (b : Int)] w fun e w' => e = .returned (.bool (smallB b)) ∧ w' = w := by
  unfold smallB
  go_enter Tryd.func49, Tryd.ntmps49
  by_cases h1 : 97 ≤ b
  · by_cases h2 : b ≤ 122
    · have e1 : (97 : Int) ≤ (b : Int) := by omega
      have e2 : (b : Int) ≤ 122 := by omega
      go_wp2
      go_ret
      exact ⟨ret_bool (by simp [h1, h2]), rfl⟩
    · have e1 : (97 : Int) ≤ (b : Int) := by omega
      have e2 : ¬ (b : Int) ≤ 122 := by omega
      go_wp2
      go_ret
      exact ⟨ret_bool (by simp), rfl⟩
  · have e1 : ¬ (97 : Int) ≤ (b : Int) := by omega
    go_wp2
    go_ret
    exact ⟨ret_bool (by simp), rfl⟩
theorem refDigit_any (b : Nat) : Calls Tryd.prog 51 #[.int .u8 (b : Int)] w fun e w' => e = .returned (.bool (digitB b)) ∧ w' = w := by
  unfold digitB
  go_enter Tryd.func51, Tryd.ntmps51
  by_cases h1 : 48 ≤ b
  · by_cases h2 : b ≤ 57
    · have e1 : (48 : Int) ≤ (b : Int) := by omega
      have e2 : (b : Int) ≤ 57 := by omega
      go_wp2
      go_ret
      exact ⟨ret_bool (by simp [h1, h2]), rfl⟩
    · have e1 : (48 : Int) ≤ (b : Int) := by omega
      have e2 : ¬ (b : Int) ≤ 57 := by omega
      go_wp2
      go_ret
      exact ⟨ret_bool (by simp), rfl⟩
  · have e1 : ¬ (48 : Int) ≤ (b : Int) := by omega
    go_wp2
    go_ret
    exact ⟨ret_bool (by simp), rfl⟩
set_option maxHeartbeats 1000000 in
theorem refPart_any (b : Nat) : Calls Tryd.prog 50 #[.int .u8 (b : Int)] w fun e w' => e = .returned (.bool (partB b)) ∧ w' = w := by
  unfold partB
  have CS := hide (refSmall_any (w := w) b)
  have CD := hide (refDigit_any (w := w) b)
  obtain ⟨p, hp⟩ : ∃ p, smallB b = p := ⟨_, rfl⟩
  obtain ⟨q, hq⟩ : ∃ q, digitB b = q := ⟨_, rfl⟩
  rw [hp] at CS ⊢
  rw [hq] at CD ⊢
  clear hp hq
  have e45 : (b == 45) = ((b : Int) == 45) := by rw [Bool.eq_iff_iff, beq_iff_eq, beq_iff_eq]; omega
  have e95 : (b == 95) = ((b : Int) == 95) := by rw [Bool.eq_iff_iff, beq_iff_eq, beq_iff_eq]; omega
  rw [e45, e95]
  clear e45 e95
  go_enter Tryd.func50, Tryd.ntmps50
  go_wp2_with (fail)
  refine CS.out.mono ?_
  rintro e w1 ⟨rfl, rfl⟩
  cases p with
  | true =>
    go_wp2_with (fail)
    go_ret
    exact ⟨ret_bool (by simp), rfl⟩
  | false =>
    go_wp2_with (fail)
    refine CD.out.mono ?_
    rintro e w1 ⟨rfl, rfl⟩
    cases q with
    | true =>
      go_wp2_with (fail)
      go_ret
      exact ⟨ret_bool (by simp), rfl⟩
    | false =>
      cases h45 : ((b : Int) == 45) with
      | true =>
        go_wp2_with (fail)
        go_ret
        exact ⟨ret_bool (by rw [h45]; simp), rfl⟩
      | false =>
        go_wp2_with (fail)
        go_ret
        exact ⟨ret_bool (by rw [h45]; simp), rfl⟩

/-- A text at a place. -/
theorem idx_at (s : ByteArray) (q : Nat) (c : UInt8) (hq : q < s.size) (hc : s.data.toList[q]? = some c) (W : World) : (Instr.index 9 (.string s) (.int .i64 (q : Int))).run Tryd.prog W = .ok (.int .u8 (c.toNat : Int)) W := by
  obtain ⟨c', hc', hx, _⟩ := byte_at s q hq
  obtain rfl : c = c' := by rw [hc] at hc'; injection hc'
  rw [run_index_string (P := Tryd.prog) W 9 s .i64 (q : Int) Tryd.underlying9, dif_pos ⟨by omega, by omega⟩]
  have e : (q : Int).toNat = q := by omega
  simp only [e, hx]

set_option maxHeartbeats 2000000 in
theorem refName_any (s : ByteArray) : Calls Tryd.prog 32 #[.string s] w fun e w' => e = .returned (.bool (nameF s.data.toList)) ∧ Later w w' := by
  obtain ⟨L, hL⟩ : ∃ L, L = s.data.toList := ⟨_, rfl⟩
  have hlen : L.length = s.size := by rw [hL, Array.length_toList]; rfl
  rw [← hL]
  have HL := hide hL
  have HLEN := hide hlen
  have L0 := hide (Later.refl w)
  by_cases h1 : s.size < 1
  · have hb : (s.size : Int) < 1 := by omega
    have hf : nameF L = false := by
      cases hn : nameF L with
      | false => rfl
      | true => have := ((nameF_iff L).1 hn).1; omega
    rw [hf]
    clear hL hlen hf
    go_enter Tryd.func32, Tryd.ntmps32
    go_wp2
    go_ret
    exact ⟨rfl, L0.out⟩
  · have hb : ¬ (s.size : Int) < 1 := by omega
    by_cases h2 : 16 < s.size
    · have hb2 : 16 < (s.size : Int) := by omega
      have hf : nameF L = false := by
        cases hn : nameF L with
        | false => rfl
        | true => have := ((nameF_iff L).1 hn).2.1; omega
      rw [hf]
      clear hL hlen hf
      go_enter Tryd.func32, Tryd.ntmps32
      go_wp2
      go_ret
      exact ⟨rfl, L0.out⟩
    · have hb2 : ¬ 16 < (s.size : Int) := by omega
      obtain ⟨c0, hc0⟩ : ∃ c, L[0]? = some c := ⟨_, List.getElem?_eq_getElem (by omega)⟩
      have hi0 : ∀ W : World, (Instr.index 9 (.string s) (.int .i64 0)).run Tryd.prog W = .ok (.int .u8 (c0.toNat : Int)) W := fun W => by
        have := idx_at s 0 c0 (by omega) (by rw [← hL]; exact hc0) W
        exact this
      have HC0 := hide hc0
      have CS := hide (refSmall_any (w := w) c0.toNat)
      clear hL hlen hc0
      cases hs : smallB c0.toNat with
      | false =>
        rw [hs] at CS
        have hf := nameF_not0 HC0.out hs
        rw [hf]
        clear hf hs
        go_enter Tryd.func32, Tryd.ntmps32
        go_wp2_with (fail)
        refine CS.out.mono ?_
        rintro e w1 ⟨rfl, rfl⟩
        go_wp2_with (fail)
        go_ret
        exact ⟨rfl, L0.out⟩
      | true =>
        rw [hs] at CS
        have HS := hide hs
        clear hs
        go_enter Tryd.func32, Tryd.ntmps32
        go_wp2_with (fail)
        refine CS.out.mono ?_
        rintro e w1 ⟨rfl, rfl⟩
        clear hi0 CS
        go_wp2_with (fail)
        go_loopw [3] (fun v wr => wr = w1 ∧ ∃ q : Nat, v = .int .i64 (q : Int) ∧ q ≤ L.length ∧ ∀ c ∈ L.take q, partB c.toNat = true) (fun v _ => L.length - (intOf v).toNat)
        case atStart => exact ⟨rfl, 0, rfl, by omega, by simp⟩
        case round =>
          obtain ⟨rfl, q, rfl, hq, hall⟩ := hrel
          have HA := hide hall
          clear hall
          by_cases hlt : q < L.length
          · obtain ⟨c, hc⟩ : ∃ c, L[q]? = some c := ⟨_, List.getElem?_eq_getElem hlt⟩
            have hls : (q : Int) < (s.size : Int) := by have := HLEN.out; omega
            have hi : ∀ W : World, (Instr.index 9 (.string s) (.int .i64 (q : Int))).run Tryd.prog W = .ok (.int .u8 (c.toNat : Int)) W := idx_at s q c (by omega) (by rw [← HL.out]; exact hc)
            have CP := hide (refPart_any (w := wr) c.toNat)
            have HC := hide hc
            clear hc
            cases hp : partB c.toNat with
            | false =>
              rw [hp] at CP
              have hf := nameF_not HC.out hp
              have HF := hide hf
              clear hf hp
              go_wp2_with (fail)
              refine CP.out.mono ?_
              rintro e w1 ⟨rfl, rfl⟩
              go_wp2_with (fail)
              go_ret
              exact ⟨ret_bool HF.out.symm, L0.out⟩
            | true =>
              rw [hp] at CP
              have HP := hide hp
              clear hp
              go_wp2_with (fail)
              refine CP.out.mono ?_
              rintro e w1 ⟨rfl, rfl⟩
              go_wp2_with (fail)
              go_roundw
              case rel =>
                refine ⟨trivial, q + 1, by go_num, by omega, ?_⟩
                intro y hy
                rw [List.take_add_one, HC.out] at hy
                simp only [Option.toList_some, List.mem_append, List.mem_singleton] at hy
                rcases hy with hy | rfl
                · exact HA.out y hy
                · exact HP.out
              case measure => simp [intOf]; omega
          · have hls : ¬ (q : Int) < (s.size : Int) := by have := HLEN.out; omega
            have hf : nameF L = true := by
              rw [nameF_iff]
              refine ⟨by have := HLEN.out; omega, by have := HLEN.out; omega, fun c hc => ?_, ?_⟩
              · rw [HC0.out] at hc
                injection hc with hc
                rw [← hc]
                exact HS.out
              · have := HA.out
                rwa [List.take_of_length_le (by omega)] at this
            go_wp2_with (fail)
            go_ret
            exact ⟨rfl, L0.out⟩
end
end Go.Proofs.YtdahnjcoflifbaaDoor
/- The document's tokens. -/
namespace Go.Proofs.YtdahnjcoflifbaaDoor
open Go.RowKit

/-- A row of the document's tokens, of the call's own. -/
def RTokRow (base : Nat) (w : World) (v : Value) (ts : List Tok) : Prop := w.ownsRow base 63 4 v ts.length (ts.flatMap Tok.cells)
theorem info_rtok : (Tryd.prog.info? 63).map (fun i => (i.zero, i.size, i.bytes)) = some (some (.agg #[.int .i64 0, .string ⟨#[]⟩, .int .i64 0, .int .i64 0]), 4, 40) := by kernel_rfl
/-- What the document's Tokens answers. -/
def RTold (w : World) (l : List UInt8) (e : Ending) (w' : World) : Prop :=
  ∃ v, e = .returned (.tuple #[v, .int .i64 ((answer l).2.1 : Int), .int .i64 ((answer l).2.2 : Int)]) ∧ RTokRow w.heap.size w' v (answer l).1 ∧ Later w w'

/-- The tests by which the document tells what a byte begins. -/
structure Tests (b : Nat) (blank hash small digit sign : Bool) : Prop where
  blank : (((b : Int) == 32) || ((b : Int) == 9) || ((b : Int) == 10)) = blank
  hash : ((b : Int) == 35) = hash
  small : smallB b = small
  digit : digitB b = digit
  sign : (((b : Int) == 123) || ((b : Int) == 125) || ((b : Int) == 59)) = sign
theorem take_cons {k : Nat} {b : UInt8} (r : List UInt8) (h : goB k b.toNat = true) : (List.takeWhile (fun c => goB k c.toNat) (b :: r)).length = (more k r).length + 1 := by
  rw [List.takeWhile_cons_of_pos (by simpa using h)]
  rfl
theorem ibeq (b n : Nat) : ((b : Int) == (n : Int)) = (b == n) := by
  rw [Bool.eq_iff_iff, beq_iff_eq, beq_iff_eq]
  omega
set_option synthInstance.maxSize 100000 in
theorem kind_0 (b : Nat) (h : b < 256) (hk : kindB b = 0) : (b == 32) = false ∧ (b == 9) = false ∧ (b == 10) = false ∧ (b == 35) = false ∧ smallB b = false ∧ digitB b = false ∧ (b == 123) = false ∧ (b == 125) = false ∧ (b == 59) = false := by
  have : ∀ b : Fin 256, kindB b.1 = 0 → (b.1 == 32) = false ∧ (b.1 == 9) = false ∧ (b.1 == 10) = false ∧ (b.1 == 35) = false ∧ smallB b.1 = false ∧ digitB b.1 = false ∧ (b.1 == 123) = false ∧ (b.1 == 125) = false ∧ (b.1 == 59) = false := by decide +kernel
  exact this ⟨b, h⟩ hk
set_option synthInstance.maxSize 100000 in
theorem kind_1 (b : Nat) (h : b < 256) (hk : kindB b = 1) : (b == 32) = false ∧ (b == 9) = false ∧ (b == 10) = false ∧ (b == 35) = false ∧ smallB b = true := by
  have : ∀ b : Fin 256, kindB b.1 = 1 → (b.1 == 32) = false ∧ (b.1 == 9) = false ∧ (b.1 == 10) = false ∧ (b.1 == 35) = false ∧ smallB b.1 = true := by decide +kernel
  exact this ⟨b, h⟩ hk
set_option synthInstance.maxSize 100000 in
theorem kind_2 (b : Nat) (h : b < 256) (hk : kindB b = 2) : (b == 32) = false ∧ (b == 9) = false ∧ (b == 10) = false ∧ (b == 35) = false ∧ smallB b = false ∧ digitB b = true := by
  have : ∀ b : Fin 256, kindB b.1 = 2 → (b.1 == 32) = false ∧ (b.1 == 9) = false ∧ (b.1 == 10) = false ∧ (b.1 == 35) = false ∧ smallB b.1 = false ∧ digitB b.1 = true := by decide +kernel
  exact this ⟨b, h⟩ hk
set_option synthInstance.maxSize 100000 in
theorem kind_3 (b : Nat) (h : b < 256) (hk : kindB b = 3) : (b == 32) = false ∧ (b == 9) = false ∧ (b == 10) = false ∧ (b == 35) = false ∧ smallB b = false ∧ digitB b = false ∧ (b = 123 ∨ b = 125 ∨ b = 59) := by
  have : ∀ b : Fin 256, kindB b.1 = 3 → (b.1 == 32) = false ∧ (b.1 == 9) = false ∧ (b.1 == 10) = false ∧ (b.1 == 35) = false ∧ smallB b.1 = false ∧ digitB b.1 = false ∧ (b.1 = 123 ∨ b.1 = 125 ∨ b.1 = 59) := by decide +kernel
  exact this ⟨b, h⟩ hk
set_option synthInstance.maxSize 100000 in
theorem kind_4 (b : Nat) (h : b < 256) (hk : kindB b = 4) : (b = 32 ∨ b = 9 ∨ b = 10) := by
  have : ∀ b : Fin 256, kindB b.1 = 4 → (b.1 = 32 ∨ b.1 = 9 ∨ b.1 = 10) := by decide +kernel
  exact this ⟨b, h⟩ hk
set_option synthInstance.maxSize 100000 in
theorem kind_5 (b : Nat) (h : b < 256) (hk : kindB b = 5) : b = 35 := by
  have : ∀ b : Fin 256, kindB b.1 = 5 → b.1 = 35 := by decide +kernel
  exact this ⟨b, h⟩ hk

/-- What stands behind a thing of kind k. -/
theorem thing_next {L r : List UInt8} {b : UInt8} {a k m : Nat} {acc : List Tok} (hd : L.drop a = b :: r) (hk : kindB b.toNat = k) (h0 : k ≠ 0) (hm : (more k r).length = m) (hto : ahead acc (toks (L.drop a) a) = toks L 0) :
    a + (m + 1) ≤ L.length ∧ ahead (acc ++ if k ≤ 3 then [tokOf k b r a] else []) (toks (L.drop (a + (m + 1))) (a + (m + 1))) = toks L 0 := by
  have hrl : r.length + 1 + a = L.length := by
    have := congrArg List.length hd
    simp at this
    omega
  have hmr : m ≤ r.length := by
    have := rest_len k r
    omega
  refine ⟨by omega, ?_⟩
  rw [hd, toks_cons r a (by rw [hk]; exact h0), hk, hm, ahead_ahead] at hto
  rw [← hto, ← hm, drop_next hd k, hm, show a + (m + 1) = a + 1 + m from by omega]

section
variable {w : World}
set_option maxHeartbeats 8000000 in
set_option maxRecDepth 100000 in
theorem reftokens_any (s : ByteArray) (hs : s.size ≤ 140737488355328) : Calls Tryd.prog 23 #[.string s] w (RTold w s.data.toList) := by
  obtain ⟨L, hL⟩ : ∃ L, L = s.data.toList := ⟨_, rfl⟩
  have hlen : L.length = s.size := by rw [hL, Array.length_toList]; rfl
  rw [← hL]
  have HL := hide hL
  have HLEN := hide hlen
  have L0 := hide (Later.refl w)
  by_cases hbig : 400 < L.length
  · have h400 : 400 < (s.size : Int) := by omega
    clear hL hlen
    go_enter Tryd.func23, Tryd.ntmps23
    go_wp2
    go_ret3
    have e : answer L = ([], 0, 12) := by unfold answer; rw [if_pos hbig]
    unfold RTold
    rw [e]
    exact ⟨_, rfl, World.ownsRow_nil _ _ _ 4, L0.out⟩
  · have h400 : ¬ 400 < (s.size : Int) := by omega
    have hn400 : L.length ≤ 400 := by omega
    obtain ⟨i0, hi, hz0, hz1, hz2⟩ := info_parts info_rtok
    have HI := hide hi
    have HZ0 := hide hz0
    have HZ1 := hide hz1
    have HZ2 := hide hz2
    clear hL hlen hbig hi hz0 hz1 hz2
    go_enter Tryd.func23, Tryd.ntmps23
    go_wp2_with (fail)
    go_loopw [5, 6] (fun v5 v6 wr => ∃ (a : Nat) (acc : List Tok), v6 = .int .i64 (a : Int) ∧ a ≤ L.length ∧ acc.length ≤ a ∧ ahead acc (toks (L.drop a) a) = toks L 0 ∧ RTokRow w.heap.size wr v5 acc ∧ Later w wr) (fun _ v6 _ => L.length - (intOf v6).toNat)
    case atStart =>
      refine ⟨0, [], rfl, by omega, by simp, ?_, World.ownsRow_nil _ _ _ 4, L0.out⟩
      rw [List.drop_zero]
      exact ahead_nil _ (toks_none _ _)
    case round =>
      obtain ⟨a, acc, rfl, ha, hacc, hto, hrow, hlat⟩ := hrel
      have HTO := hide hto
      have HR := hide hrow
      have HLA := hide hlat
      clear hto hrow hlat
      by_cases hlt : a < L.length
      · obtain ⟨b, hb⟩ : ∃ b, L[a]? = some b := ⟨_, List.getElem?_eq_getElem hlt⟩
        have hd : L.drop a = b :: L.drop (a + 1) := by
          rw [List.drop_eq_getElem_cons hlt]
          rw [List.getElem?_eq_getElem hlt] at hb
          injection hb with hb
          rw [hb]
        have hls : (a : Int) < (s.size : Int) := by have := HLEN.out; omega
        have hix : ∀ W : World, (Instr.index 9 (.string s) (.int .i64 (a : Int))).run Tryd.prog W = .ok (.int .u8 (b.toNat : Int)) W := idx_at s a b (by have := HLEN.out; omega) (by rw [← HL.out]; exact hb)
        have HD := hide hd
        obtain ⟨r, hr⟩ : ∃ r, L.drop (a + 1) = r := ⟨_, rfl⟩
        rw [hr] at HD
        have HB := hide hb
        clear hb hd hr
        have hx256 := b.toNat_lt
        obtain ⟨kk, hkk⟩ : ∃ kk, kindB b.toNat = kk := ⟨_, rfl⟩
        have HK := hide hkk
        have CS := hide (refSmall_any (w := wr) b.toNat)
        have CD := hide (refDigit_any (w := wr) b.toNat)
        obtain ⟨x, hx⟩ : ∃ x, b.toNat = x := ⟨_, rfl⟩
        rw [hx] at hkk hix CS CD hx256
        have HX := hide hx
        have hk6 := kind_cases x
        rw [hkk] at hk6
        clear hx
        rcases hk6 with rfl | rfl | rfl | rfl | rfl | rfl
        · obtain ⟨t1, t2, t3, t4, t5, t6, t7, t8, t9⟩ := kind_0 x hx256 hkk
          rw [t5] at CS
          rw [t6] at CD
          have e1 : ((x : Int) == 32) = false := (ibeq x 32).trans t1
          have e2 : ((x : Int) == 9) = false := (ibeq x 9).trans t2
          have e3 : ((x : Int) == 10) = false := (ibeq x 10).trans t3
          have e4 : ((x : Int) == 35) = false := (ibeq x 35).trans t4
          have e7 : ((x : Int) == 123) = false := (ibeq x 123).trans t7
          have e8 : ((x : Int) == 125) = false := (ibeq x 125).trans t8
          have e9 : ((x : Int) == 59) = false := (ibeq x 59).trans t9
          clear t1 t2 t3 t4 t5 t6 t7 t8 t9 hkk
          go_wp2_with (fail)
          refine CS.out.mono ?_
          rintro e w1 ⟨rfl, rfl⟩
          go_wp2_with (fail)
          refine CD.out.mono ?_
          rintro e w1 ⟨rfl, rfl⟩
          go_wp2_with (fail)
          go_ret3
          have hto := HTO.out
          rw [HD.out, toks_bad r a HK.out] at hto
          have e : answer L = ([], a, 11) := by
            unfold answer
            rw [if_neg (by omega), ← hto]
            rfl
          unfold RTold
          rw [e]
          exact ⟨_, rfl, World.ownsRow_nil _ _ _ 4, HLA.out⟩
        · obtain ⟨t1, t2, t3, t4, t5⟩ := kind_1 x hx256 hkk
          rw [t5] at CS
          have e1 : ((x : Int) == 32) = false := (ibeq x 32).trans t1
          have e2 : ((x : Int) == 9) = false := (ibeq x 9).trans t2
          have e3 : ((x : Int) == 10) = false := (ibeq x 10).trans t3
          have e4 : ((x : Int) == 35) = false := (ibeq x 35).trans t4
          obtain ⟨m, hm⟩ : ∃ m, (more 1 r).length = m := ⟨_, rfl⟩
          have TN := hide (thing_next HD.out HK.out (by omega) hm HTO.out)
          have HM := hide hm
          have hgo : goB 1 x = true := small_part t5
          clear t1 t2 t3 t4 t5
          have hw : (List.takeWhile (fun c => goB 1 c.toNat) (L.drop a)).length = m + 1 := by rw [HD.out, take_cons r (by rw [HX.out]; exact hgo), hm]
          have HW := hide hw
          clear hm hkk hw hgo
          go_wp2_with (fail)
          refine CS.out.mono ?_
          rintro e w1 ⟨rfl, hq1⟩
          obtain rfl := hq1.symm
          go_wp2_with (fail)
          clear hix
          go_loopw [6] (fun v6 wr' => wr' = wr ∧ ∃ p : Nat, v6 = .int .i64 (p : Int) ∧ a ≤ p ∧ p ≤ L.length ∧ (∀ c ∈ (L.drop a).take (p - a), goB 1 c.toNat = true)) (fun v6 _ => L.length - (intOf v6).toNat)
          case atStart => exact ⟨rfl, a, rfl, Nat.le_refl _, by omega, by simp⟩
          case round =>
            obtain ⟨rfl, p, rfl, hap, hpl, hall⟩ := hrel
            have HA := hide hall
            clear hall
            by_cases hlt2 : p < L.length
            · obtain ⟨c, hc⟩ : ∃ c, L[p]? = some c := ⟨_, List.getElem?_eq_getElem hlt2⟩
              have hls2 : (p : Int) < (s.size : Int) := by have := HLEN.out; omega
              have hix2 := idx_at s p c (by have := HLEN.out; omega) (by rw [← HL.out]; exact hc)
              have hcd : (L.drop a)[p - a]? = some c := by rw [List.getElem?_drop, show a + (p - a) = p from by omega]; exact hc
              have HC := hide hcd
              obtain ⟨y, hy⟩ : ∃ y, c.toNat = y := ⟨_, rfl⟩
              rw [hy] at hix2
              have HY := hide hy
              have hy256 : y < 256 := by rw [← hy]; exact c.toNat_lt
              clear hc hcd hy
              cases hg : goB 1 y with
              | true =>
                have CP := hide (refPart_any (w := wr) y)
                rw [show partB y = goB 1 y from rfl, hg] at CP
                have HG := hide hg
                clear hg
                go_wp2_with (fail)
                refine CP.out.mono ?_
                rintro e w1 ⟨rfl, hq1⟩
                obtain rfl := hq1.symm
                go_wp2_with (fail)
                go_roundw
                case rel =>
                  refine ⟨trivial, p + 1, by go_num, by omega, by omega, ?_⟩
                  intro z hz
                  rw [show p + 1 - a = (p - a) + 1 from by omega, List.take_add_one, HC.out] at hz
                  simp only [Option.toList_some, List.mem_append, List.mem_singleton] at hz
                  rcases hz with hz | rfl
                  · exact HA.out z hz
                  · rw [HY.out]; exact HG.out
                case measure => simp [intOf]; omega
              | false =>
                have hpe : p = a + (m + 1) := by
                  have h1 := take_end (f := goB 1) HA.out HC.out (by rw [HY.out]; exact hg)
                  have h2 := HW.out
                  omega
                have HPE := hide hpe
                clear hpe
                have CP := hide (refPart_any (w := wr) y)
                rw [show partB y = goB 1 y from rfl, hg] at CP
                clear hg
                go_wp2_with (fail)
                refine CP.out.mono ?_
                rintro e w1 ⟨rfl, hq1⟩
                obtain rfl := hq1.symm
                have TN2 := hide (HPE.out ▸ TN.out)
                have hpe := HPE.out
                have hex2 : s.extract a p = ⟨(b :: more 1 r).toArray⟩ := by
                  rw [extract_list, ← HL.out, HD.out, show p - a = m + 1 from by omega, List.take_succ_cons]
                  have e := List.take_left (l₁ := more 1 r) (l₂ := rest 1 r)
                  rw [more_rest, HM.out] at e
                  rw [e]
                have hps : (p : Int) ≤ (s.size : Int) := by have := HLEN.out; omega
                have hap' : (a : Int) ≤ (p : Int) := by omega
                clear hpe
                have FL : Hid (FlatAt (fun _ => True) (wr.alloc (.cells #[.int .i64 1, .string ⟨(b :: more 1 r).toArray⟩, .int .i64 0, .int .i64 (a : Int)] 63 (0, 0))) 4 (.slice (some ⟨wr.heap.size, 0, none⟩) 1 1) 1 (tokOf 1 b r a).cells) := flat_one wr 63 4 #[.int .i64 1, .string ⟨(b :: more 1 r).toArray⟩, .int .i64 0, .int .i64 (a : Int)] (by rfl) (by simp [Value.oneCell']) _ trivial
                have OW : Hid ((wr.alloc (.cells #[.int .i64 1, .string ⟨(b :: more 1 r).toArray⟩, .int .i64 0, .int .i64 (a : Int)] 63 (0, 0))).ownsRow w.heap.size 63 4 u5 acc.length (acc.flatMap Tok.cells)) := World.ownsRow.alloc HR.out _
                have LW : Hid (Below w.heap.size w (wr.alloc (.cells #[.int .i64 1, .string ⟨(b :: more 1 r).toArray⟩, .int .i64 0, .int .i64 (a : Int)] 63 (0, 0)))) := HLA.out.alloc (Below.size HLA.out) _
                go_wp2_with (first
                  | (refine wpList_buildSlice_one (by rfl) 55 63 _ (by rfl) i0 _ 4 Tryd.underlying55 HI.out HZ0.out HZ1.out (by omega) (by omega) #[.int .i64 1, .string ⟨(b :: more 1 r).toArray⟩, .int .i64 0, .int .i64 (a : Int)] (by rfl) (by rfl) ?_)
                  | (at_builtin; refine wpList_append_flat _ (by rfl) (.tmp 65) (.tmp 72) 55 (by rfl) w.heap.size 63 i0 _ 4 40 Tryd.underlying55 HI.out HZ0.out HZ1.out HZ2.out (by rfl) (by omega) u5 acc.length (acc.flatMap Tok.cells) (by rfl) OW.out (fun _ => True) _ 1 1 (tokOf 1 b r a).cells (by rfl) FL.out (by unfold maxLen; omega) (by omega) (Below.size LW.out) ?_; intro v5 w5 o5 g5))
                refine ⟨⟨p, acc ++ [tokOf 1 b r a], rfl, TN2.out.1, by have := HPE.out; simp; omega, by simpa using TN2.out.2, ?_, Below.trans LW.out (later_own OW.out (Below.size LW.out) g5)⟩, ?_⟩
                · show World.ownsRow _ _ _ _ _ _ _
                  rw [List.length_append, List.flatMap_append]
                  simpa using o5
                · have := HPE.out
                  simp [intOf]
                  omega
            · have hls2 : ¬ (p : Int) < (s.size : Int) := by have := HLEN.out; omega
              have hpe : p = a + (m + 1) := by
                have hle : (L.drop a).length ≤ p - a := by simp; omega
                have h1 := take_whole (f := goB 1) (by have := HA.out; rwa [List.take_of_length_le hle] at this)
                have h2 := HW.out
                have h3 : (L.drop a).length = L.length - a := by simp
                omega
              have HPE := hide hpe
              clear hpe
              have TN2 := hide (HPE.out ▸ TN.out)
              have hpe := HPE.out
              have hex2 : s.extract a p = ⟨(b :: more 1 r).toArray⟩ := by
                rw [extract_list, ← HL.out, HD.out, show p - a = m + 1 from by omega, List.take_succ_cons]
                have e := List.take_left (l₁ := more 1 r) (l₂ := rest 1 r)
                rw [more_rest, HM.out] at e
                rw [e]
              have hps : (p : Int) ≤ (s.size : Int) := by have := HLEN.out; omega
              have hap' : (a : Int) ≤ (p : Int) := by omega
              clear hpe
              have FL : Hid (FlatAt (fun _ => True) (wr.alloc (.cells #[.int .i64 1, .string ⟨(b :: more 1 r).toArray⟩, .int .i64 0, .int .i64 (a : Int)] 63 (0, 0))) 4 (.slice (some ⟨wr.heap.size, 0, none⟩) 1 1) 1 (tokOf 1 b r a).cells) := flat_one wr 63 4 #[.int .i64 1, .string ⟨(b :: more 1 r).toArray⟩, .int .i64 0, .int .i64 (a : Int)] (by rfl) (by simp [Value.oneCell']) _ trivial
              have OW : Hid ((wr.alloc (.cells #[.int .i64 1, .string ⟨(b :: more 1 r).toArray⟩, .int .i64 0, .int .i64 (a : Int)] 63 (0, 0))).ownsRow w.heap.size 63 4 u5 acc.length (acc.flatMap Tok.cells)) := World.ownsRow.alloc HR.out _
              have LW : Hid (Below w.heap.size w (wr.alloc (.cells #[.int .i64 1, .string ⟨(b :: more 1 r).toArray⟩, .int .i64 0, .int .i64 (a : Int)] 63 (0, 0)))) := HLA.out.alloc (Below.size HLA.out) _
              go_wp2_with (first
                | (refine wpList_buildSlice_one (by rfl) 55 63 _ (by rfl) i0 _ 4 Tryd.underlying55 HI.out HZ0.out HZ1.out (by omega) (by omega) #[.int .i64 1, .string ⟨(b :: more 1 r).toArray⟩, .int .i64 0, .int .i64 (a : Int)] (by rfl) (by rfl) ?_)
                | (at_builtin; refine wpList_append_flat _ (by rfl) (.tmp 65) (.tmp 72) 55 (by rfl) w.heap.size 63 i0 _ 4 40 Tryd.underlying55 HI.out HZ0.out HZ1.out HZ2.out (by rfl) (by omega) u5 acc.length (acc.flatMap Tok.cells) (by rfl) OW.out (fun _ => True) _ 1 1 (tokOf 1 b r a).cells (by rfl) FL.out (by unfold maxLen; omega) (by omega) (Below.size LW.out) ?_; intro v5 w5 o5 g5))
              refine ⟨⟨p, acc ++ [tokOf 1 b r a], rfl, TN2.out.1, by have := HPE.out; simp; omega, by simpa using TN2.out.2, ?_, Below.trans LW.out (later_own OW.out (Below.size LW.out) g5)⟩, ?_⟩
              · show World.ownsRow _ _ _ _ _ _ _
                rw [List.length_append, List.flatMap_append]
                simpa using o5
              · have := HPE.out
                simp [intOf]
                omega
        · obtain ⟨t1, t2, t3, t4, t5, t6⟩ := kind_2 x hx256 hkk
          rw [t5] at CS
          rw [t6] at CD
          have e1 : ((x : Int) == 32) = false := (ibeq x 32).trans t1
          have e2 : ((x : Int) == 9) = false := (ibeq x 9).trans t2
          have e3 : ((x : Int) == 10) = false := (ibeq x 10).trans t3
          have e4 : ((x : Int) == 35) = false := (ibeq x 35).trans t4
          obtain ⟨m, hm⟩ : ∃ m, (more 2 r).length = m := ⟨_, rfl⟩
          have TN := hide (thing_next HD.out HK.out (by omega) hm HTO.out)
          have HM := hide hm
          have hgo : goB 2 x = true := t6
          clear t1 t2 t3 t4 t5 t6
          have hw : (List.takeWhile (fun c => goB 2 c.toNat) (L.drop a)).length = m + 1 := by rw [HD.out, take_cons r (by rw [HX.out]; exact hgo), hm]
          have HW := hide hw
          clear hm hkk hw hgo
          go_wp2_with (fail)
          refine CS.out.mono ?_
          rintro e w1 ⟨rfl, hq1⟩
          obtain rfl := hq1.symm
          go_wp2_with (fail)
          refine CD.out.mono ?_
          rintro e w1 ⟨rfl, hq1⟩
          obtain rfl := hq1.symm
          go_wp2_with (fail)
          clear hix
          go_loopw [6, 9] (fun v6 v9 wr' => wr' = wr ∧ ∃ p : Nat, v6 = .int .i64 (p : Int) ∧ a ≤ p ∧ p ≤ L.length ∧ (∀ c ∈ (L.drop a).take (p - a), goB 2 c.toNat = true) ∧ ∃ n : Nat, v9 = .int .i64 (n : Int) ∧ n = ((L.drop a).take (p - a)).foldl refStep 0) (fun v6 _ _ => L.length - (intOf v6).toNat)
          case atStart => exact ⟨rfl, a, rfl, Nat.le_refl _, by omega, by simp, 0, rfl, by simp⟩
          case round =>
            obtain ⟨rfl, p, rfl, hap, hpl, hall, n, rfl, hn⟩ := hrel
            have HA := hide hall
            clear hall
            by_cases hlt2 : p < L.length
            · obtain ⟨c, hc⟩ : ∃ c, L[p]? = some c := ⟨_, List.getElem?_eq_getElem hlt2⟩
              have hls2 : (p : Int) < (s.size : Int) := by have := HLEN.out; omega
              have hix2 := idx_at s p c (by have := HLEN.out; omega) (by rw [← HL.out]; exact hc)
              have hcd : (L.drop a)[p - a]? = some c := by rw [List.getElem?_drop, show a + (p - a) = p from by omega]; exact hc
              have HC := hide hcd
              obtain ⟨y, hy⟩ : ∃ y, c.toNat = y := ⟨_, rfl⟩
              rw [hy] at hix2
              have HY := hide hy
              have hy256 : y < 256 := by rw [← hy]; exact c.toNat_lt
              clear hc hcd hy
              have HN := hide hn
              clear hn
              have CP := hide (refDigit_any (w := wr) y)
              cases hg : goB 2 y with
              | true =>
                have HG := hide hg
                rw [show digitB y = goB 2 y from rfl, hg] at CP
                have hyd := HG.out
                simp only [goB, digitB] at hyd
                have hyd2 : 48 ≤ y ∧ y ≤ 57 := by simpa using hyd
                clear hg hyd
                have hfold : ((L.drop a).take (p + 1 - a)).foldl refStep 0 = if n < 1000000 then 10 * n + (y - 48) else n := by
                  rw [show p + 1 - a = (p - a) + 1 from by omega, List.take_add_one, HC.out, List.foldl_append, ← HN.out]
                  simp only [Option.toList_some, List.foldl_cons, List.foldl_nil, refStep, HY.out]
                have HFD := hide hfold
                clear hfold
                have hn2 : n ≤ 20000000 := by rw [HN.out]; exact foldRef_le _ _ (by omega)
                by_cases hn1 : n < 1000000
                · have hn1' : (n : Int) < 1000000 := by omega
                  have HN1 := hide hn1
                  clear hn1
                  go_wp2_with (fail)
                  refine CP.out.mono ?_
                  rintro e w1 ⟨rfl, hq1⟩
                  obtain rfl := hq1.symm
                  go_wp2_with (fail)
                  refine ⟨⟨trivial, p + 1, by go_num, by omega, by omega, ?_, (if n < 1000000 then 10 * n + (y - 48) else n), ?_, HFD.out.symm⟩, by simp [intOf]; omega⟩
                  · intro z hz
                    rw [show p + 1 - a = (p - a) + 1 from by omega, List.take_add_one, HC.out] at hz
                    simp only [Option.toList_some, List.mem_append, List.mem_singleton] at hz
                    rcases hz with hz | rfl
                    · exact HA.out z hz
                    · rw [HY.out]; exact HG.out
                  · rw [if_pos HN1.out]
                    congr 1
                    omega
                · have hn1' : (1000000 : Int) ≤ (n : Int) := by omega
                  have hdn : decide ((n : Int) < 1000000) = false := decide_eq_false (by omega)
                  have HN1 := hide hn1
                  clear hn1
                  go_wp2_with (fail)
                  refine CP.out.mono ?_
                  rintro e w1 ⟨rfl, hq1⟩
                  obtain rfl := hq1.symm
                  go_wp2_with (fail)
                  refine ⟨⟨trivial, p + 1, by go_num, by omega, by omega, ?_, (if n < 1000000 then 10 * n + (y - 48) else n), ?_, HFD.out.symm⟩, by simp [intOf]; omega⟩
                  · intro z hz
                    rw [show p + 1 - a = (p - a) + 1 from by omega, List.take_add_one, HC.out] at hz
                    simp only [Option.toList_some, List.mem_append, List.mem_singleton] at hz
                    rcases hz with hz | rfl
                    · exact HA.out z hz
                    · rw [HY.out]; exact HG.out
                  · rw [if_neg HN1.out]
              | false =>
                have hpe : p = a + (m + 1) := by
                  have h1 := take_end (f := goB 2) HA.out HC.out (by rw [HY.out]; exact hg)
                  have h2 := HW.out
                  omega
                have HPE := hide hpe
                clear hpe
                rw [show digitB y = goB 2 y from rfl, hg] at CP
                clear hg
                go_wp2_with (fail)
                refine CP.out.mono ?_
                rintro e w1 ⟨rfl, hq1⟩
                obtain rfl := hq1.symm
                have htk : (L.drop a).take (p - a) = b :: more 2 r := by
                  rw [HD.out, show p - a = m + 1 from by have := HPE.out; omega, List.take_succ_cons]
                  have e := List.take_left (l₁ := more 2 r) (l₂ := rest 2 r)
                  rw [more_rest, HM.out] at e
                  rw [e]
                have hvn : (valF (b :: more 2 r)) = min n 1000000 := by rw [valF_ref, HN.out, htk]
                clear htk
                have hn2 : n ≤ 20000000 := by rw [HN.out]; exact foldRef_le _ _ (by omega)
                have HVN := hide hvn
                clear hvn
                by_cases hbig2 : 1000000 < n
                · have hb2 : (1000000 : Int) < (n : Int) := by omega
                  have hv2 : (valF (b :: more 2 r) : Int) = (1000000 : Int) := by have := HVN.out; omega
                  have HV2 := hide hv2
                  clear hv2
                  have TN2 := hide (HPE.out ▸ TN.out)
                  have hpe := HPE.out
                  have hex2 : s.extract a p = ⟨(b :: more 2 r).toArray⟩ := by
                    rw [extract_list, ← HL.out, HD.out, show p - a = m + 1 from by omega, List.take_succ_cons]
                    have e := List.take_left (l₁ := more 2 r) (l₂ := rest 2 r)
                    rw [more_rest, HM.out] at e
                    rw [e]
                  have hps : (p : Int) ≤ (s.size : Int) := by have := HLEN.out; omega
                  have hap' : (a : Int) ≤ (p : Int) := by omega
                  clear hpe
                  have FL : Hid (FlatAt (fun _ => True) (wr.alloc (.cells #[.int .i64 2, .string ⟨(b :: more 2 r).toArray⟩, .int .i64 (1000000 : Int), .int .i64 (a : Int)] 63 (0, 0))) 4 (.slice (some ⟨wr.heap.size, 0, none⟩) 1 1) 1 (tokOf 2 b r a).cells) := by
                    have e : (tokOf 2 b r a).cells = [.int .i64 2, .string ⟨(b :: more 2 r).toArray⟩, .int .i64 ((1000000 : Int)), .int .i64 (a : Int)] := by simp only [Tok.cells, tokOf, if_pos]; rw [← HV2.out]; rfl
                    rw [e]
                    exact flat_one wr 63 4 #[.int .i64 2, .string ⟨(b :: more 2 r).toArray⟩, .int .i64 (1000000 : Int), .int .i64 (a : Int)] (by rfl) (by simp [Value.oneCell']) _ trivial
                  have OW : Hid ((wr.alloc (.cells #[.int .i64 2, .string ⟨(b :: more 2 r).toArray⟩, .int .i64 (1000000 : Int), .int .i64 (a : Int)] 63 (0, 0))).ownsRow w.heap.size 63 4 u5 acc.length (acc.flatMap Tok.cells)) := World.ownsRow.alloc HR.out _
                  have LW : Hid (Below w.heap.size w (wr.alloc (.cells #[.int .i64 2, .string ⟨(b :: more 2 r).toArray⟩, .int .i64 (1000000 : Int), .int .i64 (a : Int)] 63 (0, 0)))) := HLA.out.alloc (Below.size HLA.out) _
                  go_wp2_with (first
                    | (refine wpList_buildSlice_one (by rfl) 55 63 _ (by rfl) i0 _ 4 Tryd.underlying55 HI.out HZ0.out HZ1.out (by omega) (by omega) #[.int .i64 2, .string ⟨(b :: more 2 r).toArray⟩, .int .i64 (1000000 : Int), .int .i64 (a : Int)] (by rfl) (by rfl) ?_)
                    | (at_builtin; refine wpList_append_flat _ (by rfl) (.tmp 101) (.tmp 109) 55 (by rfl) w.heap.size 63 i0 _ 4 40 Tryd.underlying55 HI.out HZ0.out HZ1.out HZ2.out (by rfl) (by omega) u5 acc.length (acc.flatMap Tok.cells) (by rfl) OW.out (fun _ => True) _ 1 1 (tokOf 2 b r a).cells (by rfl) FL.out (by unfold maxLen; omega) (by omega) (Below.size LW.out) ?_; intro v5 w5 o5 g5))
                  refine ⟨⟨p, acc ++ [tokOf 2 b r a], rfl, TN2.out.1, by have := HPE.out; simp; omega, by simpa using TN2.out.2, ?_, Below.trans LW.out (later_own OW.out (Below.size LW.out) g5)⟩, ?_⟩
                  · show World.ownsRow _ _ _ _ _ _ _
                    rw [List.length_append, List.flatMap_append]
                    simpa using o5
                  · have := HPE.out
                    simp [intOf]
                    omega
                · have hb2 : ¬ (1000000 : Int) < (n : Int) := by omega
                  have hv2 : (valF (b :: more 2 r) : Int) = (n : Int) := by have := HVN.out; omega
                  have HV2 := hide hv2
                  clear hv2
                  have TN2 := hide (HPE.out ▸ TN.out)
                  have hpe := HPE.out
                  have hex2 : s.extract a p = ⟨(b :: more 2 r).toArray⟩ := by
                    rw [extract_list, ← HL.out, HD.out, show p - a = m + 1 from by omega, List.take_succ_cons]
                    have e := List.take_left (l₁ := more 2 r) (l₂ := rest 2 r)
                    rw [more_rest, HM.out] at e
                    rw [e]
                  have hps : (p : Int) ≤ (s.size : Int) := by have := HLEN.out; omega
                  have hap' : (a : Int) ≤ (p : Int) := by omega
                  clear hpe
                  have FL : Hid (FlatAt (fun _ => True) (wr.alloc (.cells #[.int .i64 2, .string ⟨(b :: more 2 r).toArray⟩, .int .i64 (n : Int), .int .i64 (a : Int)] 63 (0, 0))) 4 (.slice (some ⟨wr.heap.size, 0, none⟩) 1 1) 1 (tokOf 2 b r a).cells) := by
                    have e : (tokOf 2 b r a).cells = [.int .i64 2, .string ⟨(b :: more 2 r).toArray⟩, .int .i64 ((n : Int)), .int .i64 (a : Int)] := by simp only [Tok.cells, tokOf, if_pos]; rw [← HV2.out]; rfl
                    rw [e]
                    exact flat_one wr 63 4 #[.int .i64 2, .string ⟨(b :: more 2 r).toArray⟩, .int .i64 (n : Int), .int .i64 (a : Int)] (by rfl) (by simp [Value.oneCell']) _ trivial
                  have OW : Hid ((wr.alloc (.cells #[.int .i64 2, .string ⟨(b :: more 2 r).toArray⟩, .int .i64 (n : Int), .int .i64 (a : Int)] 63 (0, 0))).ownsRow w.heap.size 63 4 u5 acc.length (acc.flatMap Tok.cells)) := World.ownsRow.alloc HR.out _
                  have LW : Hid (Below w.heap.size w (wr.alloc (.cells #[.int .i64 2, .string ⟨(b :: more 2 r).toArray⟩, .int .i64 (n : Int), .int .i64 (a : Int)] 63 (0, 0)))) := HLA.out.alloc (Below.size HLA.out) _
                  go_wp2_with (first
                    | (refine wpList_buildSlice_one (by rfl) 55 63 _ (by rfl) i0 _ 4 Tryd.underlying55 HI.out HZ0.out HZ1.out (by omega) (by omega) #[.int .i64 2, .string ⟨(b :: more 2 r).toArray⟩, .int .i64 (n : Int), .int .i64 (a : Int)] (by rfl) (by rfl) ?_)
                    | (at_builtin; refine wpList_append_flat _ (by rfl) (.tmp 101) (.tmp 109) 55 (by rfl) w.heap.size 63 i0 _ 4 40 Tryd.underlying55 HI.out HZ0.out HZ1.out HZ2.out (by rfl) (by omega) u5 acc.length (acc.flatMap Tok.cells) (by rfl) OW.out (fun _ => True) _ 1 1 (tokOf 2 b r a).cells (by rfl) FL.out (by unfold maxLen; omega) (by omega) (Below.size LW.out) ?_; intro v5 w5 o5 g5))
                  refine ⟨⟨p, acc ++ [tokOf 2 b r a], rfl, TN2.out.1, by have := HPE.out; simp; omega, by simpa using TN2.out.2, ?_, Below.trans LW.out (later_own OW.out (Below.size LW.out) g5)⟩, ?_⟩
                  · show World.ownsRow _ _ _ _ _ _ _
                    rw [List.length_append, List.flatMap_append]
                    simpa using o5
                  · have := HPE.out
                    simp [intOf]
                    omega
            · have hls2 : ¬ (p : Int) < (s.size : Int) := by have := HLEN.out; omega
              have HN := hide hn
              clear hn
              have hpe : p = a + (m + 1) := by
                have hle : (L.drop a).length ≤ p - a := by simp; omega
                have h1 := take_whole (f := goB 2) (by have := HA.out; rwa [List.take_of_length_le hle] at this)
                have h2 := HW.out
                have h3 : (L.drop a).length = L.length - a := by simp
                omega
              have HPE := hide hpe
              clear hpe
              have htk : (L.drop a).take (p - a) = b :: more 2 r := by
                rw [HD.out, show p - a = m + 1 from by have := HPE.out; omega, List.take_succ_cons]
                have e := List.take_left (l₁ := more 2 r) (l₂ := rest 2 r)
                rw [more_rest, HM.out] at e
                rw [e]
              have hvn : (valF (b :: more 2 r)) = min n 1000000 := by rw [valF_ref, HN.out, htk]
              clear htk
              have hn2 : n ≤ 20000000 := by rw [HN.out]; exact foldRef_le _ _ (by omega)
              have HVN := hide hvn
              clear hvn
              by_cases hbig2 : 1000000 < n
              · have hb2 : (1000000 : Int) < (n : Int) := by omega
                have hv2 : (valF (b :: more 2 r) : Int) = (1000000 : Int) := by have := HVN.out; omega
                have HV2 := hide hv2
                clear hv2
                have TN2 := hide (HPE.out ▸ TN.out)
                have hpe := HPE.out
                have hex2 : s.extract a p = ⟨(b :: more 2 r).toArray⟩ := by
                  rw [extract_list, ← HL.out, HD.out, show p - a = m + 1 from by omega, List.take_succ_cons]
                  have e := List.take_left (l₁ := more 2 r) (l₂ := rest 2 r)
                  rw [more_rest, HM.out] at e
                  rw [e]
                have hps : (p : Int) ≤ (s.size : Int) := by have := HLEN.out; omega
                have hap' : (a : Int) ≤ (p : Int) := by omega
                clear hpe
                have FL : Hid (FlatAt (fun _ => True) (wr.alloc (.cells #[.int .i64 2, .string ⟨(b :: more 2 r).toArray⟩, .int .i64 (1000000 : Int), .int .i64 (a : Int)] 63 (0, 0))) 4 (.slice (some ⟨wr.heap.size, 0, none⟩) 1 1) 1 (tokOf 2 b r a).cells) := by
                  have e : (tokOf 2 b r a).cells = [.int .i64 2, .string ⟨(b :: more 2 r).toArray⟩, .int .i64 ((1000000 : Int)), .int .i64 (a : Int)] := by simp only [Tok.cells, tokOf, if_pos]; rw [← HV2.out]; rfl
                  rw [e]
                  exact flat_one wr 63 4 #[.int .i64 2, .string ⟨(b :: more 2 r).toArray⟩, .int .i64 (1000000 : Int), .int .i64 (a : Int)] (by rfl) (by simp [Value.oneCell']) _ trivial
                have OW : Hid ((wr.alloc (.cells #[.int .i64 2, .string ⟨(b :: more 2 r).toArray⟩, .int .i64 (1000000 : Int), .int .i64 (a : Int)] 63 (0, 0))).ownsRow w.heap.size 63 4 u5 acc.length (acc.flatMap Tok.cells)) := World.ownsRow.alloc HR.out _
                have LW : Hid (Below w.heap.size w (wr.alloc (.cells #[.int .i64 2, .string ⟨(b :: more 2 r).toArray⟩, .int .i64 (1000000 : Int), .int .i64 (a : Int)] 63 (0, 0)))) := HLA.out.alloc (Below.size HLA.out) _
                go_wp2_with (first
                  | (refine wpList_buildSlice_one (by rfl) 55 63 _ (by rfl) i0 _ 4 Tryd.underlying55 HI.out HZ0.out HZ1.out (by omega) (by omega) #[.int .i64 2, .string ⟨(b :: more 2 r).toArray⟩, .int .i64 (1000000 : Int), .int .i64 (a : Int)] (by rfl) (by rfl) ?_)
                  | (at_builtin; refine wpList_append_flat _ (by rfl) (.tmp 101) (.tmp 109) 55 (by rfl) w.heap.size 63 i0 _ 4 40 Tryd.underlying55 HI.out HZ0.out HZ1.out HZ2.out (by rfl) (by omega) u5 acc.length (acc.flatMap Tok.cells) (by rfl) OW.out (fun _ => True) _ 1 1 (tokOf 2 b r a).cells (by rfl) FL.out (by unfold maxLen; omega) (by omega) (Below.size LW.out) ?_; intro v5 w5 o5 g5))
                refine ⟨⟨p, acc ++ [tokOf 2 b r a], rfl, TN2.out.1, by have := HPE.out; simp; omega, by simpa using TN2.out.2, ?_, Below.trans LW.out (later_own OW.out (Below.size LW.out) g5)⟩, ?_⟩
                · show World.ownsRow _ _ _ _ _ _ _
                  rw [List.length_append, List.flatMap_append]
                  simpa using o5
                · have := HPE.out
                  simp [intOf]
                  omega
              · have hb2 : ¬ (1000000 : Int) < (n : Int) := by omega
                have hv2 : (valF (b :: more 2 r) : Int) = (n : Int) := by have := HVN.out; omega
                have HV2 := hide hv2
                clear hv2
                have TN2 := hide (HPE.out ▸ TN.out)
                have hpe := HPE.out
                have hex2 : s.extract a p = ⟨(b :: more 2 r).toArray⟩ := by
                  rw [extract_list, ← HL.out, HD.out, show p - a = m + 1 from by omega, List.take_succ_cons]
                  have e := List.take_left (l₁ := more 2 r) (l₂ := rest 2 r)
                  rw [more_rest, HM.out] at e
                  rw [e]
                have hps : (p : Int) ≤ (s.size : Int) := by have := HLEN.out; omega
                have hap' : (a : Int) ≤ (p : Int) := by omega
                clear hpe
                have FL : Hid (FlatAt (fun _ => True) (wr.alloc (.cells #[.int .i64 2, .string ⟨(b :: more 2 r).toArray⟩, .int .i64 (n : Int), .int .i64 (a : Int)] 63 (0, 0))) 4 (.slice (some ⟨wr.heap.size, 0, none⟩) 1 1) 1 (tokOf 2 b r a).cells) := by
                  have e : (tokOf 2 b r a).cells = [.int .i64 2, .string ⟨(b :: more 2 r).toArray⟩, .int .i64 ((n : Int)), .int .i64 (a : Int)] := by simp only [Tok.cells, tokOf, if_pos]; rw [← HV2.out]; rfl
                  rw [e]
                  exact flat_one wr 63 4 #[.int .i64 2, .string ⟨(b :: more 2 r).toArray⟩, .int .i64 (n : Int), .int .i64 (a : Int)] (by rfl) (by simp [Value.oneCell']) _ trivial
                have OW : Hid ((wr.alloc (.cells #[.int .i64 2, .string ⟨(b :: more 2 r).toArray⟩, .int .i64 (n : Int), .int .i64 (a : Int)] 63 (0, 0))).ownsRow w.heap.size 63 4 u5 acc.length (acc.flatMap Tok.cells)) := World.ownsRow.alloc HR.out _
                have LW : Hid (Below w.heap.size w (wr.alloc (.cells #[.int .i64 2, .string ⟨(b :: more 2 r).toArray⟩, .int .i64 (n : Int), .int .i64 (a : Int)] 63 (0, 0)))) := HLA.out.alloc (Below.size HLA.out) _
                go_wp2_with (first
                  | (refine wpList_buildSlice_one (by rfl) 55 63 _ (by rfl) i0 _ 4 Tryd.underlying55 HI.out HZ0.out HZ1.out (by omega) (by omega) #[.int .i64 2, .string ⟨(b :: more 2 r).toArray⟩, .int .i64 (n : Int), .int .i64 (a : Int)] (by rfl) (by rfl) ?_)
                  | (at_builtin; refine wpList_append_flat _ (by rfl) (.tmp 101) (.tmp 109) 55 (by rfl) w.heap.size 63 i0 _ 4 40 Tryd.underlying55 HI.out HZ0.out HZ1.out HZ2.out (by rfl) (by omega) u5 acc.length (acc.flatMap Tok.cells) (by rfl) OW.out (fun _ => True) _ 1 1 (tokOf 2 b r a).cells (by rfl) FL.out (by unfold maxLen; omega) (by omega) (Below.size LW.out) ?_; intro v5 w5 o5 g5))
                refine ⟨⟨p, acc ++ [tokOf 2 b r a], rfl, TN2.out.1, by have := HPE.out; simp; omega, by simpa using TN2.out.2, ?_, Below.trans LW.out (later_own OW.out (Below.size LW.out) g5)⟩, ?_⟩
                · show World.ownsRow _ _ _ _ _ _ _
                  rw [List.length_append, List.flatMap_append]
                  simpa using o5
                · have := HPE.out
                  simp [intOf]
                  omega
        · obtain ⟨t1, t2, t3, t4, t5, t6, t7⟩ := kind_3 x hx256 hkk
          rw [t5] at CS
          rw [t6] at CD
          have e1 : ((x : Int) == 32) = false := (ibeq x 32).trans t1
          have e2 : ((x : Int) == 9) = false := (ibeq x 9).trans t2
          have e3 : ((x : Int) == 10) = false := (ibeq x 10).trans t3
          have e4 : ((x : Int) == 35) = false := (ibeq x 35).trans t4
          obtain ⟨m, hm⟩ : ∃ m, (more 3 r).length = m := ⟨_, rfl⟩
          have hm0 : m = 0 := by rw [← hm]; cases r <;> simp [more, goB]
          have TN := hide (thing_next HD.out HK.out (by omega) hm HTO.out)
          have HM := hide hm
          obtain ⟨p, hpe⟩ : ∃ p, p = a + (m + 1) := ⟨_, rfl⟩
          have HPE := hide hpe
          have hwp : IntKind.i64.wrap ((a : Int) + 1) = (p : Int) := by rw [wrap_small _ (by omega) (by omega)]; omega
          have hlt2 : p ≤ L.length := by rw [hpe]; exact TN.out.1
          have hap : a ≤ p := by omega
          clear hpe hm0 hm hkk t1 t2 t3 t4 t5 t6
          rcases t7 with rfl | rfl | rfl <;> (
            go_wp2_with (fail)
            refine CS.out.mono ?_
            rintro e w1 ⟨rfl, hq1⟩
            obtain rfl := hq1.symm
            go_wp2_with (fail)
            refine CD.out.mono ?_
            rintro e w1 ⟨rfl, hq1⟩
            obtain rfl := hq1.symm
            have TN2 := hide (HPE.out ▸ TN.out)
            have hpe := HPE.out
            have hex2 : s.extract a p = ⟨(b :: more 3 r).toArray⟩ := by
              rw [extract_list, ← HL.out, HD.out, show p - a = m + 1 from by omega, List.take_succ_cons]
              have e := List.take_left (l₁ := more 3 r) (l₂ := rest 3 r)
              rw [more_rest, HM.out] at e
              rw [e]
            have hps : (p : Int) ≤ (s.size : Int) := by have := HLEN.out; omega
            have hap' : (a : Int) ≤ (p : Int) := by omega
            clear hpe
            have FL : Hid (FlatAt (fun _ => True) (wr.alloc (.cells #[.int .i64 3, .string ⟨(b :: more 3 r).toArray⟩, .int .i64 0, .int .i64 (a : Int)] 63 (0, 0))) 4 (.slice (some ⟨wr.heap.size, 0, none⟩) 1 1) 1 (tokOf 3 b r a).cells) := flat_one wr 63 4 #[.int .i64 3, .string ⟨(b :: more 3 r).toArray⟩, .int .i64 0, .int .i64 (a : Int)] (by rfl) (by simp [Value.oneCell']) _ trivial
            have OW : Hid ((wr.alloc (.cells #[.int .i64 3, .string ⟨(b :: more 3 r).toArray⟩, .int .i64 0, .int .i64 (a : Int)] 63 (0, 0))).ownsRow w.heap.size 63 4 u5 acc.length (acc.flatMap Tok.cells)) := World.ownsRow.alloc HR.out _
            have LW : Hid (Below w.heap.size w (wr.alloc (.cells #[.int .i64 3, .string ⟨(b :: more 3 r).toArray⟩, .int .i64 0, .int .i64 (a : Int)] 63 (0, 0)))) := HLA.out.alloc (Below.size HLA.out) _
            have HWP := hide hwp
            go_wp2_with (first
              | (refine wpList_buildSlice_one (by rfl) 55 63 _ (by rfl) i0 _ 4 Tryd.underlying55 HI.out HZ0.out HZ1.out (by omega) (by omega) #[.int .i64 3, .string ⟨(b :: more 3 r).toArray⟩, .int .i64 0, .int .i64 (a : Int)] (by rfl) (by rfl) ?_)
              | (at_builtin; refine wpList_append_flat _ (by rfl) (.tmp 124) (.tmp 131) 55 (by rfl) w.heap.size 63 i0 _ 4 40 Tryd.underlying55 HI.out HZ0.out HZ1.out HZ2.out (by rfl) (by omega) u5 acc.length (acc.flatMap Tok.cells) (by rfl) OW.out (fun _ => True) _ 1 1 (tokOf 3 b r a).cells (by rfl) FL.out (by unfold maxLen; omega) (by omega) (Below.size LW.out) ?_; intro v5 w5 o5 g5))
            refine ⟨⟨p, acc ++ [tokOf 3 b r a], rfl, TN2.out.1, by have := HPE.out; simp; omega, by simpa using TN2.out.2, ?_, Below.trans LW.out (later_own OW.out (Below.size LW.out) g5)⟩, ?_⟩
            · show World.ownsRow _ _ _ _ _ _ _
              rw [List.length_append, List.flatMap_append]
              simpa using o5
            · have := HPE.out
              simp [intOf]
              omega)
        · rcases kind_4 x hx256 hkk with rfl | rfl | rfl <;> (
            have hm : (more 4 r).length = 0 := by cases r <;> simp [more, goB]
            have TN := hide (thing_next HD.out HK.out (by omega) hm HTO.out)
            clear hm hkk
            go_wp2_with (fail)
            go_roundw
            case rel => exact ⟨a + 1, acc, by go_num, TN.out.1, by omega, by simpa using TN.out.2, HR.out, HLA.out⟩
            case measure => simp [intOf]; omega)
        · have h35 := kind_5 x hx256 hkk
          have e1 : ((x : Int) == 32) = false := by rw [beq_eq_false_iff_ne]; omega
          have e2 : ((x : Int) == 9) = false := by rw [beq_eq_false_iff_ne]; omega
          have e3 : ((x : Int) == 10) = false := by rw [beq_eq_false_iff_ne]; omega
          have e4 : ((x : Int) == 35) = true := by rw [beq_iff_eq]; omega
          obtain ⟨m, hm⟩ : ∃ m, (more 5 r).length = m := ⟨_, rfl⟩
          have TN := hide (thing_next HD.out HK.out (by omega) hm HTO.out)
          have hgo : goB 5 x = true := by rw [h35]; decide
          clear h35
          have hw : (List.takeWhile (fun c => goB 5 c.toNat) (L.drop a)).length = m + 1 := by rw [HD.out, take_cons r (by rw [HX.out]; exact hgo), hm]
          have HW := hide hw
          clear hm hkk hw hgo
          go_wp2_with (fail)
          clear hix
          go_loopw [6] (fun v6 wr' => wr' = wr ∧ ∃ p : Nat, v6 = .int .i64 (p : Int) ∧ a ≤ p ∧ p ≤ L.length ∧ (∀ c ∈ (L.drop a).take (p - a), goB 5 c.toNat = true)) (fun v6 _ => L.length - (intOf v6).toNat)
          case atStart => exact ⟨rfl, a, rfl, Nat.le_refl _, by omega, by simp⟩
          case round =>
            obtain ⟨rfl, p, rfl, hap, hpl, hall⟩ := hrel
            have HA := hide hall
            clear hall
            by_cases hlt2 : p < L.length
            · obtain ⟨c, hc⟩ : ∃ c, L[p]? = some c := ⟨_, List.getElem?_eq_getElem hlt2⟩
              have hls2 : (p : Int) < (s.size : Int) := by have := HLEN.out; omega
              have hix2 := idx_at s p c (by have := HLEN.out; omega) (by rw [← HL.out]; exact hc)
              have hcd : (L.drop a)[p - a]? = some c := by rw [List.getElem?_drop, show a + (p - a) = p from by omega]; exact hc
              have HC := hide hcd
              obtain ⟨y, hy⟩ : ∃ y, c.toNat = y := ⟨_, rfl⟩
              rw [hy] at hix2
              have HY := hide hy
              have hy256 : y < 256 := by rw [← hy]; exact c.toNat_lt
              clear hc hcd hy
              cases hg : goB 5 y with
              | true =>
                have h10 : ((y : Int) == 10) = false := by
                  simp only [goB] at hg
                  rw [beq_eq_false_iff_ne]
                  have : (y != 10) = true := by simpa using hg
                  have : y ≠ 10 := by simpa using this
                  omega
                have h10' : ((y : Int) != 10) = true := by rw [bne, h10]; rfl
                have HG := hide hg
                clear hg
                go_wp2_with (fail)
                go_roundw
                case rel =>
                  refine ⟨trivial, p + 1, by go_num, by omega, by omega, ?_⟩
                  intro z hz
                  rw [show p + 1 - a = (p - a) + 1 from by omega, List.take_add_one, HC.out] at hz
                  simp only [Option.toList_some, List.mem_append, List.mem_singleton] at hz
                  rcases hz with hz | rfl
                  · exact HA.out z hz
                  · rw [HY.out]; exact HG.out
                case measure => simp [intOf]; omega
              | false =>
                have hpe : p = a + (m + 1) := by
                  have h1 := take_end (f := goB 5) HA.out HC.out (by rw [HY.out]; exact hg)
                  have h2 := HW.out
                  omega
                have HPE := hide hpe
                clear hpe
                have h10 : ((y : Int) == 10) = true := by
                  simp only [goB] at hg
                  rw [beq_iff_eq]
                  have : (y != 10) = false := by simpa using hg
                  have : y = 10 := by simpa using this
                  omega
                have h10' : ((y : Int) != 10) = false := by rw [bne, h10]; rfl
                have TN2 := hide (HPE.out ▸ TN.out)
                go_wp2_with (fail)
                refine ⟨⟨p, acc, rfl, TN2.out.1, by have := HPE.out; omega, by simpa using TN2.out.2, HR.out, HLA.out⟩, ?_⟩
                have := HPE.out
                simp [intOf]
                omega
            · have hls2 : ¬ (p : Int) < (s.size : Int) := by have := HLEN.out; omega
              have hpe : p = a + (m + 1) := by
                have hle : (L.drop a).length ≤ p - a := by simp; omega
                have h1 := take_whole (f := goB 5) (by have := HA.out; rwa [List.take_of_length_le hle] at this)
                have h2 := HW.out
                have h3 : (L.drop a).length = L.length - a := by simp
                omega
              have HPE := hide hpe
              clear hpe
              have TN2 := hide (HPE.out ▸ TN.out)
              go_wp2_with (fail)
              refine ⟨⟨p, acc, rfl, TN2.out.1, by have := HPE.out; omega, by simpa using TN2.out.2, HR.out, HLA.out⟩, ?_⟩
              have := HPE.out
              simp [intOf]
              omega
      · have hls : ¬ (a : Int) < (s.size : Int) := by have := HLEN.out; omega
        go_wp2_with (fail)
        go_ret3
        have hae : a = L.length := by omega
        have hto := HTO.out
        rw [hae, List.drop_length, toks_nil] at hto
        have e : answer L = (acc, 0, 0) := by
          unfold answer
          rw [if_neg (by omega), ← hto]
          simp [ahead]
        unfold RTold
        rw [e]
        exact ⟨_, rfl, HR.out, HLA.out⟩
end
end Go.Proofs.YtdahnjcoflifbaaDoor
/- Tokens in memory. -/
namespace Go.Proofs.YtdahnjcoflifbaaDoor
open Go.RowKit

/-- Tokens in old memory. -/
def ToksAt (F : Nat → Prop) (w : World) (v : Value) (ts : List Tok) : Prop := FlatAt F w 4 v ts.length (ts.flatMap Tok.cells)
theorem TokRow.flat {base : Nat} {w : World} {v : Value} {ts : List Tok} (h : TokRow base w v ts) : ToksAt (base ≤ ·) w v ts := FlatAt.of_own h fun u hu => by
  obtain ⟨t, _, ht⟩ := List.mem_flatMap.1 hu
  exact t.one u ht
theorem ToksAt.kept {F : Nat → Prop} {w w' : World} {v : Value} {ts : List Tok} (h : ToksAt F w v ts) (hk : Kept F w w') : ToksAt F w' v ts := FlatAt.kept h hk
theorem ToksAt.later {F : Nat → Prop} {w w' : World} {v : Value} {ts : List Tok} (h : ToksAt F w v ts) (hl : Later w w') : ToksAt F w' v ts := FlatAt.kept h (Kept.of_below hl F)
theorem ToksAt.any {F : Nat → Prop} {w : World} {v : Value} {ts : List Tok} (h : ToksAt F w v ts) : ToksAt (fun _ => True) w v ts := FlatAt.mono h fun _ _ _ => trivial
theorem ToksAt.at_ {F : Nat → Prop} {w : World} {A : Option Addr} {n c : Nat} {ts : List Tok} (h : ToksAt F w (.slice A n c) ts) {i : Nat} (hi : i < n) :
    ∃ b off t, A = some ⟨b, off, none⟩ ∧ n ≤ c ∧ ts[i]? = some t ∧ F b ∧ b < w.heap.size ∧ w.rangeAt b (off + i * 4) t.cells := by
  have hn : n = ts.length := by obtain ⟨A', c', e, _⟩ := h.shape; injection e
  subst hn
  obtain ⟨b, off, c', hv, hc, hF, hb, hr⟩ := h.elem hi
  injection hv with e1 _ e3
  subst e1 e3
  have hp : ts[i]? = some ts[i] := List.getElem?_eq_getElem hi
  refine ⟨b, off, ts[i], rfl, hc, hp, hF, hb, ?_⟩
  rwa [flat_get Tok.cells 4 ts i ts[i] (fun _ _ => rfl) hp] at hr
theorem ToksAt.shape {F : Nat → Prop} {w : World} {v : Value} {ts : List Tok} (h : ToksAt F w v ts) : ∃ A c, v = .slice A ts.length c ∧ ts.length ≤ c ∧ c ≤ maxLen := by
  obtain ⟨A, c, e, h1, h2, _⟩ := FlatAt.shape h
  exact ⟨A, c, e, h1, h2⟩
theorem range4 {w : World} {b o : Nat} {t : Tok} (h : w.rangeAt b o t.cells) : w.cell? ⟨b, o, none⟩ = some (.int .i64 (t.k : Int)) ∧ w.cell? ⟨b, o + 1, none⟩ = some (.string ⟨t.s.toArray⟩) ∧ w.cell? ⟨b, o + 2, none⟩ = some (.int .i64 (t.n : Int)) ∧ w.cell? ⟨b, o + 3, none⟩ = some (.int .i64 (t.at_ : Int)) :=
  ⟨by simpa using h 0 _ rfl, by simpa using h 1 _ rfl, by simpa using h 2 _ rfl, by simpa using h 3 _ rfl⟩


/-- The document's tokens in memory. -/
def RToksAt (F : Nat → Prop) (w : World) (v : Value) (ts : List Tok) : Prop := FlatAt F w 4 v ts.length (ts.flatMap Tok.cells)
theorem RTokRow.flat {base : Nat} {w : World} {v : Value} {ts : List Tok} (h : RTokRow base w v ts) : RToksAt (base ≤ ·) w v ts := FlatAt.of_own h fun u hu => by
  obtain ⟨t, _, ht⟩ := List.mem_flatMap.1 hu
  exact t.one u ht
end Go.Proofs.YtdahnjcoflifbaaDoor
/- Slices of slices: what a[lo:hi:hi] holds, cell by cell, and operation by operation. -/
namespace Go.Proofs.YtdahnjcoflifbaaDoor.Sd
open Go.RowKit

theorem flat_take {α : Type} (f : α → List Value) (k : Nat) : ∀ (l : List α) (i : Nat), (∀ y ∈ l, (f y).length = k) → (l.take i).flatMap f = (l.flatMap f).take (i * k)
  | [], i, _ => by simp
  | y :: r, 0, _ => by simp
  | y :: r, i + 1, hk => by
    have h1 := hk y (by simp)
    have ih := flat_take f k r i (fun z hz => hk z (by simp [hz]))
    rw [List.take_succ_cons, List.flatMap_cons, ih, List.flatMap_cons, show (i + 1) * k = (f y).length + i * k from by rw [h1, Nat.add_mul]; omega, List.take_append]
    simp [List.take_of_length_le]
theorem flat_drop {α : Type} (f : α → List Value) (k : Nat) : ∀ (l : List α) (i : Nat), (∀ y ∈ l, (f y).length = k) → (l.drop i).flatMap f = (l.flatMap f).drop (i * k)
  | [], i, _ => by simp
  | y :: r, 0, _ => by simp
  | y :: r, i + 1, hk => by
    have h1 := hk y (by simp)
    have ih := flat_drop f k r i (fun z hz => hk z (by simp [hz]))
    rw [List.drop_succ_cons, ih, List.flatMap_cons, show (i + 1) * k = (f y).length + i * k from by rw [h1, Nat.add_mul]; omega, List.drop_append]
    simp

section
variable {F : Nat → Prop} {w : World} {k n c : Nat} {A : Option Addr} {xs : List Value}
theorem FlatAt.cut (h : FlatAt F w k (.slice A n c) n xs) {lo hi : Nat} (h1 : lo ≤ hi) (h2 : hi ≤ n) : FlatAt F w k (sliced A lo hi hi k) (hi - lo) ((xs.take (hi * k)).drop (lo * k)) := by
  obtain ⟨hl, ho, A', c', hv, hc, hm, hn, hr⟩ := h
  obtain ⟨rfl, rfl⟩ : A = A' ∧ c = c' := by injection hv with e1 _ e3; exact ⟨e1, e3⟩
  unfold sliced
  have hk : hi * k ≤ n * k := Nat.mul_le_mul_right _ h2
  refine ⟨?_, fun u hu => ho u (List.mem_of_mem_take (List.mem_of_mem_drop hu)), _, _, rfl, Nat.le_refl _, by omega, ?_, fun h0 => ?_⟩
  · rw [List.length_drop, List.length_take, hl, Nat.min_eq_left hk, Nat.sub_mul]
  · intro h0
    by_cases he : hi = lo
    · omega
    · rw [if_neg he] at h0
      have : A = none := by cases A with
        | none => rfl
        | some a => cases h0
      have := hn this
      omega
  · rw [if_neg (by omega)]
    obtain ⟨b, off, rfl, hF, hb, hr⟩ := hr (by omega)
    refine ⟨b, off + lo * k, ?_, hF, hb, fun j u hj => ?_⟩
    · simp [Addr.add_lit]
    · rw [List.getElem?_drop] at hj
      have hlt : lo * k + j < hi * k := by
        have := (List.getElem?_eq_some_iff.1 hj).1
        rw [List.length_take] at this
        omega
      rw [List.getElem?_take_of_lt hlt] at hj
      rw [Nat.add_assoc]
      exact hr _ _ hj
theorem OpsIn.cut {ps : List (OpD × Value)} (h : OpsIn F w (.slice A n c) ps) {lo hi : Nat} (h1 : lo ≤ hi) (h2 : hi ≤ ps.length) : OpsIn F w (sliced A lo hi hi 10) ((ps.take hi).drop lo) := by
  have e : ps.length = n := by
    obtain ⟨_, _, hv, _⟩ := FlatAt.shape h.1
    injection hv with _ e2 _
    exact e2.symm
  refine ⟨?_, fun p hp => h.2 p (List.mem_of_mem_take (List.mem_of_mem_drop hp))⟩
  have := FlatAt.cut (e ▸ h.1 : FlatAt F w 10 (.slice A n c) n _) h1 (by omega)
  rw [flat_drop (fun p : OpD × Value => p.1.cells p.2) 10 _ _ (fun p _ => p.1.len p.2), flat_take (fun p : OpD × Value => p.1.cells p.2) 10 _ _ (fun p _ => p.1.len p.2), show ((ps.take hi).drop lo).length = hi - lo from by simp; omega]
  exact this
theorem FlatAt.tail (h : FlatAt F w k (.slice A n c) n xs) {lo : Nat} (h1 : lo ≤ n) : FlatAt F w k (sliced A lo n c k) (n - lo) (xs.drop (lo * k)) := by
  obtain ⟨hl, ho, A', c', hv, hc, hm, hn, hr⟩ := h
  obtain ⟨rfl, rfl⟩ : A = A' ∧ c = c' := by injection hv with e1 _ e3; exact ⟨e1, e3⟩
  unfold sliced
  refine ⟨?_, fun u hu => ho u (List.mem_of_mem_drop hu), _, _, rfl, by omega, by omega, ?_, fun h0 => ?_⟩
  · rw [List.length_drop, hl, Nat.sub_mul]
  · intro h0
    by_cases he : c = lo
    · omega
    · rw [if_neg he] at h0
      have : A = none := by cases A with
        | none => rfl
        | some a => cases h0
      have := hn this
      omega
  · rw [if_neg (by omega)]
    obtain ⟨b, off, rfl, hF, hb, hr⟩ := hr (by omega)
    refine ⟨b, off + lo * k, ?_, hF, hb, fun j u hj => ?_⟩
    · simp [Addr.add_lit]
    · rw [List.getElem?_drop] at hj
      rw [Nat.add_assoc]
      exact hr _ _ hj
theorem OpsIn.tail {ps : List (OpD × Value)} (h : OpsIn F w (.slice A n c) ps) {lo : Nat} (h1 : lo ≤ ps.length) : OpsIn F w (sliced A lo n c 10) (ps.drop lo) := by
  have e : ps.length = n := by
    obtain ⟨_, _, hv, _⟩ := FlatAt.shape h.1
    injection hv with _ e2 _
    exact e2.symm
  refine ⟨?_, fun p hp => h.2 p (List.mem_of_mem_drop hp)⟩
  have := FlatAt.tail (e ▸ h.1 : FlatAt F w 10 (.slice A n c) n _) (lo := lo) (by omega)
  rw [flat_drop (fun p : OpD × Value => p.1.cells p.2) 10 _ _ (fun p _ => p.1.len p.2), show (ps.drop lo).length = n - lo from by simp; omega]
  exact this
end
end Go.Proofs.YtdahnjcoflifbaaDoor.Sd
/- What a reader asks for: closures over a text or a kind; where a reader lies. -/
namespace Go.Proofs.YtdahnjcoflifbaaDoor
open Go.RowKit

/-- The closure v tells of each token whether f holds of it, in all later worlds. -/
def WantAt (w : World) (v : SetV) (f : Tok → Bool) : Prop :=
  Enters v.F ∧ ∀ (W : World) (t : Tok), Later w W → Calls Tryd.prog v.F (#[.agg t.cells.toArray] ++ v.cs) W fun e W' => e = .returned (.bool (f t)) ∧ Later W W'
theorem WantAt.later {w w' : World} {v : SetV} {f : Tok → Bool} (h : WantAt w v f) (hl : Later w w') : WantAt w' v f := ⟨h.1, fun W c h1 => h.2 W c (hl.trans h1)⟩
/-- What hands back such a closure. -/
def NewWant (w : World) (f : Tok → Bool) (e : Ending) (w' : World) : Prop := ∃ v : SetV, e = .returned v.val ∧ WantAt w' v f ∧ Later w w'

theorem str_tok (a b : List UInt8) : ((⟨a.toArray⟩ : ByteArray).toList == (⟨b.toArray⟩ : ByteArray).toList) = decide (a = b) := by
  rw [Bool.eq_iff_iff, beq_iff_eq, decide_eq_true_eq, ByteArray.toList_eq, ByteArray.toList_eq]

section
variable {w : World}
theorem just1_any (W : World) (s : List UInt8) (t : Tok) (b : Nat) (h : W.cell? ⟨b, 0, none⟩ = some (.string ⟨s.toArray⟩)) :
    Calls Tryd.prog 64 #[.agg t.cells.toArray, .pointer (some ⟨b, 0, none⟩)] W fun e W' => e = .returned (.bool (justF s t)) ∧ Later W W' := by
  have HL : Hid (Later W (W.alloc (.cells t.cells.toArray 88 (0, 0)))) := (Below.refl _ _).alloc (Nat.le_refl _) _
  unfold justF
  unfold Tok.cells at *
  have hb : b < W.heap.size := by
    rcases Nat.lt_or_ge b W.heap.size with h1 | h1
    · exact h1
    · simp [World.cell?, Array.getElem?_eq_none h1] at h
  go_enter Tryd.func64, Tryd.ntmps64
  go_wp2
  go_ret
  exact ⟨ret_bool (by rw [Bool.eq_iff_iff]; simp), HL.out⟩
theorem enters_just1 : Enters 64 := fun args w => by go_simp
theorem just_any (s : List UInt8) : Calls Tryd.prog 44 #[.string ⟨s.toArray⟩] w (NewWant w (justF s)) := by
  have X1 := hide (heap_alloc_new w (.cells #[.string ⟨s.toArray⟩] 9 (0, 0)))
  have HB : Hid (Later w (w.alloc (.cells #[.string ⟨s.toArray⟩] 9 (0, 0)))) := (Below.refl _ _).alloc (Nat.le_refl _) _
  go_enter Tryd.func44, Tryd.ntmps44
  go_wp2
  go_ret
  exact ⟨⟨64, #[.pointer (some ⟨w.heap.size, 0, none⟩)]⟩, rfl, ⟨enters_just1, fun W t hl => just1_any W s t _ (cell_later X1.out hl)⟩, HB.out⟩
theorem some1_any (W : World) (k : Nat) (t : Tok) (b : Nat) (h : W.cell? ⟨b, 0, none⟩ = some (.int .i64 (k : Int))) :
    Calls Tryd.prog 67 #[.agg t.cells.toArray, .pointer (some ⟨b, 0, none⟩)] W fun e W' => e = .returned (.bool (someF k t)) ∧ Later W W' := by
  have HL : Hid (Later W (W.alloc (.cells t.cells.toArray 88 (0, 0)))) := (Below.refl _ _).alloc (Nat.le_refl _) _
  have hb : b < W.heap.size := by
    rcases Nat.lt_or_ge b W.heap.size with h1 | h1
    · exact h1
    · simp [World.cell?, Array.getElem?_eq_none h1] at h
  unfold someF
  unfold Tok.cells at *
  go_enter Tryd.func67, Tryd.ntmps67
  go_wp2
  go_ret
  exact ⟨ret_bool (ibeq _ _), HL.out⟩
theorem enters_some1 : Enters 67 := fun args w => by go_simp
theorem some_any (k : Nat) : Calls Tryd.prog 48 #[.int .i64 (k : Int)] w (NewWant w (someF k)) := by
  have X1 := hide (heap_alloc_new w (.cells #[.int .i64 (k : Int)] 3 (0, 0)))
  have HB : Hid (Later w (w.alloc (.cells #[.int .i64 (k : Int)] 3 (0, 0)))) := (Below.refl _ _).alloc (Nat.le_refl _) _
  go_enter Tryd.func48, Tryd.ntmps48
  go_wp2
  go_ret
  exact ⟨⟨67, #[.pointer (some ⟨w.heap.size, 0, none⟩)]⟩, rfl, ⟨enters_some1, fun W t hl => some1_any W k t _ (cell_later X1.out hl)⟩, HB.out⟩
end

/-- From w to w': below g all is as it was; from g on too, but for g, for h and for integers. -/
structure Past (g : Nat) (H : Option Nat) (w w' : World) : Prop where
  os : w'.os = w.os
  tape : w'.tape = w.tape
  output : w'.output = w.output
  size : w.heap.size ≤ w'.heap.size
  low : ∀ j, j < w.heap.size → j < g → w'.heap[j]? = w.heap[j]?
  keep : ∀ j, j < w.heap.size → g < j → H ≠ some j → (∀ cs, w.heap[j]? ≠ some (.cells cs 3 (0, 0))) → w'.heap[j]? = w.heap[j]?
theorem Past.refl (g : Nat) (H : Option Nat) (w : World) : Past g H w w := ⟨rfl, rfl, rfl, Nat.le_refl _, fun _ _ _ => rfl, fun _ _ _ _ _ => rfl⟩
theorem Past.trans {g : Nat} {H : Option Nat} {a b c : World} (h : Past g H a b) (k : Past g H b c) : Past g H a c :=
  ⟨k.os.trans h.os, k.tape.trans h.tape, k.output.trans h.output, Nat.le_trans h.size k.size, fun j hj hg => (k.low j (Nat.lt_of_lt_of_le hj h.size) hg).trans (h.low j hj hg),
    fun j hj hg hH hi => by
      have h1 := h.keep j hj hg hH hi
      exact (k.keep j (Nat.lt_of_lt_of_le hj h.size) hg hH (fun cs => by rw [h1]; exact hi cs)).trans h1⟩
theorem Past.of_later {g : Nat} {H : Option Nat} {a b : World} (h : Later a b) : Past g H a b :=
  ⟨h.os, h.tape, h.output, h.size, fun j hj _ => h.block j hj, fun j hj _ _ _ => h.block j hj⟩
theorem Past.weak {g : Nat} {H : Option Nat} {a b : World} (h : Past g none a b) : Past g H a b := ⟨h.os, h.tape, h.output, h.size, h.low, fun j hj hg _ hi => h.keep j hj hg (by simp) hi⟩
/-- What was written is the call's own. -/
theorem Past.own {g k : Nat} {a b : World} (h : Past g (some k) a b) (hk : a.heap.size ≤ k) : Past g none a b :=
  ⟨h.os, h.tape, h.output, h.size, h.low, fun j hj hg _ hi => h.keep j hj hg (by intro e; have := Option.some.inj e; omega) hi⟩
theorem Past.below {g B : Nat} {H : Option Nat} {a b : World} (h : Past g H a b) (hB : B ≤ g) (hB2 : B ≤ a.heap.size) : Below B a b :=
  ⟨h.os, h.tape, h.output, h.size, fun j hj => h.low j (Nat.lt_of_lt_of_le hj hB2) (Nat.lt_of_lt_of_le hj hB)⟩
theorem Past.of_grown {g : Nat} {H : Option Nat} {a b : World} {r : Option Nat} (h : a.grownBy b r) (hH : ∀ j, H = some j → g ≤ j)
    (hr : ∀ j, r = some j → j = g ∨ H = some j ∨ (g < j ∧ ∃ cs, a.heap[j]? = some (.cells cs 3 (0, 0)))) : Past g H a b := by
  refine ⟨h.os, h.tape, h.output, h.size, fun j hj hg => h.block j hj ?_, fun j hj hg hne hi => h.block j hj ?_⟩
  · intro e
    rcases hr j e.symm with h1 | h1 | h1
    · omega
    · have := hH j h1
      omega
    · omega
  · intro e
    rcases hr j e.symm with h1 | h1 | ⟨_, cs, h1⟩
    · omega
    · exact hne h1
    · exact hi cs h1

/-- Places as cells. -/
def plc (ps : List Nat) : List Value := ps.map fun x : Nat => Value.int .i64 (x : Int)
/-- A reader in block g: the tokens that are left (the text's end among them), whether it is lost, the places of names. -/
def RdRaw (g : Nat) (L : List Tok) (lost : Bool) (ps : List Nat) (w : World) : Prop := ∃ tv nv, w.heap[g]? = some (.cells #[tv, .bool lost, nv] 53 (0, 0)) ∧
  FlatAt (· < g) w 4 tv L.length (L.flatMap Tok.cells) ∧ w.ownsRow (g + 1) 3 1 nv ps.length (plc ps)
theorem RdRaw.lt {g : Nat} {L : List Tok} {lost : Bool} {ps : List Nat} {w : World} (h : RdRaw g L lost ps w) : g < w.heap.size := by
  obtain ⟨_, _, h, _⟩ := h
  exact lt_of_block h
theorem RdRaw.later {g : Nat} {L : List Tok} {lost : Bool} {ps : List Nat} {w w' : World} (h : RdRaw g L lost ps w) (hl : Later w w') : RdRaw g L lost ps w' := by
  obtain ⟨tv, nv, h1, h2, h3⟩ := h
  exact ⟨tv, nv, (Below.block hl g (lt_of_block h1)).trans h1, h2.kept (Kept.of_below hl _), own_later h3 hl⟩
/-- Only blocks behind the reader have turned, and none of its own. -/
theorem RdRaw.own {g : Nat} {L : List Tok} {lost : Bool} {ps : List Nat} {w w' : World} {k : Nat} (h : RdRaw g L lost ps w) (hw : w.grownBy w' (some k)) (hk : g < k) {cs : Array Value} {t : TypeId} (hb : w.heap[k]? = some (.cells cs t (0, 0))) (ht : t ≠ 3) : RdRaw g L lost ps w' := by
  obtain ⟨tv, nv, h1, h2, h3⟩ := h
  refine ⟨tv, nv, (hw.block g (lt_of_block h1) (by intro e; have := Option.some.inj e; omega)).trans h1, h2.kept ⟨hw.size, fun i hi hg => hw.block i hi (by intro e; have := Option.some.inj e; simp only at hg; omega)⟩, ?_⟩
  exact own_apart h3 hb (fun e => ht e.symm) hw
theorem RdRaw.cells {g : Nat} {L : List Tok} {lost : Bool} {ps : List Nat} {w : World} (h : RdRaw g L lost ps w) : ∃ tv nv, w.cell? ⟨g, 0, none⟩ = some tv ∧ w.cell? ⟨g, 1, none⟩ = some (.bool lost) ∧ w.cell? ⟨g, 2, none⟩ = some nv ∧
    w.frozen? ⟨g, 0, none⟩ = false ∧ w.frozen? ⟨g, 1, none⟩ = false ∧ w.frozen? ⟨g, 2, none⟩ = false ∧ FlatAt (· < g) w 4 tv L.length (L.flatMap Tok.cells) ∧ w.ownsRow (g + 1) 3 1 nv ps.length (plc ps) ∧
    w.heap[g]? = some (.cells #[tv, .bool lost, nv] 53 (0, 0)) := by
  obtain ⟨tv, nv, h1, h2, h3⟩ := h
  exact ⟨tv, nv, by simpa using cell_of_row w g 0 _ _ _ h1, by simpa using cell_of_row w g 1 _ _ _ h1, by simpa using cell_of_row w g 2 _ _ _ h1, frozen_of_row w g 0 _ _ h1, frozen_of_row w g 1 _ _ h1, frozen_of_row w g 2 _ _ h1, h2, h3, h1⟩
theorem RdRaw.head {g : Nat} {t : Tok} {L : List Tok} {tv : Value} {w : World} (h : FlatAt (· < g) w 4 tv (t :: L).length ((t :: L).flatMap Tok.cells)) : ∃ b off n c, tv = .slice (some ⟨b, off, none⟩) n c ∧ n = L.length + 1 ∧ n ≤ c ∧ c ≤ maxLen ∧ b < g ∧ b < w.heap.size ∧ w.rangeAt b off t.cells := by
  obtain ⟨A, c, rfl, h1, h2, _⟩ := h.shape
  obtain ⟨b, off, x, rfl, _, hx, hb, hbs, hr⟩ := ToksAt.at_ h (i := 0) (by simp)
  simp at hx
  subst hx
  exact ⟨b, off, _, c, rfl, by simp, h1, h2, hb, hbs, by simpa using hr⟩
/-- A store into the reader's own block. -/
theorem RdRaw.set {g : Nat} {L L' : List Tok} {lost : Bool} {ps : List Nat} {w w' : World} (h : RdRaw g L lost ps w) (hw : w.grownBy w' (some g)) {tv nv : Value} {lost' : Bool} (hb : w'.heap[g]? = some (.cells #[tv, .bool lost', nv] 53 (0, 0)))
    (ht : FlatAt (· < g) w 4 tv L'.length (L'.flatMap Tok.cells)) (hn : w.ownsRow (g + 1) 3 1 nv ps.length (plc ps)) : RdRaw g L' lost' ps w' := by
  obtain ⟨_, _, h1, _, _⟩ := h
  refine ⟨tv, nv, hb, ht.kept ⟨hw.size, fun i hi hg => hw.block i hi (by intro e; have := Option.some.inj e; simp only at hg; omega)⟩, ?_⟩
  exact own_apart hn h1 (by decide) hw
theorem grown_cell (w : World) (a : Addr) (v : Value) : w.grownBy (w.setCell a v) (some a.block) :=
  ⟨rfl, rfl, rfl, by simp [World.setCell], fun i hi hne => heap_setCell_other _ _ _ _ (fun e => hne (by rw [e]))⟩
theorem Past.set (g : Nat) (H : Option Nat) (hH : ∀ j, H = some j → g ≤ j) {w w' : World} (hw : w.grownBy w' (some g)) : Past g H w w' := Past.of_grown hw hH fun _ e => .inl (Option.some.inj e).symm

theorem toks_from {op : Oper} {a : Act} {w : World} (x y : Operand) (ho : op.op = .slice 45 x (some y) none none) (A : Option Addr) (n c lo : Nat) (v : Value) (hv : sliced A lo n c 4 = v) (hx : a.eval x = .slice A n c) (hy : a.eval y = .int .i64 (lo : Int)) (h1 : lo ≤ n) :
    (execOp a.eval op).run Tryd.prog w = .ok (.value v) w := by
  rw [← hv]
  have ht : Tryd.prog.underlying 45 = some (.slice (Tryd.prog.elem 45)) := by kernel_rfl
  obtain ⟨i0, hi0, hz0, hz1, hz2⟩ := info_parts (show (Tryd.prog.info? (Tryd.prog.elem 45)).map (fun i => (i.zero, i.size, i.bytes)) = some (some (.agg #[.int .i64 0, .string ⟨#[]⟩, .int .i64 0, .int .i64 0]), 4, 40) from by kernel_rfl)
  have hr := run_slice_l (P := Tryd.prog) w 45 A n c ht .i64 (lo : Int) (by omega) (by omega)
  have hs : (sizeOf (Tryd.prog.elem 45)).run Tryd.prog w = .ok 4 w := by simp [sizeOf, typeInfo, hi0, hz1]
  rw [hs] at hr
  simp only [Result.andThen, Int.toNat_natCast] at hr
  unfold execOp
  simp only [ho, hx, hy, Option.map_some, Option.map_none, Sem.run_bind, Sem.run_pure]
  rw [run_sliceAt_slice _ _ _ _ _ _ ht, hr]
  rfl
end Go.Proofs.YtdahnjcoflifbaaDoor
/- A long chain of '&&' over fields of two structs, one conjunct at a time: the frame is known by four of its slots alone. -/
namespace Go.Proofs.YtdahnjcoflifbaaDoor
open Go.RowKit

/-- The frame: two addresses in slots 2 and 3, and what holds so far in slot k. -/
structure Fr (X Y : Value) (k : Nat) (c : Bool) (n : Nat) (a : Act) : Prop where
  x : a.tmps[2]? = some X
  y : a.tmps[3]? = some Y
  c : a.tmps[k]? = some (.bool c)
  n : a.tmps.size = n
  d : a.defers = []
theorem put_tmps (a : Act) (d : Nat) (v : Value) (i : Nat) : (a.put (some d) v).tmps[i]? = if d = i then (if i < a.tmps.size then some v else none) else a.tmps[i]? := by
  show (a.tmps.setIfInBounds d v)[i]? = _
  rw [Array.getElem?_setIfInBounds]
  by_cases h : d = i
  · subst h
    simp
  · simp [h]
theorem put_same (a : Act) (d : Nat) (v : Value) (h : d < a.tmps.size) : (a.put (some d) v).tmps[d]? = some v := by rw [put_tmps, if_pos rfl, if_pos h]
theorem put_other (a : Act) (d : Nat) (v : Value) (i : Nat) (h : d ≠ i) : (a.put (some d) v).tmps[i]? = a.tmps[i]? := by rw [put_tmps, if_neg h]
theorem put_size (a : Act) (d : Nat) (v : Value) : (a.put (some d) v).tmps.size = a.tmps.size := by simp [Act.put]
theorem eval_of {a : Act} {i : Nat} {v : Value} (h : a.tmps[i]? = some v) : a.eval (.tmp i) = v := by
  show a.tmps.getD i undef = v
  rw [Array.getD_eq_getD_getElem?, h]
  rfl
/-- The same without a word of what holds so far. -/
structure Fr0 (X Y : Value) (n : Nat) (a : Act) : Prop where
  x : a.tmps[2]? = some X
  y : a.tmps[3]? = some Y
  n : a.tmps.size = n
  d : a.defers = []
section
variable {X Y : Value} {k n : Nat} {c : Bool} {a : Act}
theorem Fr0.put (h : Fr0 X Y n a) (d : Nat) (v : Value) (h2 : d ≠ 2) (h3 : d ≠ 3) : Fr0 X Y n (a.put (some d) v) := ⟨(put_other a d v 2 h2).trans h.x, (put_other a d v 3 h3).trans h.y, (put_size a d v).trans h.n, h.d⟩
theorem Fr.put (h : Fr X Y k c n a) (d : Nat) (v : Value) (h2 : d ≠ 2) (h3 : d ≠ 3) (hk : d ≠ k) : Fr X Y k c n (a.put (some d) v) :=
  ⟨(put_other a d v 2 h2).trans h.x, (put_other a d v 3 h3).trans h.y, (put_other a d v k hk).trans h.c, (put_size a d v).trans h.n, h.d⟩
variable {P : Program} {ops : Array Oper} {Q : Exit → Act → World → Prop} {rest : List Oper} {w : World}
theorem wpList_val {o : Oper} {d : Nat} {v : Value} {w' : World} (hd : o.dst = some d) (hw : Region.wanted o (yielded ops a.tmps) = true) (hx : (execOp a.eval o).run P w = .ok (.value v) w')
    (h : wpList P ops Q rest (a.put (some d) v) w') : wpList P ops Q (o :: rest) a w := by
  refine wpList_step fun K hK => ?_
  rw [if_pos hw]
  unfold Oper.wp
  rw [hx, Oper.upon_value, hd]
  exact hK _ _ h
theorem want_true {o : Oper} {j : Nat} {k : Nat} (hg : o.guard = some (j, true)) (hj : (ops[j]?).bind (·.dst) = some k) (hk : a.tmps[k]? = some (.bool true)) : Region.wanted o (yielded ops a.tmps) = true := by
  unfold Region.wanted yielded
  rw [hg]
  simp only [hj, Option.bind_some, hk]
  rfl
theorem want_false {o : Oper} {j : Nat} {k : Nat} (hg : o.guard = some (j, true)) (hj : (ops[j]?).bind (·.dst) = some k) (hk : a.tmps[k]? = some (.bool false)) : Region.wanted o (yielded ops a.tmps) = false := by
  unfold Region.wanted yielded
  rw [hg]
  simp only [hj, Option.bind_some, hk]
  rfl
theorem want_none {o : Oper} (hg : o.guard = none) : Region.wanted o (yielded ops a.tmps) = true := by
  unfold Region.wanted
  rw [hg]
theorem skip_one {o : Oper} {j d : Nat} (h : Fr X Y k false n a) (hj : (ops[j]?).bind (·.dst) = some k) (hd : o.dst = some d) (hg : o.guard = some (j, true)) (h2 : d ≠ 2) (h3 : d ≠ 3) (hk : d ≠ k)
    (next : ∀ a', Fr X Y k false n a' → wpList P ops Q rest a' w) : wpList P ops Q (o :: rest) a w := by
  refine wpList_skip (want_false hg hj h.c) ?_
  rw [hd]
  exact next _ (h.put d undef h2 h3 hk)

/-- One conjunct: the operations at slots s to s + 4 are wanted just if all holds so far; then the pick, then a move. -/
theorem conj {q : Bool} {s : Nat} {W : World → Prop} (j t : Nat) (h : Fr X Y k c n a) (hj : (ops[j]?).bind (·.dst) = some k) (hs : k < s) (hs3 : 3 < s) (hn : s + 6 ≤ n) (ht : 3 < t) (htn : t < n) (hW : W w)
    {o1 o2 o3 o4 o5 o6 o7 : Oper} {px py vx vy : Value}
    (g1 : o1.dst = some s ∧ o1.guard = some (j, true)) (g2 : o2.dst = some (s + 1) ∧ o2.guard = some (j, true)) (g3 : o3.dst = some (s + 2) ∧ o3.guard = some (j, true)) (g4 : o4.dst = some (s + 3) ∧ o4.guard = some (j, true)) (g5 : o5.dst = some (s + 4) ∧ o5.guard = some (j, true))
    (g6 : o6.op = .pick (.tmp k) (.tmp (s + 4)) (.const (.bool false)) ∧ o6.dst = some (s + 5) ∧ o6.guard = none) (g7 : (o7.op = .move (.tmp (s + 5)) ∨ o7.op = .assign (.tmp (s + 5))) ∧ o7.dst = some t ∧ o7.guard = none)
    (e1 : ∀ a' : Act, a'.tmps[2]? = some X → (execOp a'.eval o1).run P w = .ok (.value px) w)
    (e2 : ∀ a' : Act, a'.tmps[s]? = some px → (execOp a'.eval o2).run P w = .ok (.value vx) w)
    (e3 : ∀ a' : Act, a'.tmps[3]? = some Y → (execOp a'.eval o3).run P w = .ok (.value py) w)
    (e4 : ∀ a' : Act, a'.tmps[(s + 2)]? = some py → (execOp a'.eval o4).run P w = .ok (.value vy) w)
    (e5 : ∀ (a' : Act) (r : List Oper), a'.tmps[(s + 1)]? = some vx → a'.tmps[(s + 3)]? = some vy → Region.wanted o5 (yielded ops a'.tmps) = true → (∀ w', W w' → wpList P ops Q r (a'.put (some (s + 4)) (.bool q)) w') → wpList P ops Q (o5 :: r) a' w)
    (next : ∀ a' w', Fr X Y t (c && q) n a' → W w' → wpList P ops Q rest a' w') : wpList P ops Q (o1 :: o2 :: o3 :: o4 :: o5 :: o6 :: o7 :: rest) a w := by
  have last : ∀ (a' : Act) (w' : World) (b : Bool), Fr X Y k c n a' → (c = true → a'.tmps[s + 4]? = some (.bool q)) → W w' → wpList P ops Q (o6 :: o7 :: rest) a' w' := by
    intro a' w' b h' hq hw'
    refine wpList_val (w' := w') (v := .bool (c && q)) g6.2.1 (want_none g6.2.2) ?_ ?_
    · unfold execOp
      simp only [g6.1, eval_of h'.c]
      cases c with
      | false => rfl
      | true =>
        simp only [eval_of (hq rfl)]
        rfl
    · refine wpList_val (w' := w') (v := .bool (c && q)) g7.2.1 (want_none g7.2.2) ?_ ?_
      · unfold execOp
        rcases g7.1 with g | g <;> (simp only [g, eval_of (put_same a' (s + 5) (.bool (c && q)) (by have := h'.n; omega))]; rfl)
      · have h5 := h'.put (s + 5) (.bool (c && q)) (by omega) (by omega) (by omega)
        exact next _ _ ⟨(put_other _ t _ 2 (by omega)).trans h5.x, (put_other _ t _ 3 (by omega)).trans h5.y, put_same _ _ _ (by have := h5.n; omega), (put_size _ _ _).trans h5.n, h5.d⟩ hw'
  cases c with
  | false =>
    refine skip_one h hj g1.1 g1.2 (by omega) (by omega) (by omega) fun a1 h1 => ?_
    refine skip_one h1 hj g2.1 g2.2 (by omega) (by omega) (by omega) fun a2 h2 => ?_
    refine skip_one h2 hj g3.1 g3.2 (by omega) (by omega) (by omega) fun a3 h3 => ?_
    refine skip_one h3 hj g4.1 g4.2 (by omega) (by omega) (by omega) fun a4 h4 => ?_
    refine skip_one h4 hj g5.1 g5.2 (by omega) (by omega) (by omega) fun a5 h5 => ?_
    exact last a5 w false h5 (fun h => by cases h) hW
  | true =>
    have sz := h.n
    refine wpList_val g1.1 (want_true g1.2 hj h.c) (e1 a h.x) ?_
    have h1 := h.put s px (by omega) (by omega) (by omega)
    have t1 : (a.put (some s) px).tmps[s]? = some px := put_same a s px (by omega)
    refine wpList_val g2.1 (want_true g2.2 hj h1.c) (e2 _ t1) ?_
    have h2 := h1.put (s + 1) vx (by omega) (by omega) (by omega)
    have t2 := put_same (a.put (some s) px) (s + 1) vx (by have := h1.n; omega)
    refine wpList_val g3.1 (want_true g3.2 hj h2.c) (e3 _ h2.y) ?_
    have h3 := h2.put (s + 2) py (by omega) (by omega) (by omega)
    have t3 := put_same ((a.put (some s) px).put (some (s + 1)) vx) (s + 2) py (by have := h2.n; omega)
    have t2' := (put_other ((a.put (some s) px).put (some (s + 1)) vx) (s + 2) py (s + 1) (by omega)).trans t2
    refine wpList_val g4.1 (want_true g4.2 hj h3.c) (e4 _ t3) ?_
    have h4 := h3.put (s + 3) vy (by omega) (by omega) (by omega)
    have t4 := put_same (((a.put (some s) px).put (some (s + 1)) vx).put (some (s + 2)) py) (s + 3) vy (by have := h3.n; omega)
    have t2'' := (put_other (((a.put (some s) px).put (some (s + 1)) vx).put (some (s + 2)) py) (s + 3) vy (s + 1) (by omega)).trans t2'
    refine e5 _ _ t2'' t4 (want_true g5.2 hj h4.c) fun w' hw' => ?_
    have h5 := h4.put (s + 4) (.bool q) (by omega) (by omega) (by omega)
    exact last _ w' true h5 (fun _ => put_same _ _ _ (by have := h4.n; omega)) hw'
/-- One conjunct over fields of fields: the operations at slots s to s + 6 are wanted just if all holds so far; then the pick, then a move. -/
theorem conj2 {q : Bool} {s : Nat} {W : World → Prop} (j t : Nat) (h : Fr X Y k c n a) (hj : (ops[j]?).bind (·.dst) = some k) (hs : k < s) (hs3 : 3 < s) (hn : s + 8 ≤ n) (ht : 3 < t) (htn : t < n) (hW : W w)
    {o1 o1' o2 o3 o3' o4 o5 o6 o7 : Oper} {px px' py py' vx vy : Value}
    (g1 : o1.dst = some s ∧ o1.guard = some (j, true)) (g1' : o1'.dst = some (s + 1) ∧ o1'.guard = some (j, true)) (g2 : o2.dst = some (s + 2) ∧ o2.guard = some (j, true)) (g3 : o3.dst = some (s + 3) ∧ o3.guard = some (j, true)) (g3' : o3'.dst = some (s + 4) ∧ o3'.guard = some (j, true)) (g4 : o4.dst = some (s + 5) ∧ o4.guard = some (j, true)) (g5 : o5.dst = some (s + 6) ∧ o5.guard = some (j, true))
    (g6 : o6.op = .pick (.tmp k) (.tmp (s + 6)) (.const (.bool false)) ∧ o6.dst = some (s + 7) ∧ o6.guard = none) (g7 : (o7.op = .move (.tmp (s + 7)) ∨ o7.op = .assign (.tmp (s + 7))) ∧ o7.dst = some t ∧ o7.guard = none)
    (e1 : ∀ a' : Act, a'.tmps[2]? = some X → (execOp a'.eval o1).run P w = .ok (.value px) w)
    (e1' : ∀ a' : Act, a'.tmps[s]? = some px → (execOp a'.eval o1').run P w = .ok (.value px') w)
    (e2 : ∀ a' : Act, a'.tmps[s + 1]? = some px' → (execOp a'.eval o2).run P w = .ok (.value vx) w)
    (e3 : ∀ a' : Act, a'.tmps[3]? = some Y → (execOp a'.eval o3).run P w = .ok (.value py) w)
    (e3' : ∀ a' : Act, a'.tmps[s + 3]? = some py → (execOp a'.eval o3').run P w = .ok (.value py') w)
    (e4 : ∀ a' : Act, a'.tmps[s + 4]? = some py' → (execOp a'.eval o4).run P w = .ok (.value vy) w)
    (e5 : ∀ (a' : Act) (r : List Oper), a'.tmps[(s + 2)]? = some vx → a'.tmps[(s + 5)]? = some vy → Region.wanted o5 (yielded ops a'.tmps) = true → (∀ w', W w' → wpList P ops Q r (a'.put (some (s + 6)) (.bool q)) w') → wpList P ops Q (o5 :: r) a' w)
    (next : ∀ a' w', Fr X Y t (c && q) n a' → W w' → wpList P ops Q rest a' w') : wpList P ops Q (o1 :: o1' :: o2 :: o3 :: o3' :: o4 :: o5 :: o6 :: o7 :: rest) a w := by
  have last : ∀ (a' : Act) (w' : World) (b : Bool), Fr X Y k c n a' → (c = true → a'.tmps[s + 6]? = some (.bool q)) → W w' → wpList P ops Q (o6 :: o7 :: rest) a' w' := by
    intro a' w' b h' hq hw'
    refine wpList_val (w' := w') (v := .bool (c && q)) g6.2.1 (want_none g6.2.2) ?_ ?_
    · unfold execOp
      simp only [g6.1, eval_of h'.c]
      cases c with
      | false => rfl
      | true =>
        simp only [eval_of (hq rfl)]
        rfl
    · refine wpList_val (w' := w') (v := .bool (c && q)) g7.2.1 (want_none g7.2.2) ?_ ?_
      · unfold execOp
        rcases g7.1 with g | g <;> (simp only [g, eval_of (put_same a' (s + 7) (.bool (c && q)) (by have := h'.n; omega))]; rfl)
      · have h5 := h'.put (s + 7) (.bool (c && q)) (by omega) (by omega) (by omega)
        exact next _ _ ⟨(put_other _ t _ 2 (by omega)).trans h5.x, (put_other _ t _ 3 (by omega)).trans h5.y, put_same _ _ _ (by have := h5.n; omega), (put_size _ _ _).trans h5.n, h5.d⟩ hw'
  cases c with
  | false =>
    refine skip_one h hj g1.1 g1.2 (by omega) (by omega) (by omega) fun a1 h1 => ?_
    refine skip_one h1 hj g1'.1 g1'.2 (by omega) (by omega) (by omega) fun b1 hb1 => ?_
    refine skip_one hb1 hj g2.1 g2.2 (by omega) (by omega) (by omega) fun a2 h2 => ?_
    refine skip_one h2 hj g3.1 g3.2 (by omega) (by omega) (by omega) fun a3 h3 => ?_
    refine skip_one h3 hj g3'.1 g3'.2 (by omega) (by omega) (by omega) fun b3 hb3 => ?_
    refine skip_one hb3 hj g4.1 g4.2 (by omega) (by omega) (by omega) fun a4 h4 => ?_
    refine skip_one h4 hj g5.1 g5.2 (by omega) (by omega) (by omega) fun a5 h5 => ?_
    exact last a5 w false h5 (fun h => by cases h) hW
  | true =>
    have sz := h.n
    refine wpList_val g1.1 (want_true g1.2 hj h.c) (e1 a h.x) ?_
    have h1 := h.put s px (by omega) (by omega) (by omega)
    have t1 : (a.put (some s) px).tmps[s]? = some px := put_same a s px (by omega)
    generalize a.put (some s) px = a1 at t1 h1 ⊢
    refine wpList_val g1'.1 (want_true g1'.2 hj h1.c) (e1' _ t1) ?_
    have tb1 := put_same a1 (s + 1) px' (by have := h1.n; omega)
    have hb1 := h1.put (s + 1) px' (by omega) (by omega) (by omega)
    generalize a1.put (some (s + 1)) px' = b1 at tb1 hb1 ⊢
    refine wpList_val g2.1 (want_true g2.2 hj hb1.c) (e2 _ tb1) ?_
    have t2 := put_same b1 (s + 2) vx (by have := hb1.n; omega)
    have h2 := hb1.put (s + 2) vx (by omega) (by omega) (by omega)
    generalize b1.put (some (s + 2)) vx = a2 at t2 h2 ⊢
    refine wpList_val g3.1 (want_true g3.2 hj h2.c) (e3 _ h2.y) ?_
    have t3 := put_same a2 (s + 3) py (by have := h2.n; omega)
    have u3 := (put_other a2 (s + 3) py (s + 2) (by omega)).trans t2
    have h3 := h2.put (s + 3) py (by omega) (by omega) (by omega)
    generalize a2.put (some (s + 3)) py = a3 at t3 u3 h3 ⊢
    refine wpList_val g3'.1 (want_true g3'.2 hj h3.c) (e3' _ t3) ?_
    have tb3 := put_same a3 (s + 4) py' (by have := h3.n; omega)
    have ub3 := (put_other a3 (s + 4) py' (s + 2) (by omega)).trans u3
    have hb3 := h3.put (s + 4) py' (by omega) (by omega) (by omega)
    generalize a3.put (some (s + 4)) py' = b3 at tb3 ub3 hb3 ⊢
    refine wpList_val g4.1 (want_true g4.2 hj hb3.c) (e4 _ tb3) ?_
    have t4 := put_same b3 (s + 5) vy (by have := hb3.n; omega)
    have u4 := (put_other b3 (s + 5) vy (s + 2) (by omega)).trans ub3
    have h4 := hb3.put (s + 5) vy (by omega) (by omega) (by omega)
    generalize b3.put (some (s + 5)) vy = a4 at t4 u4 h4 ⊢
    refine e5 _ _ u4 t4 (want_true g5.2 hj h4.c) fun w' hw' => ?_
    have h5 := h4.put (s + 6) (.bool q) (by omega) (by omega) (by omega)
    exact last _ w' true h5 (fun _ => put_same _ _ _ (by have := h4.n; omega)) hw'
/-- The first conjunct, that is always wanted: no pick. -/
theorem conj_first {q : Bool} {s : Nat} (hx : a.tmps[2]? = some X) (hy : a.tmps[3]? = some Y) (hsz : a.tmps.size = n) (hd : a.defers = []) (hs3 : 3 < s) (hn : s + 5 < n)
    {o1 o2 o3 o4 o5 o6 : Oper} {px py vx vy : Value}
    (g1 : o1.dst = some s ∧ o1.guard = none) (g2 : o2.dst = some (s + 1) ∧ o2.guard = none) (g3 : o3.dst = some (s + 2) ∧ o3.guard = none) (g4 : o4.dst = some (s + 3) ∧ o4.guard = none) (g5 : o5.dst = some (s + 4) ∧ o5.guard = none)
    (g6 : o6.op = .move (.tmp (s + 4)) ∧ o6.dst = some (s + 5) ∧ o6.guard = none)
    (e1 : ∀ a' : Act, a'.tmps[2]? = some X → (execOp a'.eval o1).run P w = .ok (.value px) w)
    (e2 : ∀ a' : Act, a'.tmps[s]? = some px → (execOp a'.eval o2).run P w = .ok (.value vx) w)
    (e3 : ∀ a' : Act, a'.tmps[3]? = some Y → (execOp a'.eval o3).run P w = .ok (.value py) w)
    (e4 : ∀ a' : Act, a'.tmps[(s + 2)]? = some py → (execOp a'.eval o4).run P w = .ok (.value vy) w)
    (e5 : ∀ a' : Act, a'.tmps[(s + 1)]? = some vx → a'.tmps[(s + 3)]? = some vy → (execOp a'.eval o5).run P w = .ok (.value (.bool q)) w)
    (next : ∀ a', Fr X Y (s + 5) q n a' → wpList P ops Q rest a' w) : wpList P ops Q (o1 :: o2 :: o3 :: o4 :: o5 :: o6 :: rest) a w := by
  have h0 : Fr0 X Y n a := ⟨hx, hy, hsz, hd⟩
  refine wpList_val g1.1 (want_none g1.2) (e1 a h0.x) ?_
  have t1 := put_same a s px (by have := h0.n; omega)
  have h1 := h0.put s px (by omega) (by omega)
  generalize a.put (some s) px = a1 at t1 h1 ⊢
  refine wpList_val g2.1 (want_none g2.2) (e2 _ t1) ?_
  have t2 := put_same a1 (s + 1) vx (by have := h1.n; omega)
  have h2 := h1.put (s + 1) vx (by omega) (by omega)
  generalize a1.put (some (s + 1)) vx = a2 at t2 h2 ⊢
  refine wpList_val g3.1 (want_none g3.2) (e3 _ h2.y) ?_
  have t3 := put_same a2 (s + 2) py (by have := h2.n; omega)
  have t2' := (put_other a2 (s + 2) py (s + 1) (by omega)).trans t2
  have h3 := h2.put (s + 2) py (by omega) (by omega)
  generalize a2.put (some (s + 2)) py = a3 at t3 t2' h3 ⊢
  refine wpList_val g4.1 (want_none g4.2) (e4 _ t3) ?_
  have t4 := put_same a3 (s + 3) vy (by have := h3.n; omega)
  have t2'' := (put_other a3 (s + 3) vy (s + 1) (by omega)).trans t2'
  have h4 := h3.put (s + 3) vy (by omega) (by omega)
  generalize a3.put (some (s + 3)) vy = a4 at t4 t2'' h4 ⊢
  refine wpList_val g5.1 (want_none g5.2) (e5 _ t2'' t4) ?_
  have t5 := put_same a4 (s + 4) (.bool q) (by have := h4.n; omega)
  have h5 := h4.put (s + 4) (.bool q) (by omega) (by omega)
  generalize a4.put (some (s + 4)) (.bool q) = a5 at t5 h5 ⊢
  refine wpList_val (w' := w) (v := .bool q) g6.2.1 (want_none g6.2.2) ?_ ?_
  · unfold execOp
    simp only [g6.1, eval_of t5]
    rfl
  · have h6 := h5.put (s + 5) (.bool q) (by omega) (by omega)
    exact next _ ⟨h6.x, h6.y, put_same _ _ _ (by have := h5.n; omega), h6.n, h6.d⟩
end
end Go.Proofs.YtdahnjcoflifbaaDoor
