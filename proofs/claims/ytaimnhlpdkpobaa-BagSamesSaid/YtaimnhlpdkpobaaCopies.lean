/- Copies of package op: operations, the list and each one's steps in new memory: the walk. -/
import Derived.Test.YtaimnhlpdkpobaaCopyRel
namespace Go.Proofs.Ytaimnhlpdkpobaa
open Go.RowKit

set_option maxHeartbeats 2000000 in
set_option maxRecDepth 100000 in
theorem copies_own (F : Nat → Prop) (ps : List (OpD × Value)) (v : Value) (w : World) (ho : OpsIn F w v ps) (hn1 : ps.length ≤ 1000000) (hs1 : ∀ p ∈ ps, p.1.steps.length ≤ 1000000) :
    Calls Try.prog 56 #[v] w (OpsCopied ps w) := by
  have C2 := hide (clone_ops F v _ _ w ho.1 hn1)
  have H2 : v.oneCell' = true := FlatAt.oneCell ho.1
  have HO := hide ho
  have HPL := hide hs1
  obtain ⟨n, hn⟩ : ∃ n, ps.length = n := ⟨_, rfl⟩
  rw [hn] at C2 hn1
  have HN := hide hn
  clear hn ho hs1
  go_enter Try.func56, Try.ntmps56
  go_wp2_with (fail)
  refine C2.out.mono ?_
  rintro e w4 ⟨vo, rfl, hown, hb⟩
  obtain ⟨A, c, rfl, hA1, hA2, hA3⟩ := FlatAt.shape (FlatAt.of_own hown (ops_one fun p hp => FlatAt.oneCell (HO.out.2 p hp)))
  have REL0 : Hid (CopiesRel w w4 (.slice A n c) ps 0 ps) :=
    ⟨rfl, rfl, by rw [HN.out]; exact hown, fun p hp => FlatAt.oneCell (HO.out.2 p hp), fun j p hj => by omega, fun _ _ => rfl, hb⟩
  clear hown hb C2
  go_wp2
  go_loopw [9] (fun j wr => ∃ (k : Nat) (qs : List (OpD × Value)), k ≤ n ∧ j = .int .i64 (k : Int) ∧ CopiesRel w wr (.slice A n c) ps k qs) (fun j _ => n - (intOf j).toNat)
  case atStart => exact ⟨0, ps, by omega, rfl, REL0.out⟩
  case round =>
    obtain ⟨k, qs, hk, rfl, hrel⟩ := hrel
    have REL := hide hrel
    clear hrel
    by_cases hkn : k < n
    · obtain ⟨x, xs, hx⟩ : ∃ x xs, ps[k]? = some (x, xs) := ⟨ps[k]'(by rw [HN.out]; exact hkn) |>.1, ps[k]'(by rw [HN.out]; exact hkn) |>.2, List.getElem?_eq_getElem (by rw [HN.out]; exact hkn)⟩
      have HX := hide hx
      have hxm : (x, xs) ∈ ps := List.mem_of_getElem? hx
      obtain ⟨xA, xc, rfl⟩ : ∃ xA xc, xs = .slice xA x.steps.length xc := by
        obtain ⟨xA, xc, h, _⟩ := FlatAt.shape (HO.out.2 _ hxm)
        exact ⟨xA, xc, h⟩
      have hfl := FlatAt.of_own REL.out.own (ops_one REL.out.one)
      rw [HN.out] at hfl
      obtain ⟨q, off, c', hv, _, hBq, hqlt, hr⟩ := hfl.elem hkn
      obtain ⟨rfl, rfl⟩ : A = some ⟨q, off, none⟩ ∧ c = c' := by injection hv with e1 _ e3; exact ⟨e1, e3⟩
      obtain rfl : off = 0 := by
        rcases REL.out.own.2 with ⟨e, _⟩ | ⟨_, _, _, e, _⟩
        · cases e
        · injection e with e _ _
          injection e with e
          injection e with _ e _
      rw [flat_get (fun p : OpD × Value => p.1.cells p.2) 10 qs k (x, .slice xA x.steps.length xc) (fun p _ => p.1.len p.2) (by rw [REL.out.old k (Nat.le_refl _)]; exact hx), Nat.zero_add] at hr
      obtain ⟨r0, r1, r2, r3, r4, r5, r6, r7, r8, r9⟩ := range_op hr
      obtain ⟨cur, hcur, hcsz⟩ : ∃ cur, wr.heap[q]? = some (.cells cur 33 (0, 0)) ∧ n * 10 ≤ cur.size := by
        rcases REL.out.own.2 with ⟨e, _⟩ | ⟨g, cap, cur, e, _, hg, hnc, _, hsz, _⟩
        · cases e
        · injection e with e e2 e3
          injection e with e
          injection e with e
          subst e
          exact ⟨cur, hg, by rw [hsz]; rw [HN.out] at hnc; omega⟩
      have HC := hide hcur
      have HCS := hide hcsz
      have HXB : Hid ((wr.alloc (.cells (x.cells (.slice xA x.steps.length xc)).toArray 33 (0, 0))).heap[wr.heap.size]? = some (.cells (x.cells (.slice xA x.steps.length xc)).toArray 33 (0, 0))) := heap_alloc_new _ _
      have HQ4 : Hid ((wr.alloc (.cells (x.cells (.slice xA x.steps.length xc)).toArray 33 (0, 0))).heap[q]? = some (.cells cur 33 (0, 0))) := (heap_alloc_old _ _ hqlt).trans hcur
      have C3 := hide (fun w' (hb : (wr.alloc (.cells (x.cells (.slice xA x.steps.length xc)).toArray 33 (0, 0))).grownBy w' (some q)) => copyop_own (fun b => b < w.heap.size) x (.slice xA x.steps.length xc) w'
        ((((StepsAt.mono (HO.out.2 _ hxm) (G := fun b => b < w.heap.size) (fun i hi _ => hi)).kept (Kept.of_below REL.out.below _)).kept (Kept.of_below ((Below.refl _ _).alloc (Nat.le_refl _) _) _)).kept (Kept.of_grown hb (fun g e h => by have e2 := Option.some.inj e; have h2 : g < w.heap.size := h; omega)))
        (by have := HPL.out _ hxm; simp only at this; omega))
      clear hx hr hxm hfl hv hcur hcsz
      go_wp2_with (refine wpList_load_box (by rfl) 33 _ (by rfl) wr.heap.size 0 (by rfl) 33 _ HXB.out 10 _ Try.underlying33 (by rfl) (by kernel_rfl) (x.cells (.slice xA x.steps.length xc)) (by rfl) (by rfl) ?_)
      refine (C3.out (wr.alloc (.cells (x.cells (.slice xA x.steps.length xc)).toArray 33 (0, 0))) (World.grownBy.refl _ _)).mono ?_
      rintro e w5 ⟨s2, rfl, hs2, hb5⟩
      have HS2 := hide hs2
      have HB5 := hide hb5
      have hq5 : w5.heap.size ≤ w5.heap.size := Nat.le_refl _
      clear hs2 hb5 C3
      go_wp2_with (refine wpList_store_box (by rfl) 33 _ _ (by rfl) q (k * 10) (x.cells s2).toArray (by rfl) (by rfl) 33 cur ((HB5.out.block q (by simp; omega)).trans (by exact HQ4.out)) (by kernel_rfl) (by exact (show k * 10 + 10 ≤ cur.size from by have := HCS.out; omega)) (by exact x.one (FlatAt.oneCell HS2.out.1)) ?_; intro w6 hq6 hg6; have HQ6 := hide hq6; have HG6 := hide hg6; clear hq6 hg6)
      have HB6 : Hid (Below wr.heap.size wr w5) := Below.trans (b := (wr.alloc (.cells (x.cells (.slice xA x.steps.length xc)).toArray 33 (0, 0)))) ((Below.refl wr.heap.size wr).alloc (Nat.le_refl _) _) (HB5.out.mono (by show _ ≤ (wr.alloc _).heap.size; simp))
      go_roundw
      case rel => exact ⟨k + 1, qs.set k (x, s2), by omega, by go_num, REL.out.step HX.out hBq HB6.out ⟨HS2.out.1.mono (fun j _ h => by have h2 : (wr.alloc _).heap.size ≤ j := h; simp at h2; omega), HS2.out.2.mono (fun j _ h => by have h2 : (wr.alloc _).heap.size ≤ j := h; simp at h2; omega)⟩ HC.out HQ6.out HG6.out⟩
      case measure => simp [intOf]; omega
    · obtain rfl : k = n := by omega
      go_wp2
      go_ret
      have hlen : qs.length = k := REL.out.len.trans HN.out
      have hnew : ∀ p ∈ qs, StepsAt (fun b => w.heap.size ≤ b ∧ some b ≠ (Value.slice A k c).ownBlock) wr p.2 p.1.steps ∧ Free (fun b => w.heap.size ≤ b ∧ some b ≠ (Value.slice A k c).ownBlock) wr p.2 := fun p hp => by
        obtain ⟨j, hj, hjp⟩ := List.mem_iff_getElem.1 hp
        exact REL.out.new j p (by omega) (by rw [List.getElem?_eq_getElem hj, hjp])
      have hown : wr.ownsRow w.heap.size 33 10 (.slice A k c) qs.length (qs.flatMap fun p => p.1.cells p.2) := by rw [REL.out.len]; exact REL.out.own
      exact ⟨_, qs, rfl, REL.out.same, ⟨⟨FlatAt.of_own hown (ops_one REL.out.one), fun p hp => (hnew p hp).1.mono fun _ _ h => h.1⟩, (Free.of_own hown).mono fun _ _ h => h.1, fun p hp => (hnew p hp).2.mono fun _ _ h => h.1, fun p hp => (hnew p hp).1.mono fun _ _ h => h.2⟩, hown, REL.out.below⟩
theorem copies_any (F : Nat → Prop) (l : List OpD) (v : Value) (w : World) (ho : OpsAt F w v l) (hn1 : l.length ≤ 1000000) (hs1 : ∀ o ∈ l, o.steps.length ≤ 1000000) :
    Calls Try.prog 56 #[v] w fun e w' => ∃ v' qs, e = .returned v' ∧ qs.map (·.1) = l ∧ OpsFree (w.heap.size ≤ ·) w' v' qs ∧ w'.ownsRow w.heap.size 33 10 v' qs.length (qs.flatMap fun p => p.1.cells p.2) ∧ Below w.heap.size w w' := by
  obtain ⟨ps, rfl, h⟩ := ho
  exact copies_own F ps v w h (by simpa using hn1) (fun p hp => hs1 p.1 (List.mem_map_of_mem hp))
end Go.Proofs.Ytaimnhlpdkpobaa
