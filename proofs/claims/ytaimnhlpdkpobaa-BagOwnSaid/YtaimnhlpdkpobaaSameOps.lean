/- The document's SameOps. -/
import Derived.Test.YtaimnhlpdkpobaaSameOp
namespace Go.Proofs.Ytaimnhlpdkpobaa
open Go.RowKit

theorem map_at {α β : Type} {f : α → β} {ps : List α} {l : List β} (h : ps.map f = l) {k : Nat} {x : α} (hx : ps[k]? = some x) : l[k]? = some (f x) := by
  rw [← h, List.getElem?_map, hx]
  rfl

set_option maxHeartbeats 2000000 in
set_option maxRecDepth 100000 in
theorem same_ops (F G : Nat → Prop) (v v2 : Value) (l m : List OpD) (w : World) (hl : OpsAt F w v l) (hm : OpsAt G w v2 m) :
    Calls Try.prog 38 #[v, v2] w fun e w' => e = .returned (.bool (decide (l = m))) ∧ Below w.heap.size w w' := by
  obtain ⟨ps, hps, hl⟩ := hl
  obtain ⟨ps2, hps2, hm⟩ := hm
  obtain ⟨A, c, rfl, h1, h2, _⟩ := FlatAt.shape hl.1
  obtain ⟨A2, c2, rfl, h3, h4, _⟩ := FlatAt.shape hm.1
  unfold maxLen at h2 h4
  obtain ⟨n, hn⟩ : ∃ n, ps.length = n := ⟨_, rfl⟩
  obtain ⟨n2, hn2⟩ : ∃ n2, ps2.length = n2 := ⟨_, rfl⟩
  rw [hn] at h1 hl ⊢
  rw [hn2] at h3 hm ⊢
  have H1 := hide hl
  have H2 := hide hm
  have HN := hide hn
  have HN2 := hide hn2
  have HP := hide hps
  have HP2 := hide hps2
  have HLN : Hid (l.length = n) := by show _ = _; rw [← hps, List.length_map, hn]
  have HMN : Hid (m.length = n2) := by show _ = _; rw [← hps2, List.length_map, hn2]
  clear hl hm hn hn2 hps hps2
  by_cases hnm : n = n2
  · subst hnm
    have ht : ((n : Int) != (n : Int)) = false := by simp
    go_enter Try.func38, Try.ntmps38
    go_wp2
    go_loopw [13] (fun i wr => ∃ k : Nat, k ≤ n ∧ i = .int .i64 (k : Int) ∧ Alike l m k ∧ Later w wr) (fun i _ => n - (intOf i).toNat)
    case atStart => exact ⟨0, by omega, rfl, Alike.zero _ _, Later.refl _⟩
    case round =>
      obtain ⟨k, hk, rfl, hup, hb⟩ := hrel
      have HU := hide hup
      have HB := hide hb
      clear hup hb
      by_cases hkn : k < n
      · obtain ⟨x, s, b, off, c', hx, hv, _, _, _, hr, hs⟩ := OpsIn.at_ (H1.out.kept (Kept.of_below HB.out F)) (i := k) (by rw [HN.out]; exact hkn)
        rw [HN.out] at hv
        obtain ⟨rfl, rfl⟩ : A = some ⟨b, off, none⟩ ∧ c = c' := by injection hv with e1 _ e3; exact ⟨e1, e3⟩
        obtain ⟨y, s2, b2, off2, c2', hy, hv2, _, _, _, hr2, hs2⟩ := OpsIn.at_ (H2.out.kept (Kept.of_below HB.out G)) (i := k) (by rw [HN2.out]; exact hkn)
        rw [HN2.out] at hv2
        obtain ⟨rfl, rfl⟩ : A2 = some ⟨b2, off2, none⟩ ∧ c2 = c2' := by injection hv2 with e1 _ e3; exact ⟨e1, e3⟩
        have HX := hide (map_at HP.out hx)
        have HY := hide (map_at HP2.out hy)
        have RX : Hid (∀ w' : World, Later wr w' → w'.rangeAt b (off + k * 10) (x.cells s)) := fun w' hb j u hu => by
          have hr' := hr j u hu
          exact (World.cell?_of_block (Below.block hb b (by assumption))).trans hr'
        have RY : Hid (∀ w' : World, Later wr w' → w'.rangeAt b2 (off2 + k * 10) (y.cells s2)) := fun w' hb j u hu => by
          have hr' := hr2 j u hu
          exact (World.cell?_of_block (Below.block hb b2 (by assumption))).trans hr'
        have C := hide (fun w' (hb : Later wr w') => same_op F G s s2 x y w' (hs.kept (Kept.of_below hb F)) (hs2.kept (Kept.of_below hb G)))
        have L0 : Hid (Later wr wr.drew) := Later.drew _
        clear hx hy hv hv2 hr hr2 hs hs2
        by_cases he : x = y
        · have hd : decide (x = y) = true := decide_eq_true he
          have HE := hide he
          clear he
          rw [hd] at C
          clear hd
          go_wp2
          refine wp_region_L (by kernel_rfl) ?_
          refine wpAnyL_take (i := 0) (d := some 16) (v := ?vap0) rfl rfl (by kernel_rfl) (by kernel_rfl) (by kernel_rfl) (fun _ _ _ h => h) (by rfl) ?yap0 ?_
          case yap0 => (intro w' hw'; go_simp; try (with_reducible rfl))
          simp only [Act.put, List.setIfInBounds_toArray, List.set_cons_zero, List.set_cons_succ]
          refine wpAnyL_take (i := 1) (d := some 17) (v := ?vap1) rfl rfl (by kernel_rfl) (by kernel_rfl) (by kernel_rfl) (fun _ _ _ h => h) (by rfl) ?yap1 ?_
          case yap1 => (intro w' hw'; go_simp; try (with_reducible rfl))
          simp only [Act.put, List.setIfInBounds_toArray, List.set_cons_zero, List.set_cons_succ]
          refine wpAnyL_take (i := 2) (d := some 18) (v := ?vap2) rfl rfl (by kernel_rfl) (by kernel_rfl) (by kernel_rfl) (fun _ _ _ h => h) (by rfl) ?yap2 ?_
          case yap2 => (intro w' hw'; go_simp; try (with_reducible rfl))
          simp only [Act.put, List.setIfInBounds_toArray, List.set_cons_zero, List.set_cons_succ]
          refine wpAnyL_take (i := 3) (d := some 19) (v := ?vap3) rfl rfl (by kernel_rfl) (by kernel_rfl) (by kernel_rfl) (fun _ _ _ h => h) (by rfl) ?yap3 ?_
          case yap3 => (intro w' hw'; obtain ⟨r0, r1, r2, r3, r4, r5, r6, r7, r8, r9⟩ := range_op (RX.out w' (L0.out.trans hw')); go_simp; try (with_reducible rfl))
          simp only [Act.put, List.setIfInBounds_toArray, List.set_cons_zero, List.set_cons_succ]
          refine wpAnyL_take (i := 4) (d := some 20) (v := ?vap4) rfl rfl (by kernel_rfl) (by kernel_rfl) (by kernel_rfl) (fun _ _ _ h => h) (by rfl) ?yap4 ?_
          case yap4 => (intro w' hw'; go_simp; try (with_reducible rfl))
          simp only [Act.put, List.setIfInBounds_toArray, List.set_cons_zero, List.set_cons_succ]
          refine wpAnyL_take (i := 5) (d := some 21) (v := ?vap5) rfl rfl (by kernel_rfl) (by kernel_rfl) (by kernel_rfl) (fun _ _ _ h => h) (by rfl) ?yap5 ?_
          case yap5 => (intro w' hw'; go_simp; try (with_reducible rfl))
          simp only [Act.put, List.setIfInBounds_toArray, List.set_cons_zero, List.set_cons_succ]
          refine wpAnyL_take (i := 6) (d := some 22) (v := ?vap6) rfl rfl (by kernel_rfl) (by kernel_rfl) (by kernel_rfl) (fun _ _ _ h => h) (by rfl) ?yap6 ?_
          case yap6 => (intro w' hw'; go_simp; try (with_reducible rfl))
          simp only [Act.put, List.setIfInBounds_toArray, List.set_cons_zero, List.set_cons_succ]
          refine wpAnyL_take (i := 7) (d := some 23) (v := ?vap7) rfl rfl (by kernel_rfl) (by kernel_rfl) (by kernel_rfl) (fun _ _ _ h => h) (by rfl) ?yap7 ?_
          case yap7 => (intro w' hw'; obtain ⟨r0, r1, r2, r3, r4, r5, r6, r7, r8, r9⟩ := range_op (RY.out w' (L0.out.trans hw')); go_simp; try (with_reducible rfl))
          simp only [Act.put, List.setIfInBounds_toArray, List.set_cons_zero, List.set_cons_succ]
          refine wpAnyL_only (i := 8) rfl (by kernel_rfl) (by rfl) fun K hK => ?_
          go_simp
          refine (C.out _ L0.out).mono ?_
          rintro e w8 ⟨rfl, hb8⟩
          have L8 : Hid (Later wr w8) := L0.out.trans hb8
          have HB8 := hide hb8
          clear hb8
          refine hK.out _ _ HB8.out ?_
          clear hK K
          try simp only [Act.put, List.setIfInBounds_toArray, List.set_cons_zero, List.set_cons_succ]
          refine wpAnyL_take (i := 9) (d := some 25) (v := ?vap9) rfl rfl (by kernel_rfl) (by kernel_rfl) (by kernel_rfl) (fun _ _ _ h => h) (by rfl) ?yap9 ?_
          case yap9 => (intro w' hw'; go_simp; try (with_reducible rfl))
          simp only [Act.put, List.setIfInBounds_toArray, List.set_cons_zero, List.set_cons_succ]
          refine wpAnyL_done (by kernel_rfl) ?_ _
          go_wp2
          go_roundw
          case rel => exact ⟨k + 1, by omega, by go_num, HU.out.next (HX.out.trans (by rw [HE.out]; exact HY.out.symm)), HB.out.trans L8.out⟩
          case measure => simp [intOf]; omega
        · have hd : decide (x = y) = false := decide_eq_false he
          have HE := hide (ne_at HX.out HY.out he)
          clear he
          rw [hd] at C
          clear hd
          go_wp2
          refine wp_region_L (by kernel_rfl) ?_
          refine wpAnyL_take (i := 0) (d := some 16) (v := ?vaq0) rfl rfl (by kernel_rfl) (by kernel_rfl) (by kernel_rfl) (fun _ _ _ h => h) (by rfl) ?yaq0 ?_
          case yaq0 => (intro w' hw'; go_simp; try (with_reducible rfl))
          simp only [Act.put, List.setIfInBounds_toArray, List.set_cons_zero, List.set_cons_succ]
          refine wpAnyL_take (i := 1) (d := some 17) (v := ?vaq1) rfl rfl (by kernel_rfl) (by kernel_rfl) (by kernel_rfl) (fun _ _ _ h => h) (by rfl) ?yaq1 ?_
          case yaq1 => (intro w' hw'; go_simp; try (with_reducible rfl))
          simp only [Act.put, List.setIfInBounds_toArray, List.set_cons_zero, List.set_cons_succ]
          refine wpAnyL_take (i := 2) (d := some 18) (v := ?vaq2) rfl rfl (by kernel_rfl) (by kernel_rfl) (by kernel_rfl) (fun _ _ _ h => h) (by rfl) ?yaq2 ?_
          case yaq2 => (intro w' hw'; go_simp; try (with_reducible rfl))
          simp only [Act.put, List.setIfInBounds_toArray, List.set_cons_zero, List.set_cons_succ]
          refine wpAnyL_take (i := 3) (d := some 19) (v := ?vaq3) rfl rfl (by kernel_rfl) (by kernel_rfl) (by kernel_rfl) (fun _ _ _ h => h) (by rfl) ?yaq3 ?_
          case yaq3 => (intro w' hw'; obtain ⟨r0, r1, r2, r3, r4, r5, r6, r7, r8, r9⟩ := range_op (RX.out w' (L0.out.trans hw')); go_simp; try (with_reducible rfl))
          simp only [Act.put, List.setIfInBounds_toArray, List.set_cons_zero, List.set_cons_succ]
          refine wpAnyL_take (i := 4) (d := some 20) (v := ?vaq4) rfl rfl (by kernel_rfl) (by kernel_rfl) (by kernel_rfl) (fun _ _ _ h => h) (by rfl) ?yaq4 ?_
          case yaq4 => (intro w' hw'; go_simp; try (with_reducible rfl))
          simp only [Act.put, List.setIfInBounds_toArray, List.set_cons_zero, List.set_cons_succ]
          refine wpAnyL_take (i := 5) (d := some 21) (v := ?vaq5) rfl rfl (by kernel_rfl) (by kernel_rfl) (by kernel_rfl) (fun _ _ _ h => h) (by rfl) ?yaq5 ?_
          case yaq5 => (intro w' hw'; go_simp; try (with_reducible rfl))
          simp only [Act.put, List.setIfInBounds_toArray, List.set_cons_zero, List.set_cons_succ]
          refine wpAnyL_take (i := 6) (d := some 22) (v := ?vaq6) rfl rfl (by kernel_rfl) (by kernel_rfl) (by kernel_rfl) (fun _ _ _ h => h) (by rfl) ?yaq6 ?_
          case yaq6 => (intro w' hw'; go_simp; try (with_reducible rfl))
          simp only [Act.put, List.setIfInBounds_toArray, List.set_cons_zero, List.set_cons_succ]
          refine wpAnyL_take (i := 7) (d := some 23) (v := ?vaq7) rfl rfl (by kernel_rfl) (by kernel_rfl) (by kernel_rfl) (fun _ _ _ h => h) (by rfl) ?yaq7 ?_
          case yaq7 => (intro w' hw'; obtain ⟨r0, r1, r2, r3, r4, r5, r6, r7, r8, r9⟩ := range_op (RY.out w' (L0.out.trans hw')); go_simp; try (with_reducible rfl))
          simp only [Act.put, List.setIfInBounds_toArray, List.set_cons_zero, List.set_cons_succ]
          refine wpAnyL_only (i := 8) rfl (by kernel_rfl) (by rfl) fun K hK => ?_
          go_simp
          refine (C.out _ L0.out).mono ?_
          rintro e w8 ⟨rfl, hb8⟩
          have L8 : Hid (Later wr w8) := L0.out.trans hb8
          have HB8 := hide hb8
          clear hb8
          refine hK.out _ _ HB8.out ?_
          clear hK K
          try simp only [Act.put, List.setIfInBounds_toArray, List.set_cons_zero, List.set_cons_succ]
          refine wpAnyL_take (i := 9) (d := some 25) (v := ?vaq9) rfl rfl (by kernel_rfl) (by kernel_rfl) (by kernel_rfl) (fun _ _ _ h => h) (by rfl) ?yaq9 ?_
          case yaq9 => (intro w' hw'; go_simp; try (with_reducible rfl))
          simp only [Act.put, List.setIfInBounds_toArray, List.set_cons_zero, List.set_cons_succ]
          refine wpAnyL_done (by kernel_rfl) ?_ _
          go_wp2
          go_ret
          exact ⟨ret_bool (by simp [HE.out]), HB.out.trans L8.out⟩
      · go_wp2
        go_ret
        exact ⟨ret_bool (by simp [HU.out.all (by have := HLN.out; omega) (by have := HMN.out; omega)]), HB.out⟩
  · have ht : ((n : Int) != (n2 : Int)) = true := by simp; omega
    have HE : Hid (l ≠ m) := by
      rintro rfl
      exact hnm (HLN.out.symm.trans HMN.out)
    go_enter Try.func38, Try.ntmps38
    go_wp2
    go_ret
    exact ⟨ret_bool (by simp [HE.out]), Below.refl _ _⟩
end Go.Proofs.Ytaimnhlpdkpobaa
