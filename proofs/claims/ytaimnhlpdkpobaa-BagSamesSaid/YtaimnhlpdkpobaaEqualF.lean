/- slices.EqualFunc at two lists of operations, by op.Same. -/
import Derived.Test.YtaimnhlpdkpobaaSameOpB
import Derived.Test.YtaimnhlpdkpobaaSameOps
import Derived.Test.YtaimnhlpdkpobaaBox
namespace Go.Proofs.Ytaimnhlpdkpobaa
open Go.RowKit

def ozcells : Array Value := #[.int .i64 0, .int .i64 0, .int .i64 0, .string ⟨#[]⟩, .slice none 0 0, .int .i64 0, .int .i64 0, .int .i64 0, .bool false, .bool false]
theorem put_zop (x : OpD) (s : Value) : putAt ozcells 0 (x.cells s) = (x.cells s).toArray := by simp [ozcells, OpD.cells, putAt]

set_option maxHeartbeats 4000000 in
set_option maxRecDepth 100000 in
theorem equal_ops (F G : Nat → Prop) (v v2 : Value) (l m : List OpD) (w : World) (hl : OpsAt F w v l) (hm : OpsAt G w v2 m) :
    Calls Try.prog 44 #[v, v2, .func (.func 43) #[] #[]] w fun e w' => e = .returned (.bool (decide (l = m))) ∧ Below w.heap.size w w' := by
  obtain ⟨ps, hps, hl⟩ := hl
  obtain ⟨ps2, hps2, hm⟩ := hm
  obtain ⟨A, c, rfl, h1, h2, _⟩ := FlatAt.shape hl.1
  obtain ⟨A2, c2, rfl, h3, h4, _⟩ := FlatAt.shape hm.1
  unfold maxLen at h2 h4
  obtain ⟨n, hn⟩ : ∃ n, ps.length = n := ⟨_, rfl⟩
  obtain ⟨n2, hn2⟩ : ∃ n2, ps2.length = n2 := ⟨_, rfl⟩
  rw [hn] at h1 hl ⊢
  rw [hn2] at h3 hm ⊢
  have H1 := hide hl
  have H2 := hide hm
  have HN := hide hn
  have HN2 := hide hn2
  have HP := hide hps
  have HP2 := hide hps2
  have HLN : Hid (l.length = n) := by show _ = _; rw [← hps, List.length_map, hn]
  have HMN : Hid (m.length = n2) := by show _ = _; rw [← hps2, List.length_map, hn2]
  clear hl hm hn hn2 hps hps2
  by_cases hnm : n = n2
  · subst hnm
    have ht : ((n : Int) != (n : Int)) = false := by simp
    go_enter Try.func44, Try.ntmps44
    go_wp2
    go_loopw [17] (fun i wr => ∃ k : Nat, k ≤ n ∧ i = .int .i64 (k : Int) ∧ Alike l m k ∧ Below w.heap.size w wr) (fun i _ => n - (intOf i).toNat)
    case atStart => exact ⟨0, by omega, rfl, Alike.zero _ _, Below.refl _ _⟩
    case round =>
      obtain ⟨k, hk, rfl, hup, hb⟩ := hrel
      have HU := hide hup
      have HB := hide hb
      clear hup hb
      by_cases hkn : k < n
      · obtain ⟨x, s, b, off, c', hx, hv, _, _, hbl, hr, hs⟩ := OpsIn.at_ (H1.out.kept (Kept.of_below HB.out F)) (i := k) (by rw [HN.out]; exact hkn)
        rw [HN.out] at hv
        obtain ⟨rfl, rfl⟩ : A = some ⟨b, off, none⟩ ∧ c = c' := by injection hv with e1 _ e3; exact ⟨e1, e3⟩
        obtain ⟨y, s2, b2, off2, c2', hy, hv2, _, _, hbl2, hr2, hs2⟩ := OpsIn.at_ (H2.out.kept (Kept.of_below HB.out G)) (i := k) (by rw [HN2.out]; exact hkn)
        rw [HN2.out] at hv2
        obtain ⟨rfl, rfl⟩ : A2 = some ⟨b2, off2, none⟩ ∧ c2 = c2' := by injection hv2 with e1 _ e3; exact ⟨e1, e3⟩
        have HX := hide (map_at HP.out hx)
        have HY := hide (map_at HP2.out hy)
        have k1 := FlatAt.oneCell hs
        have k2 := FlatAt.oneCell hs2
        have HR := hide hr
        have HR2 : Hid (∀ w' : World, Below wr.heap.size wr w' → w'.rangeAt b2 (off2 + k * 10) (y.cells s2)) := fun w' hb j u hu => (World.cell?_of_block (Below.block hb b2 hbl2)).trans (hr2 j u hu)
        have C := hide (fun w' (hb : Below wr.heap.size wr w') => sameop_any F G s s2 x y w' (hs.kept (Kept.of_below hb F)) (hs2.kept (Kept.of_below hb G)))
        have HZ : Hid ((wr.alloc (.cells ozcells 33 (0, 0))).heap[wr.heap.size]? = some (.cells ozcells 33 (0, 0))) := heap_alloc_new _ _
        clear hx hy hv hv2 hr hr2 hs hs2
        obtain ⟨qd, hqd⟩ : ∃ z, decide (x = y) = z := ⟨_, rfl⟩
        rw [hqd] at C
        have HQ := hide hqd
        clear hqd
        go_wp2_with (first
          | (refine wpList_load_mid (by rfl) 33 _ (by rfl) b (off + k * 10) (by rfl) _ _ HR.out Try.underlying33 (by rfl) (by kernel_rfl) ?_)
          | (refine wpList_store_box (by rfl) 33 _ _ (by rfl) wr.heap.size 0 (x.cells s).toArray (by rfl) (by rfl) 33 ozcells HZ.out (by kernel_rfl) (by exact Nat.le_of_ble_eq_true rfl) (by exact x.one k1) ?_; intro w2 hb2 hg2; rw [put_zop] at hb2; have L2 : Hid (Below wr.heap.size wr w2) := ((Below.refl _ _).alloc (Nat.le_refl _) _).grown hg2 (by simp) (fun k hk => by have := Option.some.inj hk; omega))
          | (refine wpList_load_mid (by rfl) 33 _ (by rfl) b2 (off2 + k * 10) (by rfl) _ _ (HR2.out w2 L2.out) Try.underlying33 (by rfl) (by kernel_rfl) ?_)
          | (refine wpList_store_box (by rfl) 33 _ _ (by rfl) w2.heap.size 0 (y.cells s2).toArray (by rfl) (by rfl) 33 ozcells (heap_alloc_new w2 _) (by kernel_rfl) (by exact Nat.le_of_ble_eq_true rfl) (by exact y.one k2) ?_; intro w3 hb3 hg3; rw [put_zop] at hb3; have L3 : Hid (Below w2.heap.size w2 w3) := ((Below.refl _ _).alloc (Nat.le_refl _) _).grown hg3 (by simp) (fun k hk => by have := Option.some.inj hk; omega); have hb23 := (L3.out.block wr.heap.size (lt_of_block hb2)).trans hb2)
          | (refine wpList_load_box (by rfl) 33 _ (by rfl) wr.heap.size 0 (by rfl) 33 _ hb23 10 _ Try.underlying33 (by rfl) (by kernel_rfl) (x.cells s) (by rfl) (by rfl) ?_)
          | (refine wpList_load_box (by rfl) 33 _ (by rfl) w2.heap.size 0 (by rfl) 33 _ hb3 10 _ Try.underlying33 (by rfl) (by kernel_rfl) (y.cells s2) (by rfl) (by rfl) ?_))
        have L13 : Hid (Below wr.heap.size wr w3) := L2.out.trans (Below.mono L3.out L2.out.size)
        clear hb2 hg2 hb3 hg3 hb23 HZ
        refine (C.out w3 L13.out).mono ?_
        rintro e w4 ⟨rfl, hb4⟩
        have HB4 := hide (HB.out.trans ((L13.out.trans (Below.mono hb4 L13.out.size)).mono HB.out.size))
        clear hb4 C
        cases qd with
        | true =>
          have he := of_decide_eq_true HQ.out
          have HE := hide he
          clear he
          go_wp2
          go_roundw
          case rel => exact ⟨k + 1, by omega, by go_num, HU.out.next (HX.out.trans (by rw [HE.out]; exact HY.out.symm)), HB4.out⟩
          case measure => simp [intOf]; omega
        | false =>
          have HE := hide (ne_at HX.out HY.out (of_decide_eq_false HQ.out))
          go_wp2
          go_ret
          exact ⟨ret_bool (by simp [HE.out]), HB4.out⟩
      · go_wp2
        go_ret
        exact ⟨ret_bool (by simp [HU.out.all (by have := HLN.out; omega) (by have := HMN.out; omega)]), HB.out⟩
  · have ht : ((n : Int) != (n2 : Int)) = true := by simp; omega
    have HE : Hid (l ≠ m) := by
      rintro rfl
      exact hnm (HLN.out.symm.trans HMN.out)
    go_enter Try.func44, Try.ntmps44
    go_wp2
    go_ret
    exact ⟨ret_bool (by simp [HE.out]), Below.refl _ _⟩
end Go.Proofs.Ytaimnhlpdkpobaa
