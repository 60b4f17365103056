/- Whose log goes on: Choose, its closure, and the document's. -/
import Derived.Test.YtnmkndnaomgmhaaPickM
import Derived.Test.YtnmkndnaomgmhaaOrder
import Derived.Deep.QuietTactic
import Derived.BigQuiet
namespace Go.Proofs.Ytnmkndnaomgmhaa
open Go.RowKit

/-- What lies at a place of the list, as Choose looks at it. -/
def LookAt (w : World) (b off k : Nat) (l : Int) (o : Option Addr) (n c : Nat) : Prop := w.cell? ⟨b, off + k * 34 + 4, none⟩ = some (.int .i64 l) ∧ w.cell? ⟨b, off + k * 34 + 32, none⟩ = some (.slice o n c)
set_option maxHeartbeats 2000000 in
set_option maxRecDepth 100000 in
theorem better_any {w : World} {bx b off len cap i j : Nat} {l1 l2 : Int} {o1 o2 : Option Addr} {n1 n2 c1 c2 : Nat} (hb : w.heap[bx]? = some (.cells #[.slice (some ⟨b, off, none⟩) len cap] 39 (0, 0)))
    (hbw : b < w.heap.size) (hi : i < len) (hj : j < len) (h1 : LookAt w b off i l1 o1 n1 c1) (h2 : LookAt w b off j l2 o2 n2 c2) :
    Calls Try.prog 40 #[.int .i64 (i : Int), .int .i64 (j : Int), .pointer (some ⟨bx, 0, none⟩)] w fun e w' => e = .returned (.bool (betterB l1 n1 l2 n2)) ∧ Below w.heap.size w w' := by
  have FB : Hid (∀ w', Below w.heap.size w w' → w'.cell? ⟨bx, 0, none⟩ = some (.slice (some ⟨b, off, none⟩) len cap)) := fun w' h => cell_of_row w' bx 0 _ _ _ ((h.block bx (lt_of_block hb)).trans hb)
  have F1 : Hid (∀ w', Below w.heap.size w w' → w'.cell? ⟨b, off + i * 34 + 4, none⟩ = some (.int .i64 l1) ∧ w'.cell? ⟨b, off + i * 34 + 32, none⟩ = some (.slice o1 n1 c1)) := fun w' h => ⟨(h.cell (p := ⟨b, off + i * 34 + 4, none⟩) hbw).trans h1.1, (h.cell (p := ⟨b, off + i * 34 + 32, none⟩) hbw).trans h1.2⟩
  have F2 : Hid (∀ w', Below w.heap.size w w' → w'.cell? ⟨b, off + j * 34 + 4, none⟩ = some (.int .i64 l2) ∧ w'.cell? ⟨b, off + j * 34 + 32, none⟩ = some (.slice o2 n2 c2)) := fun w' h => ⟨(h.cell (p := ⟨b, off + j * 34 + 4, none⟩) hbw).trans h2.1, (h.cell (p := ⟨b, off + j * 34 + 32, none⟩) hbw).trans h2.2⟩
  have L0 : Hid (Below w.heap.size w w.drew) := (Below.refl _ _).drew
  have HR := hide (better_cmp l1 n1 l2 n2)
  obtain ⟨r1, hr1⟩ : ∃ r, r = cmpI l1 l2 := ⟨_, rfl⟩
  obtain ⟨r2, hr2⟩ : ∃ r, r = cmpI (n1 : Int) (n2 : Int) := ⟨_, rfl⟩
  have C1 := hide (compare_any l1 l2)
  have C2 := hide (compare_any (n1 : Int) (n2 : Int))
  rw [← hr1] at C1 HR
  rw [← hr2] at C2 HR
  clear hb hbw h1 h2 hr1 hr2
  go_enter Try.func40, Try.ntmps40
  go_wp2
  refine wp_region_L (by kernel_rfl) ?_
  refine wpAnyL_take (i := 0) (d := some 6) (v := .slice (some ⟨b, off, none⟩) len cap) rfl rfl (by kernel_rfl) (by kernel_rfl) (by kernel_rfl) (fun _ _ _ h => h) (by rfl) ?yab0 ?_
  case yab0 => (intro w' hw'; have d1 := FB.out w' (L0.out.trans hw'); go_simp; try (with_reducible rfl))
  simp only [Act.put]; try simp only [List.setIfInBounds_toArray]; try simp only [List.set_cons_zero, List.set_cons_succ]
  refine wpAnyL_take (i := 1) (d := some 7) (v := ?vab1) rfl rfl (by kernel_rfl) (by kernel_rfl) (by kernel_rfl) (fun _ _ _ h => h) (by rfl) ?yab1 ?_
  case yab1 => (intro w' hw'; go_simp; try (with_reducible rfl))
  simp only [Act.put]; try simp only [List.setIfInBounds_toArray]; try simp only [List.set_cons_zero, List.set_cons_succ]
  refine wpAnyL_take (i := 2) (d := some 8) (v := ?vab2) rfl rfl (by kernel_rfl) (by kernel_rfl) (by kernel_rfl) (fun _ _ _ h => h) (by rfl) ?yab2 ?_
  case yab2 => (intro w' hw'; go_simp; try (with_reducible rfl))
  simp only [Act.put]; try simp only [List.setIfInBounds_toArray]; try simp only [List.set_cons_zero, List.set_cons_succ]
  refine wpAnyL_take (i := 3) (d := some 9) (v := ?vab3) rfl rfl (by kernel_rfl) (by kernel_rfl) (by kernel_rfl) (fun _ _ _ h => h) (by rfl) ?yab3 ?_
  case yab3 => (intro w' hw'; go_simp; try (with_reducible rfl))
  simp only [Act.put]; try simp only [List.setIfInBounds_toArray]; try simp only [List.set_cons_zero, List.set_cons_succ]
  refine wpAnyL_take (i := 4) (d := some 10) (v := .int .i64 l1) rfl rfl (by kernel_rfl) (by kernel_rfl) (by kernel_rfl) (fun _ _ _ h => h) (by rfl) ?yab4 ?_
  case yab4 => (intro w' hw'; obtain ⟨d2, d3⟩ := F1.out w' (L0.out.trans hw'); go_simp; try (with_reducible rfl))
  simp only [Act.put]; try simp only [List.setIfInBounds_toArray]; try simp only [List.set_cons_zero, List.set_cons_succ]
  refine wpAnyL_take (i := 5) (d := some 11) (v := .slice (some ⟨b, off, none⟩) len cap) rfl rfl (by kernel_rfl) (by kernel_rfl) (by kernel_rfl) (fun _ _ _ h => h) (by rfl) ?yab5 ?_
  case yab5 => (intro w' hw'; have d1 := FB.out w' (L0.out.trans hw'); go_simp; try (with_reducible rfl))
  simp only [Act.put]; try simp only [List.setIfInBounds_toArray]; try simp only [List.set_cons_zero, List.set_cons_succ]
  refine wpAnyL_take (i := 6) (d := some 12) (v := ?vab6) rfl rfl (by kernel_rfl) (by kernel_rfl) (by kernel_rfl) (fun _ _ _ h => h) (by rfl) ?yab6 ?_
  case yab6 => (intro w' hw'; go_simp; try (with_reducible rfl))
  simp only [Act.put]; try simp only [List.setIfInBounds_toArray]; try simp only [List.set_cons_zero, List.set_cons_succ]
  refine wpAnyL_take (i := 7) (d := some 13) (v := ?vab7) rfl rfl (by kernel_rfl) (by kernel_rfl) (by kernel_rfl) (fun _ _ _ h => h) (by rfl) ?yab7 ?_
  case yab7 => (intro w' hw'; go_simp; try (with_reducible rfl))
  simp only [Act.put]; try simp only [List.setIfInBounds_toArray]; try simp only [List.set_cons_zero, List.set_cons_succ]
  refine wpAnyL_take (i := 8) (d := some 14) (v := ?vab8) rfl rfl (by kernel_rfl) (by kernel_rfl) (by kernel_rfl) (fun _ _ _ h => h) (by rfl) ?yab8 ?_
  case yab8 => (intro w' hw'; go_simp; try (with_reducible rfl))
  simp only [Act.put]; try simp only [List.setIfInBounds_toArray]; try simp only [List.set_cons_zero, List.set_cons_succ]
  refine wpAnyL_take (i := 9) (d := some 15) (v := .int .i64 l2) rfl rfl (by kernel_rfl) (by kernel_rfl) (by kernel_rfl) (fun _ _ _ h => h) (by rfl) ?yab9 ?_
  case yab9 => (intro w' hw'; obtain ⟨d2, d3⟩ := F2.out w' (L0.out.trans hw'); go_simp; try (with_reducible rfl))
  simp only [Act.put]; try simp only [List.setIfInBounds_toArray]; try simp only [List.set_cons_zero, List.set_cons_succ]
  refine wpAnyL_take (i := 11) (d := some 17) (v := .slice (some ⟨b, off, none⟩) len cap) rfl rfl (by kernel_rfl) (by kernel_rfl) (by kernel_rfl) (fun _ _ _ h => h) (by rfl) ?yab11 ?_
  case yab11 => (intro w' hw'; have d1 := FB.out w' (L0.out.trans hw'); go_simp; try (with_reducible rfl))
  simp only [Act.put]; try simp only [List.setIfInBounds_toArray]; try simp only [List.set_cons_zero, List.set_cons_succ]
  refine wpAnyL_take (i := 12) (d := some 18) (v := ?vab12) rfl rfl (by kernel_rfl) (by kernel_rfl) (by kernel_rfl) (fun _ _ _ h => h) (by rfl) ?yab12 ?_
  case yab12 => (intro w' hw'; go_simp; try (with_reducible rfl))
  simp only [Act.put]; try simp only [List.setIfInBounds_toArray]; try simp only [List.set_cons_zero, List.set_cons_succ]
  refine wpAnyL_take (i := 13) (d := some 19) (v := ?vab13) rfl rfl (by kernel_rfl) (by kernel_rfl) (by kernel_rfl) (fun _ _ _ h => h) (by rfl) ?yab13 ?_
  case yab13 => (intro w' hw'; go_simp; try (with_reducible rfl))
  simp only [Act.put]; try simp only [List.setIfInBounds_toArray]; try simp only [List.set_cons_zero, List.set_cons_succ]
  refine wpAnyL_take (i := 14) (d := some 20) (v := ?vab14) rfl rfl (by kernel_rfl) (by kernel_rfl) (by kernel_rfl) (fun _ _ _ h => h) (by rfl) ?yab14 ?_
  case yab14 => (intro w' hw'; go_simp; try (with_reducible rfl))
  simp only [Act.put]; try simp only [List.setIfInBounds_toArray]; try simp only [List.set_cons_zero, List.set_cons_succ]
  refine wpAnyL_take (i := 15) (d := some 21) (v := .slice o1 n1 c1) rfl rfl (by kernel_rfl) (by kernel_rfl) (by kernel_rfl) (fun _ _ _ h => h) (by rfl) ?yab15 ?_
  case yab15 => (intro w' hw'; obtain ⟨d2, d3⟩ := F1.out w' (L0.out.trans hw'); go_simp; try (with_reducible rfl))
  simp only [Act.put]; try simp only [List.setIfInBounds_toArray]; try simp only [List.set_cons_zero, List.set_cons_succ]
  refine wpAnyL_take (i := 16) (d := some 22) (v := ?vab16) rfl rfl (by kernel_rfl) (by kernel_rfl) (by kernel_rfl) (fun _ _ _ h => h) (by rfl) ?yab16 ?_
  case yab16 => (intro w' hw'; go_simp; try (with_reducible rfl))
  simp only [Act.put]; try simp only [List.setIfInBounds_toArray]; try simp only [List.set_cons_zero, List.set_cons_succ]
  refine wpAnyL_take (i := 17) (d := some 23) (v := .slice (some ⟨b, off, none⟩) len cap) rfl rfl (by kernel_rfl) (by kernel_rfl) (by kernel_rfl) (fun _ _ _ h => h) (by rfl) ?yab17 ?_
  case yab17 => (intro w' hw'; have d1 := FB.out w' (L0.out.trans hw'); go_simp; try (with_reducible rfl))
  simp only [Act.put]; try simp only [List.setIfInBounds_toArray]; try simp only [List.set_cons_zero, List.set_cons_succ]
  refine wpAnyL_take (i := 18) (d := some 24) (v := ?vab18) rfl rfl (by kernel_rfl) (by kernel_rfl) (by kernel_rfl) (fun _ _ _ h => h) (by rfl) ?yab18 ?_
  case yab18 => (intro w' hw'; go_simp; try (with_reducible rfl))
  simp only [Act.put]; try simp only [List.setIfInBounds_toArray]; try simp only [List.set_cons_zero, List.set_cons_succ]
  refine wpAnyL_take (i := 19) (d := some 25) (v := ?vab19) rfl rfl (by kernel_rfl) (by kernel_rfl) (by kernel_rfl) (fun _ _ _ h => h) (by rfl) ?yab19 ?_
  case yab19 => (intro w' hw'; go_simp; try (with_reducible rfl))
  simp only [Act.put]; try simp only [List.setIfInBounds_toArray]; try simp only [List.set_cons_zero, List.set_cons_succ]
  refine wpAnyL_take (i := 20) (d := some 26) (v := ?vab20) rfl rfl (by kernel_rfl) (by kernel_rfl) (by kernel_rfl) (fun _ _ _ h => h) (by rfl) ?yab20 ?_
  case yab20 => (intro w' hw'; go_simp; try (with_reducible rfl))
  simp only [Act.put]; try simp only [List.setIfInBounds_toArray]; try simp only [List.set_cons_zero, List.set_cons_succ]
  refine wpAnyL_take (i := 21) (d := some 27) (v := .slice o2 n2 c2) rfl rfl (by kernel_rfl) (by kernel_rfl) (by kernel_rfl) (fun _ _ _ h => h) (by rfl) ?yab21 ?_
  case yab21 => (intro w' hw'; obtain ⟨d2, d3⟩ := F2.out w' (L0.out.trans hw'); go_simp; try (with_reducible rfl))
  simp only [Act.put]; try simp only [List.setIfInBounds_toArray]; try simp only [List.set_cons_zero, List.set_cons_succ]
  refine wpAnyL_take (i := 22) (d := some 28) (v := ?vab22) rfl rfl (by kernel_rfl) (by kernel_rfl) (by kernel_rfl) (fun _ _ _ h => h) (by rfl) ?yab22 ?_
  case yab22 => (intro w' hw'; go_simp; try (with_reducible rfl))
  simp only [Act.put]; try simp only [List.setIfInBounds_toArray]; try simp only [List.set_cons_zero, List.set_cons_succ]
  refine wpAnyL_only (i := 10) rfl (by kernel_rfl) (by rfl) fun K hK => ?_
  go_simp
  refine (C1.out _).mono ?_
  rintro e w3 ⟨rfl, rfl⟩
  refine hK.out _ _ (Later.refl _) ?_
  clear hK K
  try (simp only [Act.put]; try simp only [List.setIfInBounds_toArray]; try simp only [List.set_cons_zero, List.set_cons_succ])
  refine wpAnyL_only (i := 23) rfl (by kernel_rfl) (by rfl) fun K hK => ?_
  go_simp
  refine (C2.out _).mono ?_
  rintro e w3 ⟨rfl, rfl⟩
  refine hK.out _ _ (Later.refl _) ?_
  clear hK K
  try (simp only [Act.put]; try simp only [List.setIfInBounds_toArray]; try simp only [List.set_cons_zero, List.set_cons_succ])
  refine wpAnyL_only (i := 24) rfl (by kernel_rfl) (by rfl) fun K hK => ?_
  go_simp
  refine hK.out _ _ (show Below w.drew.heap.size w.drew (w.drew.alloc (.cells #[.int .i64 r1, .int .i64 r2] 3 (0, 0))) from (Below.refl _ _).alloc (Nat.le_refl _) _) ?_
  have HO := hide (or_any (w := w.drew.alloc (.cells #[.int .i64 r1, .int .i64 r2] 3 (0, 0))) (heap_alloc_new w.drew _))
  have L1 : Hid (Below w.heap.size w (w.drew.alloc (.cells #[.int .i64 r1, .int .i64 r2] 3 (0, 0)))) := L0.out.alloc L0.out.size _
  clear hK K
  try (simp only [Act.put]; try simp only [List.setIfInBounds_toArray]; try simp only [List.set_cons_zero, List.set_cons_succ])
  refine wpAnyL_only (i := 25) rfl (by kernel_rfl) (by rfl) fun K hK => ?_
  go_simp
  refine HO.out.mono ?_
  rintro e w3 ⟨rfl, rfl⟩
  refine hK.out _ _ (Later.refl _) ?_
  clear hK K
  try (simp only [Act.put]; try simp only [List.setIfInBounds_toArray]; try simp only [List.set_cons_zero, List.set_cons_succ])
  refine wpAnyL_take (i := 26) (d := some 32) (v := ?vab26) rfl rfl (by kernel_rfl) (by kernel_rfl) (by kernel_rfl) (fun _ _ _ h => h) (by rfl) ?yab26 ?_
  case yab26 => (intro w' hw'; go_simp; try (with_reducible rfl))
  simp only [Act.put]; try simp only [List.setIfInBounds_toArray]; try simp only [List.set_cons_zero, List.set_cons_succ]
  refine wpAnyL_take (i := 27) (d := some 5) (v := ?vab27) rfl rfl (by kernel_rfl) (by kernel_rfl) (by kernel_rfl) (fun _ _ _ h => h) (by rfl) ?yab27 ?_
  case yab27 => (intro w' hw'; go_simp; try (with_reducible rfl))
  simp only [Act.put]; try simp only [List.setIfInBounds_toArray]; try simp only [List.set_cons_zero, List.set_cons_succ]
  refine wpAnyL_done (by kernel_rfl) ?_ _
  go_wp2
  go_ret
  exact ⟨ret_bool HR.out, L1.out⟩

/-- What Choose has found, in the code's words and in the document's. -/
def bestN (o : Option Nat) : Int := match o with | none => 0 | some b => (b : Int)
def bestR (o : Option Nat) : Int := match o with | none => -1 | some b => (b : Int)
theorem look_kept {w w' : World} {b off k : Nat} {l : Int} {o : Option Addr} {n c : Nat} (h : w.cell? ⟨b, off + k * 34 + 4, none⟩ = some (.int .i64 l) ∧ w.cell? ⟨b, off + k * 34 + 32, none⟩ = some (.slice o n c)) (hb : Below w.heap.size w w') (hlt : b < w.heap.size) : LookAt w' b off k l o n c :=
  ⟨(hb.cell (p := ⟨b, off + k * 34 + 4, none⟩) hlt).trans h.1, (hb.cell (p := ⟨b, off + k * 34 + 32, none⟩) hlt).trans h.2⟩

set_option maxHeartbeats 4000000 in
set_option maxRecDepth 100000 in
theorem choose_any {w : World} {A : Option Addr} {len cap : Nat} {ps : List MsgV} (h : MsgsIn (· < w.heap.size) w (.slice A len cap) ps) (hlen : len = ps.length) :
    Calls Try.prog 31 #[.slice A len cap] w fun e w' => e = .returned (.tuple #[.int .i64 (bestN (pickUp ps ps.length)), .bool (pickUp ps ps.length).isSome]) ∧ Below w.heap.size w w' := by
  subst hlen
  have H := hide h
  obtain ⟨_, _, _, hx1, hx2, _⟩ := FlatAt.shape h.1
  have hmx : ps.length ≤ 9223372036854775807 := by unfold maxLen at hx2; omega
  clear h hx1 hx2
  go_enter Try.func31, Try.ntmps31
  go_wp2
  obtain ⟨w0, hw0⟩ : ∃ w0, w0 = w.alloc (.cells #[.slice A ps.length cap] 39 (0, 0)) := ⟨_, rfl⟩
  have HB0 : Hid (w0.heap[w.heap.size]? = some (.cells #[.slice A ps.length cap] 39 (0, 0))) := by rw [hw0]; exact heap_alloc_new _ _
  have L0 : Hid (Below w.heap.size w w0) := by rw [hw0]; exact (Below.refl _ _).alloc (Nat.le_refl _) _
  have S0 : Hid (w.heap.size < w0.heap.size) := by rw [hw0]; show _ < _; simp
  rw [← hw0]
  clear hw0
  go_loopw [5, 6, 11] (fun v f j wr => ∃ k : Nat, k ≤ ps.length ∧ j = .int .i64 (k : Int) ∧ v = .int .i64 (bestN (pickUp ps k)) ∧ f = .bool (pickUp ps k).isSome ∧ Below w0.heap.size w0 wr) (fun _ _ j _ => ps.length - (Go.RowKit.intOf j).toNat)
  case atStart => exact ⟨0, by omega, rfl, rfl, rfl, Below.refl _ _⟩
  case round =>
    obtain ⟨k, hk, rfl, rfl, rfl, hb⟩ := hrel
    have HB := hide hb
    clear hb
    have BW : Hid (Below w.heap.size w wr) := L0.out.trans (HB.out.mono (Nat.le_of_lt S0.out))
    have HBX : Hid (wr.heap[w.heap.size]? = some (.cells #[.slice A ps.length cap] 39 (0, 0))) := (HB.out.block w.heap.size S0.out).trans HB0.out
    have cb := cell_of_row wr w.heap.size 0 _ _ _ HBX.out
    by_cases hkn : k < ps.length
    · obtain ⟨p, b, off, o1, c1, hp, rfl, _, hbf, hbl, r0, r4, r32, _⟩ := (H.out.kept (Kept.of_below BW.out _)).look hkn
      have HP := hide hp
      have HL1 : Hid (LookAt wr b off k p.m.last o1 p.m.ops.length c1) := ⟨r4, r32⟩
      have HBL := hide hbl
      obtain ⟨kd, hkd⟩ : ∃ x, x = p.m.kind := ⟨_, rfl⟩
      rw [← hkd] at r0
      clear hp hbf hbl r4 r32
      by_cases h7 : kd = 7
      · have t7 : (kd == 7) = true := by simpa using h7
        have HK : Hid (p.m.kind = 7) := hkd.symm.trans h7
        clear h7 hkd
        rcases hpk : pickUp ps k with _ | bb
        · have HN := hide (pick_first HP.out HK.out hpk)
          clear hpk
          rw [show bestN none = 0 from rfl, show (none : Option Nat).isSome = false from rfl]
          go_wp2
          go_roundw
          case rel => exact ⟨k + 1, by omega, by go_num, by rw [HN.out]; rfl, by rw [HN.out]; rfl, HB.out⟩
          case measure => simp [Go.RowKit.intOf]; omega
        · have hbk : bb < k := pick_lt hpk
          obtain ⟨p2, b2, off2, o2, c2, hp2, hA2, _, _, _, _, q4, q32, _⟩ := (H.out.kept (Kept.of_below BW.out _)).look (k := bb) (by omega)
          obtain ⟨rfl, rfl⟩ : b = b2 ∧ off = off2 := by injection hA2 with e; injection e with e1 e2; exact ⟨e1, e2⟩
          have HN := hide (pick_next HP.out HK.out hpk hp2)
          have C := hide (better_any HBX.out HBL.out hkn (show bb < ps.length by omega) HL1.out ⟨q4, q32⟩)
          obtain ⟨bt, hbt⟩ : ∃ x, x = betterB p.m.last p.m.ops.length p2.m.last p2.m.ops.length := ⟨_, rfl⟩
          rw [← hbt] at C HN
          clear hpk hp2 q4 q32 hA2 hbt
          rw [show bestN (some bb) = (bb : Int) from rfl, show (some bb).isSome = true from rfl]
          go_wp2_with (fail)
          refine C.out.mono ?_
          rintro e w3 ⟨rfl, hb3⟩
          have B3 : Hid (Below w0.heap.size w0 w3) := HB.out.trans (hb3.mono HB.out.size)
          clear hb3
          cases bt with
          | true =>
            go_wp2
            go_roundw
            case rel => exact ⟨k + 1, by omega, by go_num, by rw [HN.out]; rfl, by rw [HN.out]; rfl, B3.out⟩
            case measure => simp [Go.RowKit.intOf]; omega
          | false =>
            go_wp2
            go_roundw
            case rel => exact ⟨k + 1, by omega, by go_num, by rw [HN.out]; rfl, by rw [HN.out]; rfl, B3.out⟩
            case measure => simp [Go.RowKit.intOf]; omega
      · have t7 : (kd == 7) = false := by simpa using h7
        have HN := hide (pick_other HP.out (by rw [← hkd]; exact h7))
        clear h7 hkd
        go_wp2
        go_roundw
        case rel => exact ⟨k + 1, by omega, by go_num, by rw [HN.out], by rw [HN.out], HB.out⟩
        case measure => simp [Go.RowKit.intOf]; omega
    · obtain rfl : k = ps.length := by omega
      have hf : decide (ps.length < ps.length) = false := by simp
      go_wp2
      go_ret2
      exact ⟨rfl, BW.out⟩
end Go.Proofs.Ytnmkndnaomgmhaa
